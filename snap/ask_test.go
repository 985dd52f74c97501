package snap_test

import (
	"bytes"
	"fmt"
	"math"
	"slices"
	"testing"

	"cornhill/api"
	"cornhill/book"
	"cornhill/feed"
	"cornhill/snap"
)

const (
	lowest  = math.MinInt64
	highest = math.MaxInt64
)

// sides are those that there are.
var sides = []int{api.Buy, api.Sell}

// numbers are ones that a Long holds.
var numbers = []int64{0, 1, -1, 5, 255, 256, -256, 1 << 31, 1 << 32, -1 << 32, 1 << 40, 0x0102030405060708, lowest, lowest + 1, highest - 1, highest}

// few are ones that a Qty or a Count is not: the last ones are right in their lower half.
var few = []int64{0, -1, -2, lowest, lowest + 1, -1 << 32, -1<<32 + 1, -1<<32 + 255}

// part is what a View has for a side of an instrument: its levels as price, quantity, count, one after the other, and its implied quote likewise.
type part struct {
	inst, side int
	levels     []int64
	implied    []int64
}

// viewOf is a View with so many instruments and these parts.
func viewOf(count int, parts ...part) feed.View {
	v := feed.View{Sides: make([][2]feed.Side, count)}
	for _, p := range parts {
		s := &v.Sides[p.inst][p.side-1]
		for l := range slices.Chunk(p.levels, 3) {
			s.Levels = append(s.Levels, book.Level{Price: l[0], Qty: l[1], Count: l[2]})
		}
		if p.implied != nil {
			s.Implied, s.Has = book.Level{Price: p.implied[0], Qty: p.implied[1], Count: p.implied[2]}, true
		}
	}
	return v
}

// sample is a valid View of three instruments, each side of which has something else.
func sample() feed.View {
	return viewOf(3,
		part{inst: 0, side: 1, levels: []int64{10, 4, 1, 5, 4, 1, -5, 9, 3}, implied: []int64{0, 2, 1}},
		part{inst: 0, side: 2, levels: []int64{20, 8, 2, 25, 1, 1}},
		part{inst: 1, side: 1, implied: []int64{-20, 2, 1}},
		part{inst: 1, side: 2, levels: []int64{15, 7, 1}, implied: []int64{25, 6, 2}},
		part{inst: 2, side: 2, levels: []int64{-30, 2, 1, -20, 5, 5, -10, 1, 1, 0, 3, 2}},
	)
}

// ladder is so many levels of a side, the best one first, a tick apart.
func ladder(side, count int) []book.Level {
	l := make([]book.Level, count)
	for i := range l {
		l[i] = book.Level{Price: int64(i*(2*side-3)) * 5, Qty: int64(i + 1), Count: int64(i%3 + 1)}
	}
	return l
}

// changed is a View of three instruments, which has levels and implied quotes everywhere, but for a side that the change has made another one.
func changed(inst, side int, change func(s *feed.Side)) feed.View {
	v := viewOf(3)
	for i := range v.Sides {
		for at, other := range sides {
			v.Sides[i][at] = feed.Side{Levels: ladder(other, 4), Implied: book.Level{Price: 5, Qty: 3, Count: 1}, Has: true}
		}
	}
	change(&v.Sides[inst][side-1])
	return v
}

// everywhere asks about a side of each instrument of three.
func everywhere(ask func(inst, side int)) {
	for inst := range 3 {
		for _, side := range sides {
			ask(inst, side)
		}
	}
}

// numbersOf are the numbers of a level, one by one.
func numbersOf(l *book.Level) []*int64 {
	return []*int64{&l.Price, &l.Qty, &l.Count}
}

// text prints the first pieces of a View, as a View can be long.
func text(v feed.View) string {
	s := fmt.Sprint(v)
	return s[:min(len(s), 1000)]
}

// hexOf prints the first of some bytes.
func hexOf(b []byte) string {
	return fmt.Sprintf("%d bytes: % x", len(b), b[:min(len(b), 300)])
}

// equal compares what two Views print, which is alike for nil and empty lists.
func equal(a, b feed.View) bool {
	return fmt.Sprint(a) == fmt.Sprint(b)
}

// wantRight asks for a View whether it is valid, compares the answer with the model and with what the test knows, and asks of its snapshot what follows from it.
func wantRight(t *testing.T, v feed.View, want bool) {
	t.Helper()
	if rightModel(v) != want {
		t.Fatalf("the test's model says %t of %s", !want, text(v))
	}
	if snap.Right(v) != want {
		t.Fatalf("P20.1: Right(%s): %t, want %t", text(v), !want, want)
	}
	if want {
		wantBytes(t, v, 7)
		return
	}
	wantNoBytes(t, v)
}

// wantBytes asks for a valid View, there and back.
func wantBytes(t *testing.T, v feed.View, seq int64) {
	t.Helper()
	want := bytesOf(v, seq)
	if b, err := snap.Encode(v, seq); err != api.OK || !bytes.Equal(b, want) {
		t.Fatalf("P20.1: Encode(%s, %d): %s, %d, want %s", text(v), seq, hexOf(b), int(err), hexOf(want))
	}
	wantView(t, want, v, seq)
}

// wantView asks for bytes that are a snapshot. The View that comes back is compared number by number.
func wantView(t *testing.T, b []byte, v feed.View, seq int64) {
	t.Helper()
	got, gotSeq, err := snap.Decode(b)
	if err != api.OK || gotSeq != seq || !feed.Same(got, v) || !equal(got, v) {
		t.Fatalf("P20.1: Decode(%s): %s, %d, %d, want %s, %d", hexOf(b), text(got), gotSeq, int(err), text(v), seq)
	}
}

// wantNoBytes asks for a View that is not valid: it has no snapshot, and what would be one is none.
func wantNoBytes(t *testing.T, v feed.View) {
	t.Helper()
	for _, seq := range []int64{0, 7, -1, lowest, highest} {
		if b, err := snap.Encode(v, seq); err != api.ErrForm || len(b) != 0 {
			t.Fatalf("P20.1: Encode(%s, %d): %s, %d, want ErrForm", text(v), seq, hexOf(b), int(err))
		}
	}
	if fits(v) {
		wantErr(t, bytesOf(v, 7), api.ErrForm)
	}
}

// wantErr asks for bytes that are no snapshot. Nothing is told beside the error (R3).
func wantErr(t *testing.T, b []byte, want api.Errno) {
	t.Helper()
	v, seq, err := snap.Decode(b)
	if err != want {
		t.Fatalf("P20.1: Decode(%s): %d, want %d", hexOf(b), int(err), int(want))
	}
	if len(v.Sides) != 0 || seq != 0 {
		t.Fatalf("R3: Decode(%s): %s, %d beside an error", hexOf(b), text(v), seq)
	}
}

// decode asks Decode of any bytes, and compares it with the model.
func decode(t *testing.T, b []byte) api.Errno {
	t.Helper()
	v, seq, want := decodeModel(b)
	if want != api.OK {
		wantErr(t, b, want)
		return want
	}
	wantView(t, b, v, seq)
	return want
}

// chance gives numbers by a rule, the same ones for each run.
type chance uint64

// below returns a number from 0 to n-1.
func (c *chance) below(n int64) int64 {
	*c = *c*6364136223846793005 + 1442695040888963407
	return int64(uint64(*c) >> 33 % uint64(n))
}

// of returns one of the numbers of l.
func (c *chance) of(l ...int64) int64 { return l[c.below(int64(len(l)))] }
