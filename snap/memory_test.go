package snap_test

import (
	"bytes"
	"fmt"
	"slices"
	"testing"

	"cornhill/api"
	"cornhill/book"
	"cornhill/feed"
	"cornhill/snap"
)

// spoil writes into all of a list, and into the room behind it.
func spoil[T any](l []T, value T) {
	l = l[:cap(l)]
	for i := range l {
		l[i] = value
	}
}

// junk is what tests write over what they own. It is part of no valid View.
var junk = book.Level{Price: -77, Qty: -77, Count: -77}

// junkSides are sides that no valid View has.
var junkSides = [2]feed.Side{{Levels: []book.Level{junk}, Implied: junk}, {Implied: junk, Has: true}}

// spoilView writes over all of a View.
func spoilView(v feed.View) {
	for _, both := range v.Sides {
		for _, s := range both {
			spoil(s.Levels, junk)
		}
	}
	spoil(v.Sides, junkSides)
}

// roomy is a View like v with room behind each of its lists, in which something stands.
func roomy(v feed.View) feed.View {
	w := feed.View{Sides: make([][2]feed.Side, len(v.Sides), len(v.Sides)+2)}
	spoil(w.Sides, junkSides)
	copy(w.Sides, v.Sides)
	for inst := range w.Sides {
		for at := range 2 {
			s := &w.Sides[inst][at]
			l := make([]book.Level, len(s.Levels), len(s.Levels)+3)
			spoil(l, junk)
			copy(l, s.Levels)
			s.Levels = l
		}
	}
	return w
}

// all prints a View and the room behind each of its lists.
func all(v feed.View) string {
	text := fmt.Sprint(v, v.Sides[:cap(v.Sides)])
	for _, both := range v.Sides {
		for _, s := range both {
			text += fmt.Sprint(s.Levels[:cap(s.Levels)])
		}
	}
	return text
}

// TestViewStays: the View that is handed in, and the room behind its lists, which is not read (R2, R5).
func TestViewStays(t *testing.T) {
	wrong := sample()
	wrong.Sides[2][1].Levels[3].Qty = 0
	for _, c := range []struct {
		v     feed.View
		right bool
	}{{sample(), true}, {viewOf(0), true}, {viewOf(255), true}, {wrong, false}, {viewOf(256), false}} {
		v := roomy(c.v)
		before := all(v)
		if got := snap.Right(v); got != c.right {
			t.Errorf("R5: Right(%s) with room behind its lists: %t", text(v), got)
		}
		b, err := snap.Encode(v, 7)
		if (err == api.OK) != c.right || c.right && !bytes.Equal(b, bytesOf(c.v, 7)) {
			t.Errorf("R5: Encode(%s, 7) with room behind its lists: %s, %d", text(v), hexOf(b), int(err))
		}
		if all(v) != before {
			t.Errorf("R2: the View %s has become %s", before, all(v))
		}
	}
}

// TestBytesAreTheCallers: who writes into a snapshot that was returned, or behind it, changes neither the View nor other snapshots, and a snapshot does not change with its View (R2).
func TestBytesAreTheCallers(t *testing.T) {
	for _, v := range []feed.View{{}, viewOf(1), sample()} {
		want := bytesOf(v, 7)
		before := all(v)
		one, _ := snap.Encode(v, 7)
		other, _ := snap.Encode(v, 7)
		spoil(one, 77)
		if !bytes.Equal(other, want) || all(v) != before {
			t.Fatalf("R2: snapshots share memory: %s, %s", hexOf(other), all(v))
		}
		spoilView(v)
		if !bytes.Equal(other, want) {
			t.Fatalf("R2: a snapshot changes with its View: %s", hexOf(other))
		}
	}
}

// TestBytesStay: the bytes that are handed in, with the room behind them, which is not read, whether they are a snapshot or not (R2, R5).
func TestBytesStay(t *testing.T) {
	for _, c := range byHand() {
		room := append(slices.Clone(c.b), 9, 9, 9, 9, 9)
		before := slices.Clone(room)
		for length := range len(room) + 1 {
			v, seq, err := snap.Decode(room[:length])
			if (err == api.OK) != (length == len(c.b)) || err == api.OK && (seq != c.seq || !equal(v, c.v)) {
				t.Fatalf("R5: Decode of %d bytes with room behind them: %v, %d, %d", length, v, seq, int(err))
			}
			if !bytes.Equal(room, before) {
				t.Fatalf("R2: Decode has changed its bytes to % x", room)
			}
		}
		for _, content := range [][]byte{c.b[:len(c.b)-5], append(slices.Clone(c.b), 1), slices.Repeat([]byte{1}, 40)} {
			b := append(sealed(content), 9, 9, 9)
			before := slices.Clone(b)
			snap.Decode(b[:len(b)-3])
			if !bytes.Equal(b, before) {
				t.Fatalf("R2: Decode has changed its bytes to % x", b)
			}
		}
	}
}

// TestViewsAreTheCallers: a View that was returned changes neither with the bytes nor with another View, and no two of its lists share memory, nor the room behind them (R2).
func TestViewsAreTheCallers(t *testing.T) {
	full := sample()
	for inst := range full.Sides {
		for at, side := range sides {
			full.Sides[inst][at].Levels = ladder(side, 3+inst+at)
		}
	}
	for _, v := range []feed.View{{}, viewOf(2), sample(), full} {
		b := bytesOf(v, 7)
		one, _, _ := snap.Decode(b)
		other, _, _ := snap.Decode(b)
		apartLists(t, one)
		spoilView(one)
		if !equal(other, v) || !bytes.Equal(b, bytesOf(v, 7)) {
			t.Fatalf("R2: a View shares memory with another one or with the bytes: %v, %s", other, hexOf(b))
		}
		spoil(b, 77)
		if !equal(other, v) {
			t.Fatalf("R2: a View changes with the bytes: %v", other)
		}
	}
}

// apartLists asks whether no two lists of a View share memory: each of them is written over, with the room behind it, and the others stay.
func apartLists(t *testing.T, v feed.View) {
	t.Helper()
	for inst := range v.Sides {
		for at := range 2 {
			l := v.Sides[inst][at].Levels
			was := slices.Clone(l)
			before := fmt.Sprint(v)
			spoil(l, junk)
			copy(l, was)
			if fmt.Sprint(v) != before {
				t.Fatalf("R2: the levels of %d, %d share memory with others: %v", inst, at+1, v)
			}
		}
	}
}
