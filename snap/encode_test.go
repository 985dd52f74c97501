package snap_test

import (
	"bytes"
	"testing"

	"cornhill/api"
	"cornhill/book"
	"cornhill/feed"
	"cornhill/snap"
)

// written is a snapshot that the test has worked out, and what it is of.
type written struct {
	v   feed.View
	seq int64
	b   []byte
}

// byHand are snapshots byte by byte.
func byHand() []written {
	return []written{
		{feed.View{}, 7, []byte{7, 0, 0, 0, 0, 0, 0, 0, 0, 0x67, 0x79, 0x68, 0x82}},
		{feed.View{}, -1, []byte{255, 255, 255, 255, 255, 255, 255, 255, 0, 0x1d, 0xf7, 0x22, 0xc6}},
		{viewOf(1), 7, []byte{7, 0, 0, 0, 0, 0, 0, 0, 1, 0, 0, 0, 0, 0x6a, 0x69, 0x67, 0x4f}},
		{
			viewOf(2,
				part{inst: 0, side: 1, levels: []int64{10, 4, 1, -5, 0x11_0000_0022, 3}, implied: []int64{0x0102030405060708, 2, 1}},
				part{inst: 1, side: 1, implied: []int64{-20, 255, 256}},
				part{inst: 1, side: 2, levels: []int64{15, 7, 1}},
			), -2, []byte{
				254, 255, 255, 255, 255, 255, 255, 255, 2,
				2,
				10, 0, 0, 0, 0, 0, 0, 0, 4, 0, 0, 0, 0, 0, 0, 0, 1, 0, 0, 0, 0, 0, 0, 0,
				251, 255, 255, 255, 255, 255, 255, 255, 0x22, 0, 0, 0, 0x11, 0, 0, 0, 3, 0, 0, 0, 0, 0, 0, 0,
				1, 8, 7, 6, 5, 4, 3, 2, 1, 2, 0, 0, 0, 0, 0, 0, 0, 1, 0, 0, 0, 0, 0, 0, 0,
				0, 0,
				0, 1, 236, 255, 255, 255, 255, 255, 255, 255, 255, 0, 0, 0, 0, 0, 0, 0, 0, 1, 0, 0, 0, 0, 0, 0,
				1,
				15, 0, 0, 0, 0, 0, 0, 0, 7, 0, 0, 0, 0, 0, 0, 0, 1, 0, 0, 0, 0, 0, 0, 0,
				0,
				0x81, 0xf4, 0x0e, 0xa5,
			},
		},
	}
}

// TestByHand: the bytes of no instruments, of sides with levels and without, with an implied quote and without, and the checksum's least significant byte first (P20.1).
func TestByHand(t *testing.T) {
	for _, c := range byHand() {
		if b, err := snap.Encode(c.v, c.seq); err != api.OK || !bytes.Equal(b, c.b) {
			t.Errorf("P20.1: Encode(%v, %d): %s, %d, want %s", c.v, c.seq, hexOf(b), int(err), hexOf(c.b))
		}
		wantView(t, c.b, c.v, c.seq)
		wantBytes(t, c.v, c.seq)
	}
}

// TestEncodeNil: nil and empty lists are alike (R4).
func TestEncodeNil(t *testing.T) {
	want, _ := snap.Encode(feed.View{}, 7)
	if b, err := snap.Encode(feed.View{Sides: [][2]feed.Side{}}, 7); err != api.OK || len(b) != 13 || !bytes.Equal(b, want) {
		t.Errorf("R4: Encode of an empty list of sides: %s, %d, want %s", hexOf(b), int(err), hexOf(want))
	}
	v := viewOf(2)
	want, _ = snap.Encode(v, 7)
	v.Sides[0][1].Levels, v.Sides[1][0].Levels = []book.Level{}, make([]book.Level, 0, 5)
	if b, err := snap.Encode(v, 7); err != api.OK || !bytes.Equal(b, want) {
		t.Errorf("R4: Encode of empty lists of levels: %s, %d, want %s", hexOf(b), int(err), hexOf(want))
	}
}

// TestEncodeSeqs: any seq, also one that no messages have (P20.1).
func TestEncodeSeqs(t *testing.T) {
	for _, v := range []feed.View{{}, viewOf(1), sample()} {
		for _, seq := range numbers {
			wantBytes(t, v, seq)
		}
		for bit := range 64 {
			wantBytes(t, v, 1<<bit)
			wantBytes(t, v, ^(1 << bit))
		}
	}
}

// TestEncodeNumbers: any Price, and any Qty and Count from 1 on, in a level and in an implied quote of each side (P20.1).
func TestEncodeNumbers(t *testing.T) {
	everywhere(func(inst, side int) {
		for field := range 3 {
			for _, n := range numbers {
				if field > 0 && n < 1 {
					continue
				}
				wantBytes(t, changed(inst, side, func(s *feed.Side) { *numbersOf(&s.Implied)[field] = n }), n)
				wantBytes(t, changed(inst, side, func(s *feed.Side) {
					s.Levels = s.Levels[1:2]
					*numbersOf(&s.Levels[0])[field] = n
				}), n)
			}
		}
	})
}

// TestEncodeSides: each side of an instrument is written for itself, with levels or without and with an implied quote or without (P20.1).
func TestEncodeSides(t *testing.T) {
	for set := range 256 {
		v := viewOf(2)
		for inst := range 2 {
			for at, side := range sides {
				s, bits := &v.Sides[inst][at], set>>(4*inst+2*at)
				s.Levels = ladder(side, bits&1*(2+inst+at))
				if bits&2 != 0 {
					s.Implied, s.Has = book.Level{Price: int64(inst), Qty: 3, Count: int64(side)}, true
				}
			}
		}
		wantBytes(t, v, int64(set))
	}
}

// TestEncodeLength: 13 bytes, 4 for each instrument, and 24 for each level and implied quote (P20.1).
func TestEncodeLength(t *testing.T) {
	for _, c := range []struct {
		v    feed.View
		want int
	}{{feed.View{}, 13}, {viewOf(1), 17}, {viewOf(255), 13 + 4*255}, {sample(), 13 + 4*3 + 24*13}} {
		if b, err := snap.Encode(c.v, 7); err != api.OK || len(b) != c.want {
			t.Errorf("P20.1: Encode(%s, 7): %d bytes, %d, want %d", text(c.v), len(b), int(err), c.want)
		}
	}
}

// TestEncodeEveryCount: each number of instruments, and of levels on each side, that a Byte holds (P20.1).
func TestEncodeEveryCount(t *testing.T) {
	for count := range 256 {
		wantBytes(t, viewOf(count), int64(count))
		for at, side := range sides {
			v := sample()
			v.Sides[1][at].Levels = ladder(side, count)
			wantBytes(t, v, int64(-count))
		}
	}
}

// TestEncodeMost: as much as a View can have (P20.1).
func TestEncodeMost(t *testing.T) {
	v := viewOf(255)
	for inst := range v.Sides {
		for at, side := range sides {
			v.Sides[inst][at] = feed.Side{Levels: ladder(side, 255), Implied: book.Level{Price: int64(inst), Qty: 1, Count: 1}, Has: true}
		}
	}
	b, err := snap.Encode(v, highest)
	if want := 13 + 255*(4+2*256*24); err != api.OK || len(b) != want {
		t.Fatalf("P20.1: Encode of the most that there can be: %d bytes, %d, want %d", len(b), int(err), want)
	}
	wantBytes(t, v, highest)
}

// TestEncodeWrong: a View that is not valid has no snapshot, and beside the error there are no bytes (P20.1, R3).
func TestEncodeWrong(t *testing.T) {
	wrong := []feed.View{
		viewOf(256),
		viewOf(1, part{inst: 0, side: 1, levels: []int64{5, 0, 1}}),
		viewOf(1, part{inst: 0, side: 2, levels: []int64{5, 1, 0}}),
		viewOf(1, part{inst: 0, side: 1, levels: []int64{5, 1, 1, 5, 1, 1}}),
		viewOf(1, part{inst: 0, side: 2, levels: []int64{5, 1, 1, 4, 1, 1}}),
		viewOf(2, part{inst: 1, side: 2, implied: []int64{5, 0, 0}}),
		viewOf(2, part{inst: 1, side: 1, implied: []int64{5, 1, -1}}),
		changed(2, 2, func(s *feed.Side) { s.Has = false }),
		changed(2, 1, func(s *feed.Side) { s.Levels = ladder(1, 256) }),
		{Sides: [][2]feed.Side{{{Implied: book.Level{Price: 1}}}}},
	}
	for _, v := range wrong {
		wantRight(t, v, false)
	}
	// What was refused has no part in what comes next.
	for _, c := range byHand() {
		wantBytes(t, c.v, c.seq)
	}
}
