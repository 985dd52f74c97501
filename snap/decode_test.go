package snap_test

import (
	"encoding/binary"
	"slices"
	"testing"

	"cornhill/api"
	"cornhill/book"
	"cornhill/feed"
	"cornhill/snap"
)

// longSeq is a seq of eight unlike bytes.
const longSeq = 0x0102030405060708

// TestDecodeShort: 0 to 3 bytes, whatever they are (P20.1).
func TestDecodeShort(t *testing.T) {
	wantErr(t, nil, api.ErrSum)
	wantErr(t, []byte{}, api.ErrSum)
	for a := range 256 {
		wantErr(t, []byte{byte(a)}, api.ErrSum)
		for b := range 256 {
			wantErr(t, []byte{byte(a), byte(b)}, api.ErrSum)
			for _, c := range []byte{0, 1, 2, 127, 128, 254, 255, byte(a), byte(b)} {
				wantErr(t, []byte{byte(a), byte(b), c}, api.ErrSum)
			}
		}
	}
	// Room behind them is not read, though they would be the checksum of no bytes with it.
	for length := range 4 {
		wantErr(t, make([]byte, 8)[:length], api.ErrSum)
	}
}

// TestDecodeNothing: the checksum of no bytes is right, but it is the checksum of no snapshot (P20.1).
func TestDecodeNothing(t *testing.T) {
	wantErr(t, []byte{0, 0, 0, 0}, api.ErrForm)
	for at := range 4 {
		for n := 1; n < 256; n++ {
			b := make([]byte, 4)
			b[at] = byte(n)
			wantErr(t, b, api.ErrSum)
		}
	}
}

// TestDecodeTurned: each byte of a snapshot, turned into each other one, at the checksum and ahead of it (P20.1, W3).
func TestDecodeTurned(t *testing.T) {
	for _, c := range append(byHand(), written{sample(), longSeq, bytesOf(sample(), longSeq)}) {
		b := slices.Clone(c.b)
		for at, was := range b {
			for n := range 256 {
				if b[at] = byte(n); b[at] != was {
					wantErr(t, b, api.ErrSum)
				}
			}
			b[at] = was
		}
		wantView(t, b, c.v, c.seq)
	}
}

// TestDecodeCut: each length that is cut off, at the end and at the start, and bytes more (P20.1).
func TestDecodeCut(t *testing.T) {
	for _, c := range append(byHand(), written{sample(), longSeq, bytesOf(sample(), longSeq)}) {
		for length := range c.b {
			want := api.ErrSum
			if length == 8 && c.seq == -1 {
				// The one case in which what is left has the right checksum: that of four bytes 255 is four bytes 255.
				want = api.ErrForm
			}
			wantErr(t, c.b[:length], want)
			if length > 0 {
				wantErr(t, c.b[length:], api.ErrSum)
			}
		}
		for n := range 256 {
			wantErr(t, append(slices.Clone(c.b), byte(n)), api.ErrSum)
			wantErr(t, append([]byte{byte(n)}, c.b...), api.ErrSum)
		}
		wantErr(t, slices.Concat(c.b, c.b), api.ErrSum)
	}
}

// TestDecodeSumOrder: the checksum with its bytes in another order, or of all bits the other way, is a wrong one (P20.1).
func TestDecodeSumOrder(t *testing.T) {
	for _, c := range byHand() {
		last := len(c.b) - 4
		sum := binary.LittleEndian.Uint32(c.b[last:])
		content := c.b[:last]
		wantErr(t, binary.BigEndian.AppendUint32(slices.Clone(content), sum), api.ErrSum)
		for _, wrong := range []uint32{^sum, sum + 1, sum - 1, 0, 1<<32 - 1, sum<<16 | sum>>16} {
			wantErr(t, binary.LittleEndian.AppendUint32(slices.Clone(content), wrong), api.ErrSum)
		}
		// A checksum ahead of the content instead of behind it.
		wantErr(t, binary.LittleEndian.AppendUint32(nil, sum), api.ErrSum)
		wantErr(t, slices.Concat(c.b[last:], content), api.ErrSum)
	}
}

// TestDecodeSumFirst: ErrSum also where the bytes would be no encoding, in each way that they can be none (P20.1).
func TestDecodeSumFirst(t *testing.T) {
	content := contentOf(sample(), 7)
	flag := slices.Clone(content)
	flag[len(flag)-1] = 2
	for _, bad := range [][]byte{
		nil, content[:5], content[:len(content)-1], append(slices.Clone(content), 0), flag,
		contentOf(viewOf(1, part{inst: 0, side: 1, levels: []int64{5, 0, 1}}), 7),
		contentOf(viewOf(1, part{inst: 0, side: 2, levels: []int64{5, 1, 1, 5, 1, 1}}), 7),
		contentOf(viewOf(1, part{inst: 0, side: 2, implied: []int64{5, 0, 0}}), 7),
	} {
		b := sealed(bad)
		wantErr(t, b, api.ErrForm)
		for bit := range 32 {
			wrong := slices.Clone(b)
			wrong[len(b)-1-bit/8] ^= 1 << (bit % 8)
			wantErr(t, wrong, api.ErrSum)
		}
	}
}

// TestDecodeEnds: bytes of which the checksum is right, but which end too soon, at each place, or too late (P20.1).
func TestDecodeEnds(t *testing.T) {
	for _, c := range append(byHand(), written{v: sample(), seq: -5, b: bytesOf(sample(), -5)}, written{v: viewOf(255), b: bytesOf(viewOf(255), 0)}) {
		content := c.b[:len(c.b)-4]
		for length := range content {
			wantErr(t, sealed(content[:length]), api.ErrForm)
		}
		for n := range 256 {
			wantErr(t, sealed(append(slices.Clone(content), byte(n))), api.ErrForm)
		}
		for _, more := range [][]byte{make([]byte, 2), make([]byte, 24), make([]byte, 25), c.b[len(content):], c.b, content} {
			wantErr(t, sealed(slices.Concat(content, more)), api.ErrForm)
		}
		wantView(t, sealed(content), c.v, c.seq)
	}
}

// TestDecodeCounts: a number of instruments or of levels that is greater or less than what follows (P20.1).
func TestDecodeCounts(t *testing.T) {
	content := contentOf(viewOf(3), 7)
	for n := range 256 {
		content[8] = byte(n)
		if n == 3 {
			wantView(t, sealed(content), viewOf(3), 7)
			continue
		}
		wantErr(t, sealed(content), api.ErrForm)
	}
	content = contentOf(viewOf(1, part{inst: 0, side: 2, levels: []int64{5, 1, 1, 6, 1, 1, 7, 1, 1}}), 7)
	for n := range 256 {
		content[11] = byte(n)
		want := api.ErrForm
		if n == 3 {
			want = api.OK
		}
		if got := decode(t, sealed(content)); got != want {
			t.Errorf("P20.1: Decode with %d levels told of 3: %d, want %d", n, int(got), int(want))
		}
	}
}

// TestDecodeFlag: the byte ahead of the implied quote is 0 or 1, on each side, whether the numbers of a quote follow or not (P20.1).
func TestDecodeFlag(t *testing.T) {
	everywhere(func(inst, side int) {
		v := viewOf(3, part{inst: inst, side: side, levels: ladderNumbers(side), implied: []int64{5, 3, 1}})
		with := contentOf(v, 7)
		v.Sides[inst][side-1].Implied, v.Sides[inst][side-1].Has = book.Level{}, false
		without := contentOf(v, 7)
		// Ahead of it stand the seq, the number of instruments, two bytes for each side before, and the levels.
		at := 9 + 2*(2*inst+side-1) + 1 + 2*24
		for n := range 256 {
			with[at], without[at] = byte(n), byte(n)
			for _, c := range []struct {
				content []byte
				right   bool
			}{{with, n == 1}, {without, n == 0}} {
				if err := decode(t, sealed(c.content)); (err == api.OK) != c.right {
					t.Fatalf("P20.1: Decode(%s): %d, with the byte %d ahead of the implied quote", hexOf(sealed(c.content)), int(err), n)
				}
			}
		}
	})
}

// ladderNumbers are the numbers of two levels.
func ladderNumbers(side int) []int64 {
	if side == api.Buy {
		return []int64{10, 1, 1, 5, 2, 1}
	}
	return []int64{5, 2, 1, 10, 1, 1}
}

// TestDecodeWrong: bytes of Views that are not valid, with the right checksum (P20.1). Those of the tests of Right are asked there.
func TestDecodeWrong(t *testing.T) {
	for _, c := range []struct {
		content []byte
		why     string
	}{
		{slices.Concat(longs(7), []byte{1, 1}, longs(5, 0, 1), []byte{0, 0, 0}), "a level without a Qty"},
		{slices.Concat(longs(7), []byte{1, 1}, longs(5, 1, 0), []byte{0, 0, 0}), "a level without a Count"},
		{slices.Concat(longs(7), []byte{1, 1}, longs(5, 0, 0), []byte{0, 0, 0}), "an empty level"},
		{slices.Concat(longs(7), []byte{1, 1}, longs(5, -1, -1), []byte{0, 0, 0}), "a level below 0"},
		{slices.Concat(longs(7), []byte{1, 2}, longs(5, 1, 1, 5, 1, 1), []byte{0, 0, 0}), "a price twice for Buy"},
		{slices.Concat(longs(7), []byte{1, 2}, longs(5, 1, 1, 6, 1, 1), []byte{0, 0, 0}), "prices of Buy that get better"},
		{slices.Concat(longs(7), []byte{1, 0, 0, 2}, longs(5, 1, 1, 5, 1, 1), []byte{0}), "a price twice for Sell"},
		{slices.Concat(longs(7), []byte{1, 0, 0, 2}, longs(5, 1, 1, 4, 1, 1), []byte{0}), "prices of Sell that get better"},
		{slices.Concat(longs(7), []byte{1, 0, 1}, longs(5, 0, 0), []byte{0, 0}), "an implied quote of nothing"},
		{slices.Concat(longs(7), []byte{1, 0, 1}, longs(0, 0, 0), []byte{0, 0}), "an implied quote of zeros"},
		{slices.Concat(longs(7), []byte{1, 0, 0, 0, 1}, longs(5, 1, 0)), "an implied quote without a Count"},
		{slices.Concat(longs(7), []byte{1, 0, 0, 0, 1}, longs(5, -1, 1)), "an implied quote below 0"},
	} {
		if _, _, err := snap.Decode(sealed(c.content)); err != api.ErrForm {
			t.Errorf("P20.1: Decode of %s: %d, want ErrForm", c.why, int(err))
		}
		wantErr(t, sealed(c.content), api.ErrForm)
	}
}

// TestDecodeResealed: each byte ahead of the checksum turned into each other one, with the checksum that it then has (P20.1).
func TestDecodeResealed(t *testing.T) {
	v := viewOf(2,
		part{inst: 0, side: 1, levels: []int64{10, 4, 1, 5, 4, 1}, implied: []int64{0, 2, 1}},
		part{inst: 0, side: 2, levels: []int64{20, 8, 2, 25, 1, 1}},
		part{inst: 1, side: 2, implied: []int64{25, 6, 2}},
	)
	content := contentOf(v, 7)
	right, wrong := 0, 0
	for at, was := range content {
		for n := range 256 {
			content[at] = byte(n)
			if decode(t, sealed(content)) == api.OK {
				right++
			} else {
				wrong++
			}
		}
		content[at] = was
	}
	if right < 10000 || wrong < 3000 {
		t.Errorf("the test's bytes: %d right, %d wrong", right, wrong)
	}
}

// TestDecodeEverySmall: every few bytes behind the seq, with the right checksum (P20.1).
func TestDecodeEverySmall(t *testing.T) {
	right := 0
	var ask func(content []byte, more int)
	ask = func(content []byte, more int) {
		if decode(t, sealed(content)) == api.OK {
			right++
		}
		if more == 0 {
			return
		}
		for _, n := range []byte{0, 1, 2, 255} {
			ask(append(slices.Clone(content), n), more-1)
		}
	}
	ask(longs(-7), 6)
	// No instruments, and one without levels and quotes.
	if right != 2 {
		t.Errorf("the test's bytes: %d right", right)
	}
}

// TestDecodeDrawn: bytes by chance, long and short ones, with the right checksum and with another one (P20.1, R1).
func TestDecodeDrawn(t *testing.T) {
	seed := chance(3)
	right, form, sum := 0, 0, 0
	for range 40000 {
		content := longs(seed.of(numbers...))
		for range seed.below(12) {
			content = append(content, byte(seed.of(0, 0, 0, 1, 1, 2, seed.below(256))))
			if seed.below(3) == 0 {
				content = append(content, longs(seed.below(9)-4, seed.below(4), seed.below(4))...)
			}
		}
		b := sealed(content)
		if seed.below(8) == 0 {
			b[seed.below(int64(len(b)))] ^= byte(1 << seed.below(8))
		}
		switch decode(t, b) {
		case api.OK:
			right++
		case api.ErrForm:
			form++
		case api.ErrSum:
			sum++
		}
	}
	if right < 200 || form < 20000 || sum < 1000 {
		t.Errorf("the test draws too little: %d right, %d ErrForm, %d ErrSum", right, form, sum)
	}
}

// TestDecodeStays: what is refused has no part in what comes next (R3).
func TestDecodeStays(t *testing.T) {
	for _, c := range byHand() {
		for _, other := range byHand() {
			wantErr(t, c.b[:len(c.b)-1], api.ErrSum)
			wantErr(t, sealed(c.b[:len(c.b)-5]), api.ErrForm)
			wantView(t, other.b, other.v, other.seq)
		}
	}
	wantBytes(t, feed.View{}, 7)
}
