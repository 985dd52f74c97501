package feed_test

import (
	"bytes"
	"encoding/binary"
	"slices"
	"testing"

	"cornhill/api"
	"cornhill/feed"
)

// bytesOf are the bytes of a message by the chapter, whether it has an encoding or not.
func bytesOf(m api.Msg) []byte {
	b := binary.LittleEndian.AppendUint64(nil, uint64(m.Seq))
	b = append(b, byte(m.Inst), byte(m.Side))
	for _, n := range []int64{m.Price, m.Qty, m.Count} {
		b = binary.LittleEndian.AppendUint64(b, uint64(n))
	}
	if m.Implied {
		return append(b, 1)
	}
	return append(b, 0)
}

// wantBytes asks for a message that has an encoding, there and back.
func wantBytes(t *testing.T, m api.Msg) {
	t.Helper()
	b, err := feed.Encode(m)
	if err != api.OK || !bytes.Equal(b, bytesOf(m)) {
		t.Fatalf("P19.3: Encode(%v): % x, %d, want % x", m, b, int(err), bytesOf(m))
	}
	if got, err := feed.Decode(bytesOf(m)); err != api.OK || got != m {
		t.Fatalf("P19.3: Decode(% x): %v, %d, want %v", bytesOf(m), got, int(err), m)
	}
}

// wantNoBytes asks for one that has none.
func wantNoBytes(t *testing.T, m api.Msg) {
	t.Helper()
	if b, err := feed.Encode(m); err != api.ErrForm || len(b) != 0 {
		t.Fatalf("P19.3: Encode(%v): % x, %d, want ErrForm", m, b, int(err))
	}
}

// wantNoMsg asks for bytes that no message has.
func wantNoMsg(t *testing.T, b []byte) {
	t.Helper()
	if m, err := feed.Decode(b); err != api.ErrForm || m != (api.Msg{}) {
		t.Fatalf("P19.3: Decode(% x): %v, %d, want ErrForm", b, m, int(err))
	}
}

// numbers are ones that a Long holds.
var numbers = []int64{0, 1, -1, 5, 255, 256, -256, 1 << 31, 1 << 32, -1 << 32, 1 << 40, 0x0102030405060708, lowest, lowest + 1, highest - 1, highest}

// TestEncode: the bytes written out (P19.3).
func TestEncode(t *testing.T) {
	m := api.Msg{Seq: 0x0102030405060708, Inst: 20, Side: api.Sell, Price: -2, Qty: 0x11_0000_0022, Count: 3, Implied: true}
	want := []byte{8, 7, 6, 5, 4, 3, 2, 1, 20, 2, 254, 255, 255, 255, 255, 255, 255, 255, 0x22, 0, 0, 0, 0x11, 0, 0, 0, 3, 0, 0, 0, 0, 0, 0, 0, 1}
	if b, err := feed.Encode(m); err != api.OK || !bytes.Equal(b, want) {
		t.Errorf("P19.3: Encode(%v): % x, %d, want % x", m, b, int(err), want)
	}
	m.Side, m.Implied, want[9], want[34] = api.Buy, false, 1, 0
	if b, err := feed.Encode(m); err != api.OK || !bytes.Equal(b, want) {
		t.Errorf("P19.3: Encode(%v): % x, %d, want % x", m, b, int(err), want)
	}
	if got, err := feed.Decode(want); err != api.OK || got != m {
		t.Errorf("P19.3: Decode(% x): %v, %d, want %v", want, got, int(err), m)
	}
}

// TestEncodeInsts: each from 0 to 255, and none beyond (P19.3).
func TestEncodeInsts(t *testing.T) {
	for _, side := range sides {
		for inst := range 256 {
			wantBytes(t, level(inst, side, 5, 1, 1))
			wantBytes(t, quote(inst, side, 5, 1, 1))
		}
		for _, inst := range []int{-1, 256, -2, 257, -255, -256, 511, 512, 1 << 16, 1 << 32, 1<<32 + 5, -1 << 32, lowest, highest} {
			wantNoBytes(t, level(inst, side, 5, 1, 1))
			wantNoBytes(t, quote(inst, side, 0, 0, 0))
		}
	}
}

// TestEncodeSides: Buy and Sell alone (P19.3).
func TestEncodeSides(t *testing.T) {
	for _, inst := range []int{0, 7, 255, -1, 256} {
		for _, side := range noSides {
			wantNoBytes(t, level(inst, side, 5, 1, 1))
			wantNoBytes(t, quote(inst, side, 5, 1, 1))
			wantNoBytes(t, api.Msg{Seq: 3, Inst: inst, Side: side})
		}
	}
}

// TestEncodeNumbers: any of them in each field, also a message that Apply doesn't accept (P19.3).
func TestEncodeNumbers(t *testing.T) {
	for _, side := range sides {
		for _, a := range numbers {
			for _, b := range numbers {
				wantBytes(t, api.Msg{Seq: a, Side: side, Price: b, Qty: a, Count: b})
				wantBytes(t, api.Msg{Seq: b, Side: side, Price: b, Qty: b, Count: a, Implied: true})
				wantBytes(t, api.Msg{Side: side, Qty: a, Count: b})
			}
		}
	}
}

// TestDecodeLengths: every number of bytes but the right one (P19.3).
func TestDecodeLengths(t *testing.T) {
	for _, m := range []api.Msg{level(3, 1, 5, 1, 1), quote(255, 2, -5, 7, 2), {Side: 1}} {
		b := append(bytesOf(m), make([]byte, 100)...)
		for length := range b {
			if length != 35 {
				wantNoMsg(t, b[:length])
			}
		}
		for _, more := range [][]byte{{0}, {1}, {0, 0}, bytesOf(m)} {
			wantNoMsg(t, slices.Concat(bytesOf(m), more))
		}
	}
	wantNoMsg(t, nil)
	wantNoMsg(t, []byte{})
}

// TestDecodeBytes: of each byte that is turned, what an encoding can hold there and what not: a Side that is none, and a last byte of neither 0 nor 1 (P19.3).
func TestDecodeBytes(t *testing.T) {
	for _, m := range []api.Msg{level(3, 1, 5, 1, 1), quote(255, 2, -5, 7, 2)} {
		for at := range 35 {
			for value := range 256 {
				b := bytesOf(m)
				b[at] = byte(value)
				if at == 9 && value != 1 && value != 2 || at == 34 && value > 1 {
					wantNoMsg(t, b)
					continue
				}
				got, err := feed.Decode(b)
				if err != api.OK || !bytes.Equal(bytesOf(got), b) {
					t.Fatalf("P19.3: Decode(% x): %v, %d", b, got, int(err))
				}
				wantBytes(t, got)
			}
		}
	}
}

// TestDecodeBoth: two faults together (P19.3).
func TestDecodeBoth(t *testing.T) {
	b := bytesOf(level(3, 1, 5, 1, 1))
	b[9], b[34] = 0, 2
	wantNoMsg(t, b)
	wantNoMsg(t, b[:34])
	wantNoMsg(t, append(b, 0))
	wantNoMsg(t, make([]byte, 35))
	wantNoMsg(t, bytes.Repeat([]byte{1}, 36))
	wantNoMsg(t, bytes.Repeat([]byte{2}, 35))
	if _, err := feed.Decode(bytes.Repeat([]byte{1}, 35)); err != api.OK {
		t.Errorf("P19.3: Decode of 35 bytes of 1: %d", int(err))
	}
}

// TestBytesAreApart: what is answered shares nothing, and the bytes that are handed in stay, with the room behind them, which is not read (R2, R5).
func TestBytesAreApart(t *testing.T) {
	m := quote(3, 2, -5, 7, 2)
	b, _ := feed.Encode(m)
	other, _ := feed.Encode(m)
	spoil(b, 77)
	if !bytes.Equal(other, bytesOf(m)) {
		t.Errorf("R2: two encodings share memory: % x", other)
	}
	room := append(bytesOf(m), 9, 9, 9)
	before := slices.Clone(room)
	for length := range len(room) + 1 {
		got, err := feed.Decode(room[:length])
		if (err == api.OK) != (length == 35) || err == api.OK && got != m {
			t.Errorf("R5: Decode of %d bytes with room behind them: %v, %d", length, got, int(err))
		}
		if !bytes.Equal(room, before) {
			t.Fatalf("R2: Decode has changed its bytes to % x", room)
		}
	}
}
