package command_test

import (
	"bytes"
	"encoding/binary"
	"math"
	"strings"
	"testing"
	"unicode/utf8"
	"unsafe"

	"cornhill/api"
	"cornhill/command"
)

// bytesOf returns the bytes of c by the chapter's list, whether it is valid or not.
func bytesOf(c api.Command) []byte {
	b := []byte{byte(c.Kind)}
	long := func(n int64) { b = binary.LittleEndian.AppendUint64(b, uint64(n)) }
	long(c.ID)
	switch c.Kind {
	case 1:
		b = append(b, byte(c.Inst), byte(c.Side), byte(c.Time))
		long(c.Price)
		long(c.Qty)
		long(c.Least)
		b = append(append(b, byte(len(c.Label))), c.Label...)
	case 3:
		long(c.Qty)
	case 4:
		long(c.Price)
		long(c.Qty)
	}
	return b
}

// sizes are the lengths of encodings, that of a New without its label.
var sizes = map[byte]int{1: 37, 2: 9, 3: 17, 4: 25}

// answer returns what Decode must return for b, read from the places at which the fields stand.
func answer(b []byte) (api.Command, api.Errno) {
	if len(b) == 0 || b[0] < 1 || b[0] > 4 {
		return api.Command{}, api.ErrKind
	}
	size := sizes[b[0]]
	if b[0] == 1 && len(b) >= size {
		size += int(b[36])
	}
	if len(b) != size {
		return api.Command{}, api.ErrForm
	}
	long := func(at int) int64 { return int64(binary.LittleEndian.Uint64(b[at:])) }
	c := api.Command{Kind: int(b[0]), ID: long(1)}
	switch b[0] {
	case 1:
		c.Inst, c.Side, c.Time = int(b[9]), int(b[10]), int(b[11])
		c.Price, c.Qty, c.Least, c.Label = long(12), long(20), long(28), string(b[37:])
	case 3:
		c.Qty = long(9)
	case 4:
		c.Price, c.Qty = long(9), long(17)
	}
	if why := refusal(c); why != api.OK {
		return api.Command{}, why
	}
	return c, api.OK
}

// refusal returns what is wrong with a command that was read.
func refusal(c api.Command) api.Errno {
	if c.ID < 1 || c.ID > 1<<40 {
		return api.ErrArg
	}
	if c.Kind == 1 && c.Side != 1 && c.Side != 2 {
		return api.ErrSide
	}
	if c.Kind == 1 && c.Time != 1 && c.Time != 2 && c.Time != 3 {
		return api.ErrTime
	}
	if c.Kind != 2 && (c.Qty < 1 || c.Qty > 1000000) {
		return api.ErrQty
	}
	if c.Least < 0 || c.Least > c.Qty {
		return api.ErrLeast
	}
	if !utf8.ValidString(c.Label) || utf8.RuneCountInString(c.Label) > 12 || strings.ContainsFunc(c.Label, func(r rune) bool { return r < 32 || r == 127 || r == 0xfffd }) {
		return api.ErrLabel
	}
	if c.Price < -2000000 || c.Price > 2000000 {
		return api.ErrBand
	}
	return api.OK
}

func checkEncode(t *testing.T, c api.Command, want []byte, wantErr api.Errno) {
	t.Helper()
	got, err := command.Encode(c)
	if !bytes.Equal(got, want) || err != wantErr {
		t.Errorf("P6.3: Encode(%s): % x, %d, want % x, %d", tell(c), got, int(err), want, int(wantErr))
	}
}

func checkDecode(t *testing.T, b []byte, want api.Command, wantErr api.Errno) {
	t.Helper()
	got, err := command.Decode(b)
	if got != want || err != wantErr {
		t.Errorf("P6.3: Decode(% x): %s, %d, want %s, %d", b[:min(len(b), 100)], tell(got), int(err), tell(want), int(wantErr))
	}
}

func checkUndecoded(t *testing.T, b []byte, wantErr api.Errno) {
	t.Helper()
	checkDecode(t, b, api.Command{}, wantErr)
}

// written are commands beside their bytes, written out one by one.
var written = []struct {
	c api.Command
	b []byte
}{
	{
		api.Command{Kind: api.New, ID: 0x0a0b0c0d0e, Inst: 200, Side: api.Sell, Price: -3, Qty: 0x0a0b0c, Least: 0x0102, Time: api.Whole, Label: "aé"},
		[]byte{
			1,
			0x0e, 0x0d, 0x0c, 0x0b, 0x0a, 0, 0, 0,
			200, 2, 3,
			0xfd, 0xff, 0xff, 0xff, 0xff, 0xff, 0xff, 0xff,
			0x0c, 0x0b, 0x0a, 0, 0, 0, 0, 0,
			0x02, 0x01, 0, 0, 0, 0, 0, 0,
			3, 'a', 0xc3, 0xa9,
		},
	},
	{
		api.Command{Kind: api.New, ID: 7, Inst: 0, Side: api.Buy, Price: 0, Qty: 5, Least: 0, Time: api.Day, Label: ""},
		[]byte{
			1,
			7, 0, 0, 0, 0, 0, 0, 0,
			0, 1, 1,
			0, 0, 0, 0, 0, 0, 0, 0,
			5, 0, 0, 0, 0, 0, 0, 0,
			0, 0, 0, 0, 0, 0, 0, 0,
			0,
		},
	},
	{
		api.Command{Kind: api.New, ID: 1 << 40, Inst: 255, Side: api.Buy, Price: 2000000, Qty: 1000000, Least: 1000000, Time: api.Now, Label: "            "},
		[]byte{
			1,
			0, 0, 0, 0, 0, 1, 0, 0,
			255, 1, 2,
			0x80, 0x84, 0x1e, 0, 0, 0, 0, 0,
			0x40, 0x42, 0x0f, 0, 0, 0, 0, 0,
			0x40, 0x42, 0x0f, 0, 0, 0, 0, 0,
			12, ' ', ' ', ' ', ' ', ' ', ' ', ' ', ' ', ' ', ' ', ' ', ' ',
		},
	},
	{
		api.Command{Kind: api.Cancel, ID: 0x0a0b0c0d0e},
		[]byte{2, 0x0e, 0x0d, 0x0c, 0x0b, 0x0a, 0, 0, 0},
	},
	{
		api.Command{Kind: api.Reduce, ID: 0x0a0b0c0d0e, Qty: 0x010203},
		[]byte{3, 0x0e, 0x0d, 0x0c, 0x0b, 0x0a, 0, 0, 0, 3, 2, 1, 0, 0, 0, 0, 0},
	},
	{
		api.Command{Kind: api.Replace, ID: 0x0a0b0c0d0e, Price: -2000000, Qty: 0x010203},
		[]byte{4, 0x0e, 0x0d, 0x0c, 0x0b, 0x0a, 0, 0, 0, 0x80, 0x7b, 0xe1, 0xff, 0xff, 0xff, 0xff, 0xff, 3, 2, 1, 0, 0, 0, 0, 0},
	},
}

func TestWrittenBytes(t *testing.T) {
	for _, r := range written {
		checkEncode(t, r.c, r.b, api.OK)
		checkDecode(t, r.b, r.c, api.OK)
	}
}

// TestEncodeAtTheEnds: what the Kind does not use is neither written nor read (P6.3, W5).
func TestEncodeAtTheEnds(t *testing.T) {
	for _, kind := range kinds {
		for _, c := range ends(kind) {
			checkEncode(t, c, bytesOf(c), api.OK)
			checkEncode(t, used(c), bytesOf(c), api.OK)
			b, _ := command.Encode(c)
			checkDecode(t, b, used(c), api.OK)
		}
	}
}

// TestEncodeOfUnusedFields: they change no byte, whatever they hold (P6.3).
func TestEncodeOfUnusedFields(t *testing.T) {
	for _, kind := range []int{2, 3, 4} {
		for _, f := range faults() {
			// a Qty that is wrong for its Least alone is still written
			if !f.applies(kind) && (f.field != "Qty" || kind == 2) {
				checkEncode(t, edited(kind, f.edit), bytesOf(full(kind)), api.OK)
			}
		}
	}
}

// TestEncodeErrors: those of Right (P6.3).
func TestEncodeErrors(t *testing.T) {
	all := faults()
	for _, kind := range kinds {
		for i, f := range all {
			if !f.applies(kind) {
				continue
			}
			checkEncode(t, edited(kind, f.edit), nil, f.err)
			for _, g := range all[i+1:] {
				if f.field != g.field && f.class < g.class {
					checkEncode(t, edited(kind, g.edit, f.edit), nil, f.err)
				}
			}
		}
	}
	checkEncode(t, api.Command{}, nil, api.ErrKind)
	checkEncode(t, api.Command{Kind: api.Cancel}, nil, api.ErrArg)
}

func TestDecodeOfNoKind(t *testing.T) {
	checkUndecoded(t, nil, api.ErrKind)
	checkUndecoded(t, []byte{}, api.ErrKind)
	checkUndecoded(t, make([]byte, 0, 100), api.ErrKind)
	// among them the bytes that would be right behind each Kind
	rests := [][]byte{nil, {0}, {1}, make([]byte, 8), make([]byte, 36), make([]byte, 1<<16)}
	for _, kind := range kinds {
		rests = append(rests, bytesOf(full(kind))[1:], bytesOf(full(kind)))
	}
	for kind := range 256 {
		if kind >= 1 && kind <= 4 {
			continue
		}
		for _, rest := range rests {
			checkUndecoded(t, append([]byte{byte(kind)}, rest...), api.ErrKind)
		}
	}
}

// TestDecodeOfTooFewAndTooManyBytes: every encoding cut off anywhere, and with bytes behind it (P6.3).
func TestDecodeOfTooFewAndTooManyBytes(t *testing.T) {
	for _, kind := range kinds {
		for _, c := range ends(kind) {
			b := bytesOf(c)
			for n := 1; n < len(b); n++ {
				checkUndecoded(t, b[:n:n], api.ErrForm)
				// what is cut off still stands behind it, but only as spare capacity (R5)
				checkUndecoded(t, b[:n], api.ErrForm)
			}
			for _, rest := range [][]byte{{0}, {1}, {2}, {255}, {0, 0}, b, make([]byte, 8), make([]byte, 1<<12)} {
				checkUndecoded(t, append(bytes.Clone(b), rest...), api.ErrForm)
			}
		}
	}
}

// TestDecodeOfKinds: the bytes of one Kind behind each other Kind (P6.3).
func TestDecodeOfKinds(t *testing.T) {
	for _, kind := range kinds {
		for _, other := range kinds {
			b := bytesOf(full(kind))
			b[0] = byte(other)
			if kind == other {
				checkDecode(t, b, used(full(kind)), api.OK)
			} else {
				checkUndecoded(t, b, api.ErrForm)
			}
		}
	}
}

// TestDecodeOfLabelSizes: each length that the byte ahead of the label can tell, of which only that of the label fits (P6.3).
func TestDecodeOfLabelSizes(t *testing.T) {
	for _, s := range []string{"", "a", "aé", strings.Repeat("a", 12), strings.Repeat("\U0001f600", 12)} {
		c := full(1)
		c.Label = s
		for size := range 256 {
			b := bytesOf(c)
			b[36] = byte(size)
			if size == len(s) {
				checkDecode(t, b, c, api.OK)
			} else {
				checkUndecoded(t, b, api.ErrForm)
			}
		}
	}
	for n := range 256 {
		c, want, why := full(1), api.Command{}, api.ErrLabel
		c.Label = strings.Repeat("a", n)
		if n <= 12 {
			want, why = c, api.OK
		}
		checkDecode(t, bytesOf(c), want, why)
	}
}

// TestDecodeOfTurnedBytes: each byte of an encoding turned to each other one. What is decoded still has these bytes as its encoding (P6.3).
func TestDecodeOfTurnedBytes(t *testing.T) {
	var all [][]byte
	for _, r := range written {
		all = append(all, r.b)
	}
	for _, kind := range kinds {
		all = append(all, bytesOf(full(kind)))
	}
	for _, from := range all {
		for i := range from {
			for turn := 1; turn < 256; turn++ {
				b := bytes.Clone(from)
				b[i] ^= byte(turn)
				want, why := answer(b)
				checkDecode(t, b, want, why)
				if why == api.OK {
					checkEncode(t, want, b, api.OK)
				}
			}
		}
	}
}

// TestDecodeErrors: right bytes of commands that are not valid, with each error that bytes can bring (P6.3).
func TestDecodeErrors(t *testing.T) {
	seen := map[api.Errno]bool{}
	for _, kind := range kinds {
		for _, c := range undecodable(kind) {
			want := command.Right(c)
			if want == api.OK {
				t.Errorf("P6.2: Right(%s): 0, want an error", tell(c))
			}
			seen[want] = true
			checkUndecoded(t, bytesOf(c), want)
			if _, why := answer(bytesOf(c)); why != want {
				t.Errorf("P6.3: the bytes of %s: %d, want %d", tell(c), int(want), int(why))
			}
		}
	}
	for _, err := range []api.Errno{api.ErrArg, api.ErrSide, api.ErrTime, api.ErrQty, api.ErrLeast, api.ErrLabel, api.ErrBand} {
		if !seen[err] {
			t.Errorf("no command was refused with %d", int(err))
		}
	}
}

// undecodable returns commands of that Kind that have bytes but are not valid, with one fault and with every two.
func undecodable(kind int) []api.Command {
	var bytesHold []fault
	for _, f := range faults() {
		c := edited(kind, f.edit)
		if f.class > 1 && f.applies(kind) && c.Inst == int(byte(c.Inst)) && c.Side == int(byte(c.Side)) && c.Time == int(byte(c.Time)) && len(c.Label) < 256 {
			bytesHold = append(bytesHold, f)
		}
	}
	var all []api.Command
	for i, f := range bytesHold {
		all = append(all, edited(kind, f.edit))
		for _, g := range bytesHold[i+1:] {
			if f.field != g.field {
				all = append(all, edited(kind, f.edit, g.edit))
			}
		}
	}
	return all
}

// TestDecodeErrorOrder: ErrKind before ErrForm, and ErrForm before what Right says (P6.3, R8).
func TestDecodeErrorOrder(t *testing.T) {
	for _, kind := range kinds {
		for _, c := range []api.Command{
			{Kind: kind},
			{Kind: kind, ID: -1, Side: 3, Time: 4, Qty: -1, Least: -1, Price: math.MaxInt64, Label: "\xff"},
			edited(kind, edits("Qty", setQty, 0)...),
			edited(kind, edits("Price", setPrice, 2000001)...),
			edited(kind, edits("Label", setLabel, "1234567890123")...),
		} {
			b := bytesOf(c)
			for _, wrong := range [][]byte{b[:1], b[:len(b)/2], b[:len(b)-1], append(bytes.Clone(b), 0), append(bytes.Clone(b), b...)} {
				checkUndecoded(t, wrong, api.ErrForm)
				noKind := bytes.Clone(wrong)
				for _, none := range []byte{0, 5, 255} {
					noKind[0] = none
					checkUndecoded(t, noKind, api.ErrKind)
				}
			}
		}
	}
}

// TestDecodeOfAnyBytes: bytes of every length, all alike and not, read as the chapter says (R1).
func TestDecodeOfAnyBytes(t *testing.T) {
	for n := range 320 {
		for first := range 6 {
			for _, step := range []byte{0, 1, 37, 255} {
				b := make([]byte, n)
				for i := range b {
					b[i] = byte(first) + byte(i)*step
				}
				want, why := answer(b)
				checkDecode(t, b, want, why)
			}
		}
	}
	for _, kind := range kinds {
		checkUndecoded(t, append(bytesOf(full(kind)), make([]byte, 1<<20)...), api.ErrForm)
	}
}

// TestDecodeLeavesItsArgument: nothing of it is changed, nor of what stands around it, and nothing of it is kept (R2, R5).
func TestDecodeLeavesItsArgument(t *testing.T) {
	for _, kind := range kinds {
		c := full(kind)
		inner := bytesOf(c)
		all := append(append([]byte{9, 9, 9}, inner...), 8, 8, 8, 8)
		before := bytes.Clone(all)
		given := all[3 : 3+len(inner)]
		for _, b := range [][]byte{given, given[:0], given[:1], given[:len(given)-1], all, all[3:]} {
			command.Decode(b)
			if !bytes.Equal(all, before) {
				t.Fatalf("R2: Decode(% x) changed its argument to % x", before, all)
			}
		}
		checkDecode(t, given, used(c), api.OK)
		got, _ := command.Decode(given)
		clear(all)
		if got != used(c) {
			t.Errorf("R2: what Decode returned changed with its argument: %s, want %s", tell(got), tell(used(c)))
		}
	}
}

// TestEncodeGivesNewMemory: what is done with one result, spare capacity and all, shows in no other (R2, R4).
func TestEncodeGivesNewMemory(t *testing.T) {
	for _, kind := range kinds {
		c := full(kind)
		first, _ := command.Encode(c)
		second, _ := command.Encode(c)
		if unsafe.SliceData(first) == unsafe.SliceData(second) {
			t.Errorf("R2: two results of Encode(%s) share their memory", tell(c))
		}
		clear(first[:cap(first)])
		if want := bytesOf(c); !bytes.Equal(second, want) {
			t.Errorf("R2: a result of Encode(%s) changed with another one: % x, want % x", tell(c), second, want)
		}
		checkEncode(t, c, bytesOf(c), api.OK)
	}
}

// TestCallsDoNotDependOnEachOther: a refusal between two calls changes nothing that they return (R3, R4).
func TestCallsDoNotDependOnEachOther(t *testing.T) {
	for range 3 {
		for _, r := range written {
			checkEncode(t, r.c, r.b, api.OK)
			checkEncode(t, api.Command{Kind: api.Cancel}, nil, api.ErrArg)
			checkUndecoded(t, r.b[:len(r.b)-1], api.ErrForm)
			checkUndecoded(t, nil, api.ErrKind)
			checkDecode(t, r.b, r.c, api.OK)
			checkRight(t, api.Command{}, api.ErrKind)
			checkRight(t, r.c, api.OK)
		}
	}
}
