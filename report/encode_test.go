package report_test

import (
	"bytes"
	"encoding/binary"
	"fmt"
	"math"
	"testing"
	"unsafe"

	"cornhill/api"
	"cornhill/report"
)

// size is the number of bytes of an encoding: four Longs and four Bytes.
const size = 36

// kinds are the Kinds of reports, told as numbers so that no constant can be taken for another.
var kinds = []int{1, 2, 3, 4, 5}

// noKinds are the numbers beside them, numbers that are one of them when only their lowest bits are kept, and great ones.
var noKinds = []int{
	0, -1, -2, -3, -4, -5, -6, 6, 7, 8, 9, 16, 17, 127, 128, 255, 256, 257, 258, 259, 260, 261, 262, -251, -252, -253, -254, -255, -256,
	1<<16 + 1, 1<<32 + 1, 1<<32 + 2, 1<<32 + 3, 1<<32 + 4, 1<<32 + 5, -1<<32 + 1, 1 << 40,
	math.MaxInt32, math.MinInt32, math.MaxInt, math.MaxInt - 1, math.MinInt, math.MinInt + 1, math.MinInt + 5,
}

// noBytes are numbers that are no Byte, among them those that are a Side when only their lowest bits are kept.
var noBytes = []int{
	-1, -2, -3, -127, -128, -129, -253, -254, -255, -256, -257, 256, 257, 258, 259, 511, 512, 1 << 16, 1<<16 + 1, 1 << 31, 1<<31 - 1, -1 << 31,
	1 << 32, 1<<32 + 1, 1<<32 + 2, 1<<32 + 255, -1 << 32, -1<<32 + 1, -1<<32 + 2, 1 << 40, -1 << 40,
	math.MaxInt, math.MaxInt - 1, math.MinInt, math.MinInt + 1, math.MinInt + 2,
}

// longs are numbers in which each byte differs from the others, and the ends.
var longs = []int64{
	0, 1, -1, 2, -2, 9, 10, -9, -10, 99, 100, 127, 128, -128, -129, 255, 256, 257, -255, -256, -257, 65535, 65536, 1000000, -1000000, 2000001, -2000001,
	1<<31 - 1, 1 << 31, -1 << 31, -1<<31 - 1, 1<<32 - 1, 1 << 32, 1 << 40, 1<<40 + 1, -1 << 40, 0x0102030405060708, -0x0102030405060708,
	math.MaxInt64, math.MaxInt64 - 1, math.MinInt64, math.MinInt64 + 1,
}

// full returns a report of that Kind in which every field is set and no two are alike.
func full(kind int) api.Report {
	return api.Report{Kind: kind, ID: 0x0a0b0c0d0e, Inst: 200, Side: 2, Price: -1234567, Qty: 654321, Left: 0x1122334455667788, Why: 31}
}

// edited returns that report after edit.
func edited(kind int, edit func(r *api.Report)) api.Report {
	r := full(kind)
	edit(&r)
	return r
}

// longFields are the fields that take every number.
var longFields = map[string]func(r *api.Report, n int64){
	"ID":    func(r *api.Report, n int64) { r.ID = n },
	"Price": func(r *api.Report, n int64) { r.Price = n },
	"Qty":   func(r *api.Report, n int64) { r.Qty = n },
	"Left":  func(r *api.Report, n int64) { r.Left = n },
}

// accepted returns reports that have an encoding: each Kind, and each field at the ends of its range and in between.
func accepted() []api.Report {
	var l []api.Report
	for _, kind := range kinds {
		l = append(l, full(kind), api.Report{Kind: kind})
		for _, n := range []int{0, 1, 2, 10, 20, 33, 127, 128, 254, 255} {
			l = append(l, edited(kind, func(r *api.Report) { r.Inst = n }))
			l = append(l, edited(kind, func(r *api.Report) { r.Why = api.Errno(n) }))
			l = append(l, api.Report{Kind: kind, Inst: n}, api.Report{Kind: kind, Why: api.Errno(n)})
		}
		for side := range 3 {
			l = append(l, edited(kind, func(r *api.Report) { r.Side = side }), api.Report{Kind: kind, Side: side})
		}
		for _, n := range longs {
			for _, set := range longFields {
				l = append(l, edited(kind, func(r *api.Report) { set(r, n) }))
			}
			l = append(l, api.Report{Kind: kind, ID: n, Price: -n, Qty: n ^ 1, Left: ^n})
		}
		l = append(l, api.Report{Kind: kind, ID: math.MaxInt64, Inst: 255, Side: 2, Price: math.MinInt64, Qty: math.MaxInt64 - 1, Left: math.MinInt64 + 1, Why: 255})
	}
	return l
}

// refused returns reports that have none: each fault alone, in a report that is full and in one that is empty, and every two.
func refused() []api.Report {
	faults := map[string][]func(r *api.Report){}
	for _, n := range noKinds {
		faults["Kind"] = append(faults["Kind"], func(r *api.Report) { r.Kind = n })
	}
	for _, n := range append([]int{3, 4, 5, 10, 127, 128, 253, 254, 255}, noBytes...) {
		faults["Side"] = append(faults["Side"], func(r *api.Report) { r.Side = n })
	}
	for _, n := range noBytes {
		faults["Inst"] = append(faults["Inst"], func(r *api.Report) { r.Inst = n })
		faults["Why"] = append(faults["Why"], func(r *api.Report) { r.Why = api.Errno(n) })
	}
	var l []api.Report
	for field, edits := range faults {
		for i, edit := range edits {
			for _, kind := range kinds {
				empty := api.Report{Kind: kind}
				edit(&empty)
				l = append(l, edited(kind, edit), empty)
			}
			for other, more := range faults {
				if other != field {
					l = append(l, edited(3, func(r *api.Report) { edit(r); more[i%len(more)](r) }))
				}
			}
		}
	}
	return l
}

// bytesOf returns the bytes of r by the chapter's list.
func bytesOf(r api.Report) []byte {
	b := []byte{byte(r.Kind)}
	b = binary.LittleEndian.AppendUint64(b, uint64(r.ID))
	b = append(b, byte(r.Inst), byte(r.Side))
	b = binary.LittleEndian.AppendUint64(b, uint64(r.Price))
	b = binary.LittleEndian.AppendUint64(b, uint64(r.Qty))
	b = binary.LittleEndian.AppendUint64(b, uint64(r.Left))
	return append(b, byte(r.Why))
}

// answer returns what Decode must return for b, read from the places at which the fields stand.
func answer(b []byte) (api.Report, api.Errno) {
	if len(b) != size || b[0] < 1 || b[0] > 5 || b[10] > 2 {
		return api.Report{}, api.ErrForm
	}
	long := func(at int) int64 { return int64(binary.LittleEndian.Uint64(b[at:])) }
	return api.Report{Kind: int(b[0]), ID: long(1), Inst: int(b[9]), Side: int(b[10]), Price: long(11), Qty: long(19), Left: long(27), Why: api.Errno(b[35])}, api.OK
}

// tell writes r with the names of its fields, and Why as a number.
func tell(r api.Report) string {
	return fmt.Sprintf("{Kind %d, ID %d, Inst %d, Side %d, Price %d, Qty %d, Left %d, Why %d}", r.Kind, r.ID, r.Inst, r.Side, r.Price, r.Qty, r.Left, int(r.Why))
}

func checkEncode(t *testing.T, r api.Report, want []byte, wantErr api.Errno) {
	t.Helper()
	got, err := report.Encode(r)
	if !bytes.Equal(got, want) || err != wantErr {
		t.Errorf("P7.1: Encode(%s): % x, %d, want % x, %d", tell(r), got, int(err), want, int(wantErr))
	}
}

func checkDecode(t *testing.T, b []byte, want api.Report, wantErr api.Errno) {
	t.Helper()
	got, err := report.Decode(b)
	if got != want || err != wantErr {
		t.Errorf("P7.1: Decode(% x, %d bytes): %s, %d, want %s, %d", b[:min(len(b), 100)], len(b), tell(got), int(err), tell(want), int(wantErr))
	}
}

func checkUndecoded(t *testing.T, b []byte) {
	t.Helper()
	checkDecode(t, b, api.Report{}, api.ErrForm)
}

// written are reports beside their bytes, written out one by one.
var written = []struct {
	r api.Report
	b []byte
}{
	{
		api.Report{Kind: api.Traded, ID: 0x0a0b0c0d0e, Inst: 200, Side: api.Sell, Price: -3, Qty: 0x0a0b0c, Left: 0x0102, Why: api.ErrKind},
		[]byte{
			3,
			0x0e, 0x0d, 0x0c, 0x0b, 0x0a, 0, 0, 0,
			200,
			2,
			0xfd, 0xff, 0xff, 0xff, 0xff, 0xff, 0xff, 0xff,
			0x0c, 0x0b, 0x0a, 0, 0, 0, 0, 0,
			0x02, 0x01, 0, 0, 0, 0, 0, 0,
			31,
		},
	},
	{
		api.Report{Kind: api.Accepted, ID: 7, Inst: 0, Side: api.Buy, Price: 100, Qty: 5, Left: 2, Why: api.OK},
		[]byte{
			1,
			7, 0, 0, 0, 0, 0, 0, 0,
			0,
			1,
			100, 0, 0, 0, 0, 0, 0, 0,
			5, 0, 0, 0, 0, 0, 0, 0,
			2, 0, 0, 0, 0, 0, 0, 0,
			0,
		},
	},
	{
		api.Report{Kind: api.Rejected, ID: -2, Inst: 255, Side: 0, Price: 0x0807060504030201, Qty: -1, Left: 0x1817161514131211, Why: 255},
		[]byte{
			2,
			0xfe, 0xff, 0xff, 0xff, 0xff, 0xff, 0xff, 0xff,
			255,
			0,
			0x01, 0x02, 0x03, 0x04, 0x05, 0x06, 0x07, 0x08,
			0xff, 0xff, 0xff, 0xff, 0xff, 0xff, 0xff, 0xff,
			0x11, 0x12, 0x13, 0x14, 0x15, 0x16, 0x17, 0x18,
			255,
		},
	},
	{
		api.Report{Kind: api.Cancelled, ID: math.MinInt64, Price: math.MaxInt64, Qty: math.MinInt64 + 1, Left: math.MaxInt64 - 1},
		[]byte{
			4,
			0, 0, 0, 0, 0, 0, 0, 0x80,
			0,
			0,
			0xff, 0xff, 0xff, 0xff, 0xff, 0xff, 0xff, 0x7f,
			1, 0, 0, 0, 0, 0, 0, 0x80,
			0xfe, 0xff, 0xff, 0xff, 0xff, 0xff, 0xff, 0x7f,
			0,
		},
	},
	{
		api.Report{Kind: api.Reduced},
		[]byte{5, 0, 0, 0, 0, 0, 0, 0, 0, 0, 0, 0, 0, 0, 0, 0, 0, 0, 0, 0, 0, 0, 0, 0, 0, 0, 0, 0, 0, 0, 0, 0, 0, 0, 0, 0},
	},
}

func TestWrittenBytes(t *testing.T) {
	for _, x := range written {
		checkEncode(t, x.r, x.b, api.OK)
		checkDecode(t, x.b, x.r, api.OK)
	}
}

// TestEncodeAccepts: each Kind, and each field at its ends, comes back from its bytes (P7.1, W5).
func TestEncodeAccepts(t *testing.T) {
	for _, r := range accepted() {
		checkEncode(t, r, bytesOf(r), api.OK)
		b, _ := report.Encode(r)
		checkDecode(t, b, r, api.OK)
	}
}

func TestEncodeRefuses(t *testing.T) {
	checkEncode(t, api.Report{}, nil, api.ErrForm)
	for _, r := range refused() {
		checkEncode(t, r, nil, api.ErrForm)
	}
}

// TestEncodeOneBeyond: the ends of the ranges, spelt out (P7.1).
func TestEncodeOneBeyond(t *testing.T) {
	for _, x := range []struct {
		edit func(r *api.Report)
		want api.Errno
	}{
		{func(r *api.Report) { r.Kind = 0 }, api.ErrForm},
		{func(r *api.Report) { r.Kind = api.Accepted }, api.OK},
		{func(r *api.Report) { r.Kind = api.Rejected }, api.OK},
		{func(r *api.Report) { r.Kind = api.Traded }, api.OK},
		{func(r *api.Report) { r.Kind = api.Cancelled }, api.OK},
		{func(r *api.Report) { r.Kind = api.Reduced }, api.OK},
		{func(r *api.Report) { r.Kind = 6 }, api.ErrForm},
		{func(r *api.Report) { r.Inst = -1 }, api.ErrForm},
		{func(r *api.Report) { r.Inst = 0 }, api.OK},
		{func(r *api.Report) { r.Inst = 255 }, api.OK},
		{func(r *api.Report) { r.Inst = 256 }, api.ErrForm},
		{func(r *api.Report) { r.Side = -1 }, api.ErrForm},
		{func(r *api.Report) { r.Side = 0 }, api.OK},
		{func(r *api.Report) { r.Side = 2 }, api.OK},
		{func(r *api.Report) { r.Side = 3 }, api.ErrForm},
		{func(r *api.Report) { r.Why = -1 }, api.ErrForm},
		{func(r *api.Report) { r.Why = 0 }, api.OK},
		{func(r *api.Report) { r.Why = 255 }, api.OK},
		{func(r *api.Report) { r.Why = 256 }, api.ErrForm},
	} {
		r := edited(api.Traded, x.edit)
		var want []byte
		if x.want == api.OK {
			want = bytesOf(r)
		}
		checkEncode(t, r, want, x.want)
	}
}

func TestDecodeOfOtherLengths(t *testing.T) {
	checkUndecoded(t, nil)
	checkUndecoded(t, []byte{})
	checkUndecoded(t, make([]byte, 0, 100))
	for _, r := range accepted() {
		b := bytesOf(r)
		for n := range b {
			checkUndecoded(t, b[:n:n])
			// What is cut off still stands behind it, but only as spare capacity (R5).
			checkUndecoded(t, b[:n])
		}
		for _, rest := range [][]byte{{0}, {1}, {0xff}, {0, 0}, b[:1], b} {
			checkUndecoded(t, append(bytes.Clone(b), rest...))
			checkUndecoded(t, append(bytes.Clone(rest), b...))
		}
	}
	checkUndecoded(t, make([]byte, 1<<16))
	checkUndecoded(t, bytes.Repeat([]byte{1}, 1<<16))
}

// TestDecodeOfTurnedBytes: each byte of encodings turned to each other one (P7.1).
func TestDecodeOfTurnedBytes(t *testing.T) {
	for _, x := range written {
		for at := range x.b {
			for n := range 256 {
				b := bytes.Clone(x.b)
				b[at] = byte(n)
				want, err := answer(b)
				checkDecode(t, b, want, err)
				if err == api.OK {
					checkEncode(t, want, b, api.OK)
				}
			}
		}
	}
}

// TestDecodeOfNoKindOrSide: bytes of the right length that hold no report (P7.1).
func TestDecodeOfNoKindOrSide(t *testing.T) {
	for _, kind := range []int{0, 6, 7, 128, 254, 255} {
		checkUndecoded(t, bytesOf(full(kind)))
		checkUndecoded(t, bytesOf(api.Report{Kind: kind}))
	}
	for _, kind := range kinds {
		for side := 3; side < 256; side++ {
			checkUndecoded(t, bytesOf(edited(kind, func(r *api.Report) { r.Side = side })))
			checkUndecoded(t, bytesOf(api.Report{Kind: kind, Side: side}))
		}
	}
	checkUndecoded(t, bytesOf(api.Report{Kind: 6, Side: 3}))
	checkUndecoded(t, make([]byte, size))
	checkUndecoded(t, bytes.Repeat([]byte{0xff}, size))
}

// TestEncodingsAreNewMemory: an encoding shares no byte, not even a spare one, with another (R2).
func TestEncodingsAreNewMemory(t *testing.T) {
	for _, x := range written {
		first, _ := report.Encode(x.r)
		second, _ := report.Encode(x.r)
		if unsafe.SliceData(first) == unsafe.SliceData(second) {
			t.Errorf("R2: two encodings of %s share their memory", tell(x.r))
		}
		spoil(first)
		if !bytes.Equal(second, x.b) {
			t.Errorf("R2: Encode(%s): % x after another encoding was changed, want % x", tell(x.r), second, x.b)
		}
		checkEncode(t, x.r, x.b, api.OK)
	}
}

// TestDecodeLeavesItsBytes: neither they nor their spare capacity are changed (R2).
func TestDecodeLeavesItsBytes(t *testing.T) {
	for _, x := range written {
		for _, n := range []int{0, 1, 11, size - 1, size} {
			stay := append(bytes.Clone(x.b), 1, 2, 3, 4, 5, 6, 7, 8)
			b := bytes.Clone(stay)
			r, err := report.Decode(b[:n])
			if !bytes.Equal(b, stay) {
				t.Errorf("R2: Decode has changed % x into % x", stay, b)
			}
			spoil(b)
			if want, wantErr := answer(stay[:n]); r != want || err != wantErr {
				t.Errorf("R2: Decode(% x): %s, %d after the bytes were changed, want %s, %d", stay[:n], tell(r), int(err), tell(want), int(wantErr))
			}
		}
	}
}

// TestCallsStayAlike: no call hangs on those before it (R4).
func TestCallsStayAlike(t *testing.T) {
	for range 3 {
		for i, x := range written {
			checkEncode(t, x.r, x.b, api.OK)
			checkEncode(t, api.Report{Kind: 6 + i}, nil, api.ErrForm)
			checkDecode(t, x.b, x.r, api.OK)
			checkUndecoded(t, x.b[:i])
			checkUndecoded(t, append(bytes.Clone(x.b), 0))
		}
	}
}

// spoil changes every byte of b and of its spare capacity.
func spoil(b []byte) {
	b = b[:cap(b)]
	for i := range b {
		b[i] ^= 0xa5
	}
}
