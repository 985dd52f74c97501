package wire_test

import (
	"bytes"
	"encoding/binary"
	"fmt"
	"hash/crc32"
	"math"
	"slices"
	"strings"
	"testing"
	"unsafe"

	"cornhill/api"
	"cornhill/wire"
)

// longs are numbers in which each byte differs from the others, and the ends.
var longs = []int64{
	0, 1, 2, 127, 128, 255, 256, 257, 65535, 65536, 1 << 31, 1<<31 - 1, 1 << 32, 1 << 40, 0x0102030405060708,
	-1, -2, -127, -128, -129, -255, -256, -257, -1 << 31, -1<<31 - 1, -1 << 40, -0x0102030405060708,
	math.MaxInt64, math.MaxInt64 - 1, math.MinInt64, math.MinInt64 + 1,
}

// pattern returns n bytes, the first of them first, no two neighbours alike.
func pattern(n int, first byte) []byte {
	b := make([]byte, n)
	for i := range b {
		b[i] = first + byte(i)*7
	}
	return b
}

// texts are texts that fit into one, of each kind of byte.
func texts() []string {
	return []string{
		"", "a", "\x00", "\xff", "CLZ26-CLF27", "é", "Ω\xce", "a\x00b", string(pattern(2, 9)), string(pattern(7, 250)), string(pattern(127, 1)),
		string(pattern(128, 2)), string(pattern(254, 3)), string(pattern(255, 4)), strings.Repeat("\xff", 255), strings.Repeat("\x00", 255),
	}
}

// frameOf is the frame of b, made by Go's own library.
func frameOf(b []byte) []byte {
	frame := append([]byte{byte(len(b)), 255 - byte(len(b))}, b...)
	return binary.LittleEndian.AppendUint32(frame, crc32.ChecksumIEEE(b))
}

// written is what a new Writer holds after that was done with it.
func written(do func(w *wire.Writer)) []byte {
	w := wire.NewWriter()
	do(w)
	return w.Done()
}

func checkBytes(t *testing.T, promise, what string, got, want []byte) {
	t.Helper()
	if !bytes.Equal(got, want) {
		t.Errorf("%s: %s: % x, want % x", promise, what, got, want)
	}
}

func checkByte(t *testing.T, what string, r *wire.Reader, want int) {
	t.Helper()
	if got := r.Byte(); got != want {
		t.Errorf("%s: Byte: %d, want %d", what, got, want)
	}
}

func checkLong(t *testing.T, what string, r *wire.Reader, want int64) {
	t.Helper()
	if got := r.Long(); got != want {
		t.Errorf("%s: Long: %d, want %d", what, got, want)
	}
}

func checkText(t *testing.T, what string, r *wire.Reader, want string) {
	t.Helper()
	if got := r.Text(); got != want {
		t.Errorf("%s: Text: %+q, want %+q", what, got, want)
	}
}

// checkEnd asks twice, since the question reads nothing.
func checkEnd(t *testing.T, what string, r *wire.Reader, want api.Errno) {
	t.Helper()
	for range 2 {
		if got := r.End(); got != want {
			t.Errorf("%s: End: %d, want %d", what, int(got), int(want))
		}
	}
}

// checkShort asks whether bytes were missing, and whether all calls behind that one return zero values, each kind first once.
func checkShort(t *testing.T, what string, reader func() *wire.Reader) {
	t.Helper()
	for first := range 3 {
		r := reader()
		checkEnd(t, what, r, api.ErrEnd)
		for i := range 6 {
			switch (first + i) % 3 {
			case 0:
				checkByte(t, what, r, 0)
			case 1:
				checkLong(t, what, r, 0)
			case 2:
				checkText(t, what, r, "")
			}
			checkEnd(t, what, r, api.ErrEnd)
		}
	}
}

func checkFrame(t *testing.T, b, want []byte, wantErr api.Errno) {
	t.Helper()
	got, err := wire.Frame(b)
	if !bytes.Equal(got, want) || err != wantErr {
		t.Errorf("P4.2: Frame(% x): % x, %d, want % x, %d", b, got, int(err), want, int(wantErr))
	}
}

func checkOpen(t *testing.T, promise string, b []byte, at int, want []byte, wantNext int, wantErr api.Errno) {
	t.Helper()
	got, next, err := wire.Open(b, at)
	if !bytes.Equal(got, want) || next != wantNext || err != wantErr {
		t.Errorf("%s: Open(% x, %d): % x, %d, %d, want % x, %d, %d", promise, b, at, got, next, int(err), want, wantNext, int(wantErr))
	}
}

func checkRefused(t *testing.T, promise string, b []byte, at int, wantErr api.Errno) {
	t.Helper()
	checkOpen(t, promise, b, at, nil, 0, wantErr)
}

func TestNewWriter(t *testing.T) {
	checkBytes(t, "P4.1", "Done of a new Writer", wire.NewWriter().Done(), nil)
	one := wire.NewWriter()
	one.Byte(1)
	checkBytes(t, "P4.1", "Done of a Writer made after another wrote", wire.NewWriter().Done(), nil)
}

func TestWriteByte(t *testing.T) {
	for n := -1000; n <= 1000; n++ {
		got := written(func(w *wire.Writer) { w.Byte(n) })
		checkBytes(t, "P4.1", fmt.Sprintf("Byte(%d)", n), got, []byte{byte(((n % 256) + 256) % 256)})
	}
	for _, r := range []struct {
		n    int
		want byte
	}{
		{0, 0}, {255, 255}, {256, 0}, {257, 1}, {-1, 255}, {-256, 0}, {-257, 255}, {0x12345678, 0x78}, {math.MaxInt, 255}, {math.MinInt, 0}, {math.MinInt + 1, 1},
	} {
		got := written(func(w *wire.Writer) { w.Byte(r.n) })
		checkBytes(t, "P4.1", fmt.Sprintf("Byte(%d)", r.n), got, []byte{r.want})
	}
}

func TestWriteLong(t *testing.T) {
	for _, r := range []struct {
		n    int64
		want []byte
	}{
		{0, []byte{0, 0, 0, 0, 0, 0, 0, 0}},
		{1, []byte{1, 0, 0, 0, 0, 0, 0, 0}},
		{-1, []byte{255, 255, 255, 255, 255, 255, 255, 255}},
		{-2, []byte{254, 255, 255, 255, 255, 255, 255, 255}},
		{0x0102030405060708, []byte{8, 7, 6, 5, 4, 3, 2, 1}},
		{math.MaxInt64, []byte{255, 255, 255, 255, 255, 255, 255, 127}},
		{math.MinInt64, []byte{0, 0, 0, 0, 0, 0, 0, 128}},
	} {
		got := written(func(w *wire.Writer) { w.Long(r.n) })
		checkBytes(t, "P4.1", fmt.Sprintf("Long(%d)", r.n), got, r.want)
	}
	for _, n := range longs {
		got := written(func(w *wire.Writer) { w.Long(n) })
		checkBytes(t, "P4.1", fmt.Sprintf("Long(%d)", n), got, binary.LittleEndian.AppendUint64(nil, uint64(n)))
	}
}

func TestWriteText(t *testing.T) {
	for _, s := range texts() {
		got := written(func(w *wire.Writer) { w.Text(s) })
		checkBytes(t, "P4.1", fmt.Sprintf("Text(%+q)", s), got, append([]byte{byte(len(s))}, s...))
	}
}

func TestWriteTextTooLong(t *testing.T) {
	for _, n := range []int{256, 257, 510, 511, 512, 1000, 65536, 1 << 20} {
		s := pattern(n, 5)
		got := written(func(w *wire.Writer) { w.Text(string(s)) })
		checkBytes(t, "P4.1", fmt.Sprintf("Text of %d bytes", n), got, append([]byte{255}, s[:255]...))
	}
	// a text is cut between bytes, be it within a rune
	s := strings.Repeat("a", 254) + "é"
	got := written(func(w *wire.Writer) { w.Text(s) })
	checkBytes(t, "P4.1", "Text with a rune across its end", got, append([]byte{255}, s[:255]...))
}

func TestWritesFollowEachOther(t *testing.T) {
	w := wire.NewWriter()
	var want []byte
	for i := range 300 {
		w.Byte(i)
		want = append(want, byte(i))
		checkBytes(t, "P4.1", "Done after Byte", w.Done(), want)
		w.Long(int64(-i))
		want = binary.LittleEndian.AppendUint64(want, uint64(-i))
		checkBytes(t, "P4.1", "Done after Long", w.Done(), want)
		s := pattern(i, byte(i))
		w.Text(string(s))
		want = append(append(want, byte(min(i, 255))), s[:min(i, 255)]...)
		checkBytes(t, "P4.1", "Done after Text", w.Done(), want)
		checkBytes(t, "P4.1", "Done after Done", w.Done(), want)
	}
}

func TestWritersShareNothing(t *testing.T) {
	first, second := wire.NewWriter(), wire.NewWriter()
	first.Text("first")
	second.Text("second")
	first.Byte(1)
	second.Byte(2)
	checkBytes(t, "P4.1", "Done of the first Writer", first.Done(), []byte("\x05first\x01"))
	checkBytes(t, "P4.1", "Done of the second Writer", second.Done(), []byte("\x06second\x02"))
}

func TestReadByte(t *testing.T) {
	for n := range 256 {
		for _, rest := range [][]byte{nil, {7}, {7, 8}} {
			what := fmt.Sprintf("P4.1: after %d with %d bytes left", n, len(rest))
			r := wire.NewReader(append([]byte{byte(n)}, rest...))
			checkByte(t, what, r, n)
			for _, x := range rest {
				checkEnd(t, what, r, api.ErrTail)
				checkByte(t, what, r, int(x))
			}
			checkEnd(t, what, r, api.OK)
		}
	}
}

func TestReadLong(t *testing.T) {
	for _, n := range longs {
		b := binary.LittleEndian.AppendUint64(nil, uint64(n))
		r := wire.NewReader(b)
		checkLong(t, "P4.1: all bytes", r, n)
		checkEnd(t, "P4.1: all bytes", r, api.OK)
		r = wire.NewReader(append(b, 7))
		checkLong(t, "P4.1: one byte more", r, n)
		checkEnd(t, "P4.1: one byte more", r, api.ErrTail)
		checkByte(t, "P4.1: one byte more", r, 7)
		checkEnd(t, "P4.1: one byte more", r, api.OK)
	}
}

func TestReadText(t *testing.T) {
	for n := range 256 {
		s := string(pattern(n, byte(n)))
		b := append([]byte{byte(n)}, s...)
		r := wire.NewReader(b)
		checkText(t, "P4.1: all bytes", r, s)
		checkEnd(t, "P4.1: all bytes", r, api.OK)
		r = wire.NewReader(append(b, 0, 1, 'x'))
		checkText(t, "P4.1: bytes more", r, s)
		checkEnd(t, "P4.1: bytes more", r, api.ErrTail)
		checkText(t, "P4.1: bytes more", r, "")
		checkEnd(t, "P4.1: bytes more", r, api.ErrTail)
		checkText(t, "P4.1: bytes more", r, "x")
		checkEnd(t, "P4.1: bytes more", r, api.OK)
	}
	for _, s := range texts() {
		r := wire.NewReader(append([]byte{byte(len(s))}, s...))
		checkText(t, "P4.1: all bytes", r, s)
		checkEnd(t, "P4.1: all bytes", r, api.OK)
	}
}

func TestReadOfNothing(t *testing.T) {
	for _, b := range [][]byte{nil, {}} {
		checkEnd(t, "P4.1: no bytes", wire.NewReader(b), api.OK)
		checkByte(t, "P4.1: no bytes", wire.NewReader(b), 0)
		checkLong(t, "P4.1: no bytes", wire.NewReader(b), 0)
		checkText(t, "P4.1: no bytes", wire.NewReader(b), "")
		checkShort(t, "P4.1: after Byte of nothing", func() *wire.Reader { r := wire.NewReader(b); r.Byte(); return r })
		checkShort(t, "P4.1: after Long of nothing", func() *wire.Reader { r := wire.NewReader(b); r.Long(); return r })
		checkShort(t, "P4.1: after Text of nothing", func() *wire.Reader { r := wire.NewReader(b); r.Text(); return r })
	}
}

func TestReadOfTooLittle(t *testing.T) {
	// the bytes that are there would be read by a later Byte or Text, were the failed call not to end it all
	for n := range 8 {
		b := pattern(n, 1)
		what := fmt.Sprintf("P4.1: Long with %d bytes", n)
		checkLong(t, what, wire.NewReader(b), 0)
		checkShort(t, what, func() *wire.Reader { r := wire.NewReader(b); r.Long(); return r })
	}
	for size := 1; size < 256; size++ {
		for _, n := range []int{0, 1, 8, size / 2, size - 1} {
			if n >= size {
				continue
			}
			b := append([]byte{byte(size)}, pattern(n, 1)...)
			what := fmt.Sprintf("P4.1: Text of %d bytes with %d", size, n)
			checkText(t, what, wire.NewReader(b), "")
			checkShort(t, what, func() *wire.Reader { r := wire.NewReader(b); r.Text(); return r })
		}
	}
}

func TestReadOfTooLittleBehindOthers(t *testing.T) {
	b := written(func(w *wire.Writer) { w.Byte(200); w.Long(-5); w.Text("abc") })
	for _, more := range []func(*wire.Reader){
		func(r *wire.Reader) { checkByte(t, "P4.1: behind all", r, 0) },
		func(r *wire.Reader) { checkLong(t, "P4.1: behind all", r, 0) },
		func(r *wire.Reader) { checkText(t, "P4.1: behind all", r, "") },
	} {
		checkShort(t, "P4.1: behind all", func() *wire.Reader {
			r := wire.NewReader(b)
			checkByte(t, "P4.1: behind nothing", r, 200)
			checkEnd(t, "P4.1: behind Byte", r, api.ErrTail)
			checkLong(t, "P4.1: behind Byte", r, -5)
			checkEnd(t, "P4.1: behind Long", r, api.ErrTail)
			checkText(t, "P4.1: behind Long", r, "abc")
			checkEnd(t, "P4.1: behind Text", r, api.OK)
			more(r)
			return r
		})
	}
}

// TestReadOfEachBeginning: of all that was written, a part is missing at the end.
func TestReadOfEachBeginning(t *testing.T) {
	b := written(func(w *wire.Writer) { w.Long(math.MinInt64); w.Text("ab"); w.Byte(9); w.Text(""); w.Long(1) })
	for n := range len(b) + 1 {
		what := fmt.Sprintf("P4.1: %d of %d bytes", n, len(b))
		r := wire.NewReader(b[:n])
		long, text, number, empty, last := int64(0), "", 0, "", int64(0)
		if n >= 8 {
			long = math.MinInt64
		}
		if n >= 11 {
			text = "ab"
		}
		if n >= 12 {
			number = 9
		}
		if n >= 21 {
			last = 1
		}
		checkLong(t, what, r, long)
		checkText(t, what, r, text)
		checkByte(t, what, r, number)
		checkText(t, what, r, empty)
		checkLong(t, what, r, last)
		if n < len(b) {
			checkEnd(t, what, r, api.ErrEnd)
		} else {
			checkEnd(t, what, r, api.OK)
		}
	}
}

// TestReadBack: what is written is read back, in each order of the three kinds (P4.3, W5).
func TestReadBack(t *testing.T) {
	all := texts()
	for order := range 6 {
		w := wire.NewWriter()
		write := []func(i int){
			func(i int) { w.Byte(i * 5) },
			func(i int) { w.Long(longs[i%len(longs)]) },
			func(i int) { w.Text(all[i%len(all)]) },
		}
		var r *wire.Reader
		read := []func(i int){
			func(i int) { checkByte(t, "P4.3, W5", r, i*5%256) },
			func(i int) { checkLong(t, "P4.3, W5", r, longs[i%len(longs)]) },
			func(i int) { checkText(t, "P4.3, W5", r, all[i%len(all)]) },
		}
		kinds := [][]int{{0, 1, 2}, {0, 2, 1}, {1, 0, 2}, {1, 2, 0}, {2, 0, 1}, {2, 1, 0}}[order]
		for i := range 200 {
			for _, k := range kinds {
				write[k](i)
			}
		}
		r = wire.NewReader(w.Done())
		for i := range 200 {
			for _, k := range kinds {
				checkEnd(t, "P4.3, W5", r, api.ErrTail)
				read[k](i)
			}
		}
		checkEnd(t, "P4.3, W5", r, api.OK)
	}
}

func TestReadBackWhatIsCut(t *testing.T) {
	w := wire.NewWriter()
	w.Text(strings.Repeat("x", 300))
	w.Byte(-1)
	w.Byte(513)
	r := wire.NewReader(w.Done())
	checkText(t, "P4.3", r, strings.Repeat("x", 255))
	checkByte(t, "P4.3", r, 255)
	checkByte(t, "P4.3", r, 1)
	checkEnd(t, "P4.3", r, api.OK)
}

func TestCrc(t *testing.T) {
	for _, r := range []struct {
		b    string
		want uint32
	}{
		{"", 0},
		{"123456789", 0xcbf43926},
		{"a", 0xe8b7be43},
		{"\x00", 0xd202ef8d},
		{"\xff", 0xff000000},
		{"\x00\x00\x00\x00", 0x2144df1c},
		{"\xff\xff\xff\xff", 0xffffffff},
		{"The quick brown fox jumps over the lazy dog", 0x414fa339},
	} {
		if got := wire.Crc([]byte(r.b)); got != r.want {
			t.Errorf("P4.2: Crc(%+q): %08x, want %08x", r.b, got, r.want)
		}
	}
	if got := wire.Crc(nil); got != 0 {
		t.Errorf("P4.2: Crc(nil): %08x, want 0", got)
	}
}

func TestCrcOfEachByteAndLength(t *testing.T) {
	check := func(b []byte) {
		t.Helper()
		if got, want := wire.Crc(b), crc32.ChecksumIEEE(b); got != want {
			t.Errorf("P4.2: Crc of %d bytes from % x: %08x, want %08x", len(b), b[:min(len(b), 8)], got, want)
		}
	}
	for x := range 256 {
		check([]byte{byte(x)})
		check([]byte{0, byte(x)})
		check([]byte{byte(x), 255})
	}
	for n := range 600 {
		check(pattern(n, byte(n)))
		check(make([]byte, n))
		check(bytes.Repeat([]byte{255}, n))
	}
	check(pattern(1<<20, 3))
}

func TestFrame(t *testing.T) {
	for _, r := range []struct {
		b    string
		want []byte
	}{
		{"", []byte{0, 255, 0, 0, 0, 0}},
		{"a", []byte{1, 254, 'a', 0x43, 0xbe, 0xb7, 0xe8}},
		{"123456789", []byte{9, 246, '1', '2', '3', '4', '5', '6', '7', '8', '9', 0x26, 0x39, 0xf4, 0xcb}},
	} {
		checkFrame(t, []byte(r.b), r.want, api.OK)
	}
	checkFrame(t, nil, []byte{0, 255, 0, 0, 0, 0}, api.OK)
	for n := range api.MaxFrame + 1 {
		b := pattern(n, byte(n))
		checkFrame(t, b, frameOf(b), api.OK)
	}
}

func TestFrameTooLong(t *testing.T) {
	checkFrame(t, pattern(255, 1), frameOf(pattern(255, 1)), api.OK)
	for _, n := range []int{256, 257, 300, 511, 512, 1 << 16, 1<<16 + 5, 1 << 20} {
		checkFrame(t, pattern(n, 1), nil, api.ErrLong)
	}
}

func TestOpen(t *testing.T) {
	for n := range api.MaxFrame + 1 {
		content := pattern(n, byte(n))
		frame := frameOf(content)
		checkOpen(t, "P4.2", frame, 0, content, len(frame), api.OK)
		for _, before := range []int{1, 2, 5, 255, 300} {
			b := append(pattern(before, 1), frame...)
			checkOpen(t, "P4.2", b, before, content, len(b), api.OK)
			b = append(b, pattern(before, 2)...)
			checkOpen(t, "P4.2", b, before, content, before+len(frame), api.OK)
		}
	}
}

func TestOpenOneBehindTheOther(t *testing.T) {
	var b []byte
	var contents [][]byte
	for n := range api.MaxFrame + 1 {
		contents = append(contents, pattern(n, byte(3*n)))
		b = append(b, frameOf(contents[n])...)
	}
	at := 0
	for n, content := range contents {
		checkOpen(t, "P4.2", b, at, content, at+n+6, api.OK)
		at += n + 6
	}
	checkRefused(t, "P4.2", b, at, api.ErrEnd)
}

func TestOpenOffsets(t *testing.T) {
	frame := frameOf([]byte("abc"))
	for _, b := range [][]byte{nil, {}, {7}, {1, 254}, frame, append(pattern(3, 1), frame...)} {
		for _, at := range []int{-1, -2, -256, math.MinInt, len(b) + 1, len(b) + 2, len(b) + 6, len(b) + 256, math.MaxInt - 1, math.MaxInt} {
			checkRefused(t, "P4.2", b, at, api.ErrArg)
		}
		// at the end there are fewer than two bytes, but the offset is one
		checkRefused(t, "P4.2", b, len(b), api.ErrEnd)
		if len(b) > 0 {
			checkRefused(t, "P4.2", b, len(b)-1, api.ErrEnd)
		}
	}
}

// TestOpenOffsetIsNotTheEnd: the bytes ahead of an offset are not counted, and what lies beyond the end is not read.
func TestOpenOffsetIsNotTheEnd(t *testing.T) {
	frame := frameOf([]byte("abc"))
	for n := range len(frame) {
		want := api.ErrEnd
		b := append(pattern(20, 1), frame[:n]...)
		checkRefused(t, "P4.2", b, 20, want)
		// R5: the missing bytes stand in the spare capacity
		checkRefused(t, "P4.2, R5", frame[:n], 0, want)
	}
}

func TestOpenHead(t *testing.T) {
	for size := range 256 {
		for inverted := range 256 {
			want := api.ErrSum
			if size+inverted == 255 {
				want = api.ErrEnd
			}
			// the bytes of the frame are missing too, but that is asked later
			checkRefused(t, "P4.2", []byte{byte(size), byte(inverted)}, 0, want)
			checkRefused(t, "P4.2", []byte{1, byte(size), byte(inverted)}, 1, want)
		}
	}
}

func TestOpenMissing(t *testing.T) {
	for _, n := range []int{0, 1, 2, 100, 254, 255} {
		frame := frameOf(pattern(n, 1))
		for have := range len(frame) {
			checkRefused(t, "P4.2", frame[:have:have], 0, api.ErrEnd)
		}
	}
	// of a frame with bytes missing, no checksum is asked for
	checkRefused(t, "P4.2", []byte{1, 254, 'a', 1, 2, 3}, 0, api.ErrEnd)
	checkRefused(t, "P4.2", []byte{1, 254, 'a', 1, 2, 3, 4}, 0, api.ErrSum)
	checkRefused(t, "P4.2", []byte{0, 255, 0, 0, 0}, 0, api.ErrEnd)
	checkRefused(t, "P4.2", []byte{0, 255, 0, 0, 0, 1}, 0, api.ErrSum)
}

func TestOpenChecksum(t *testing.T) {
	for _, n := range []int{0, 1, 9, 255} {
		content := pattern(n, 1)
		frame := frameOf(content)
		// a checksum whose bytes are turned round is none
		turned := slices.Clone(frame)
		slices.Reverse(turned[n+2:])
		if n > 0 {
			checkRefused(t, "P4.2", turned, 0, api.ErrSum)
		}
		for i := range 32 {
			wrong := slices.Clone(frame)
			wrong[n+2+i/8] ^= 1 << (i % 8)
			checkRefused(t, "P4.2", wrong, 0, api.ErrSum)
			checkRefused(t, "P4.2", append(pattern(3, 1), wrong...), 3, api.ErrSum)
		}
	}
	// the length does not belong to what is summed
	frame := []byte{1, 254, 'a'}
	frame = binary.LittleEndian.AppendUint32(frame, crc32.ChecksumIEEE(frame))
	checkRefused(t, "P4.2", frame, 0, api.ErrSum)
}

// TestFramesAreOpened: what Frame returns, Open opens (P4.3, W5).
func TestFramesAreOpened(t *testing.T) {
	for n := range api.MaxFrame + 1 {
		for _, content := range [][]byte{pattern(n, byte(n)), make([]byte, n), bytes.Repeat([]byte{255}, n)} {
			frame, err := wire.Frame(content)
			if err != api.OK {
				t.Errorf("P4.3, W5: Frame(% x): %d", content, int(err))
			}
			checkOpen(t, "P4.3, W5", frame, 0, content, len(frame), api.OK)
		}
	}
	// a frame is 6 bytes longer than its content, so that frames of frames are bounded
	inner, _ := wire.Frame([]byte("abc"))
	outer, _ := wire.Frame(inner)
	checkOpen(t, "P4.3, W5", outer, 0, inner, len(outer), api.OK)
}

// TestChangedFramesAreRefused: one byte of a frame, at each place, is changed to each other value (P4.3).
func TestChangedFramesAreRefused(t *testing.T) {
	for _, n := range []int{0, 1, 2, 9, 40, 255} {
		frame, _ := wire.Frame(pattern(n, 11))
		for at, rest := range [][]byte{nil, pattern(300, 1), make([]byte, 300)} {
			b := slices.Concat(frame[:at], frame, rest)
			for i := range frame {
				for change := 1; change < 256; change++ {
					b[at+i] ^= byte(change)
					if content, next, err := wire.Open(b, at); err != api.ErrSum || len(content) > 0 || next != 0 {
						t.Errorf("P4.3: frame of %d bytes with byte %d changed by %02x: % x, %d, %d, want ErrSum", n, i, change, content, next, int(err))
					}
					b[at+i] ^= byte(change)
				}
			}
		}
	}
}

// inside returns a slice of b's bytes with bytes before it and spare capacity behind it, and all of these bytes.
func inside(b []byte) ([]byte, []byte) {
	all := append(append([]byte{1, 2, 3}, b...), 4, 5, 6, 7, 8, 9, 10, 11)
	return all[3 : 3+len(b)], all
}

// TestArgumentsStay: R2, R5: what is handed in is not changed, nor its spare capacity.
func TestArgumentsStay(t *testing.T) {
	for _, b := range [][]byte{nil, {1}, []byte("123456789"), frameOf([]byte("abc")), frameOf(nil), pattern(255, 1), pattern(256, 1)} {
		arg, all := inside(b)
		before := slices.Clone(all)
		for _, call := range []struct {
			name string
			do   func()
		}{
			{"Crc", func() { wire.Crc(arg) }},
			{"Frame", func() { wire.Frame(arg) }},
			{"Open", func() { wire.Open(arg, 0); wire.Open(arg, len(arg)); wire.Open(arg, -1) }},
			{"NewReader", func() {
				r := wire.NewReader(arg)
				r.Byte()
				r.Text()
				r.Long()
				r.End()
			}},
		} {
			call.do()
			checkBytes(t, "R2", call.name+" changed its argument", all, before)
		}
	}
}

// TestReaderKeepsNothing: R2: a Reader reads what its bytes were when it was made.
func TestReaderKeepsNothing(t *testing.T) {
	b := written(func(w *wire.Writer) { w.Byte(1); w.Long(2); w.Text("abc"); w.Text("") })
	r := wire.NewReader(b)
	clear(b)
	checkByte(t, "R2: the bytes changed", r, 1)
	b = append(b[:0], pattern(len(b), 9)...)
	checkLong(t, "R2: the bytes changed", r, 2)
	text := r.Text()
	clear(b)
	if text != "abc" {
		t.Errorf("R2: a text changed with the bytes: %+q, want abc", text)
	}
	checkText(t, "R2: the bytes changed", r, "")
	checkEnd(t, "R2: the bytes changed", r, api.OK)
}

// fill changes all of b, its spare capacity with it.
func fill(b []byte) {
	b = b[:cap(b)]
	for i := range b {
		b[i] = 0xa5
	}
}

// shares reports whether a and b have a byte of memory in common, spare capacity counted.
func shares(a, b []byte) bool {
	if cap(a) == 0 || cap(b) == 0 {
		return false
	}
	a0, b0 := uintptr(unsafe.Pointer(unsafe.SliceData(a))), uintptr(unsafe.Pointer(unsafe.SliceData(b)))
	return a0 < b0+uintptr(cap(b)) && b0 < a0+uintptr(cap(a))
}

// TestResultsAreNew: R2: results share no memory with arguments, objects or each other.
func TestResultsAreNew(t *testing.T) {
	for n := range api.MaxFrame + 1 {
		content := pattern(n, 1)
		arg, all := inside(content)
		first, _ := wire.Frame(arg)
		second, _ := wire.Frame(arg)
		if shares(first, all) || shares(second, all) || shares(first, second) {
			t.Errorf("R2: Frame of %d bytes: no new memory", n)
		}
		fill(first)
		checkBytes(t, "R2", "a frame changed with another", second, frameOf(content))
		arg, all = inside(frameOf(content))
		first, _, _ = wire.Open(arg, 0)
		second, _, _ = wire.Open(arg, 0)
		if shares(first, all) || shares(second, all) || shares(first, second) {
			t.Errorf("R2: Open of a frame of %d bytes: no new memory", n)
		}
		fill(first)
		checkBytes(t, "R2", "a content changed with another", second, content)
	}
}

// TestDoneIsNew: R2: what Done returned stays, and what is done with it reaches no Writer.
func TestDoneIsNew(t *testing.T) {
	w := wire.NewWriter()
	var want []byte
	var done, wants [][]byte
	for i := range 600 {
		w.Byte(i)
		want = append(want, byte(i))
		got, again := w.Done(), w.Done()
		if shares(got, again) {
			t.Errorf("R2: Done after %d bytes: no new memory", i+1)
		}
		fill(again)
		done, wants = append(done, got), append(wants, slices.Clone(want))
	}
	for i := range done {
		checkBytes(t, "R2", fmt.Sprintf("what Done returned after %d bytes", i+1), done[i], wants[i])
	}
	checkBytes(t, "R2", "Done at the end", w.Done(), want)
}

// TestReadersShareNothing: two Readers of the same bytes each read all of them.
func TestReadersShareNothing(t *testing.T) {
	b := []byte{1, 2}
	first, second := wire.NewReader(b), wire.NewReader(b)
	checkByte(t, "P4.1: first Reader", first, 1)
	checkLong(t, "P4.1: first Reader", first, 0)
	checkEnd(t, "P4.1: first Reader", first, api.ErrEnd)
	checkEnd(t, "P4.1: second Reader", second, api.ErrTail)
	checkByte(t, "P4.1: second Reader", second, 1)
	checkByte(t, "P4.1: second Reader", second, 2)
	checkEnd(t, "P4.1: second Reader", second, api.OK)
}

// TestRepeats: R4: the same calls with the same arguments return the same.
func TestRepeats(t *testing.T) {
	for range 3 {
		checkFrame(t, []byte("abc"), frameOf([]byte("abc")), api.OK)
		checkFrame(t, pattern(256, 0), nil, api.ErrLong)
		checkOpen(t, "R4", frameOf([]byte("abc")), 0, []byte("abc"), 9, api.OK)
		checkRefused(t, "R4", []byte{1, 2}, 0, api.ErrSum)
		if got := wire.Crc([]byte("123456789")); got != 0xcbf43926 {
			t.Errorf("R4: Crc(123456789): %08x", got)
		}
	}
}
