package report_test

import (
	"bytes"
	"encoding/binary"
	"hash/crc32"
	"math"
	"slices"
	"testing"

	"cornhill/api"
	"cornhill/report"
)

// frameSize is the number of bytes of a report's frame: its length, the same inverted, and a checksum.
const frameSize = 2 + size + 4

// frameOf is the frame of b, made by Go's own library.
func frameOf(b []byte) []byte {
	frame := append([]byte{byte(len(b)), 255 - byte(len(b))}, b...)
	return binary.LittleEndian.AppendUint32(frame, crc32.ChecksumIEEE(b))
}

// framesOf are the frames of the bytes of l, one after the other.
func framesOf(l []api.Report) []byte {
	var all []byte
	for _, r := range l {
		all = append(all, frameOf(bytesOf(r))...)
	}
	return all
}

// opened returns what stands in the frame at the start of b, what follows the frame, and the error of a frame that cannot be opened.
func opened(b []byte) (content, rest []byte, err api.Errno) {
	if len(b) < 2 {
		return nil, nil, api.ErrEnd
	}
	n := int(b[0])
	if int(b[1]) != 255-n {
		return nil, nil, api.ErrSum
	}
	if len(b) < n+6 {
		return nil, nil, api.ErrEnd
	}
	if binary.LittleEndian.Uint32(b[n+2:]) != crc32.ChecksumIEEE(b[2:n+2]) {
		return nil, nil, api.ErrSum
	}
	return b[2 : n+2], b[n+6:], api.OK
}

// reportsOf returns what Read must return for b.
func reportsOf(b []byte) ([]api.Report, api.Errno) {
	if len(b) == 0 {
		return nil, api.OK
	}
	content, rest, err := opened(b)
	if err != api.OK {
		return nil, err
	}
	r, err := answer(content)
	if err != api.OK {
		return nil, err
	}
	l, err := reportsOf(rest)
	return append([]api.Report{r}, l...), err
}

// few are three reports, no two of a Kind.
func few() []api.Report {
	return []api.Report{written[0].r, written[2].r, written[4].r}
}

func checkAll(t *testing.T, l []api.Report, want []byte) {
	t.Helper()
	if got := report.All(l); !bytes.Equal(got, want) {
		t.Errorf("P7.2: All of %d reports: %d bytes, % .300x, want %d bytes, % .300x", len(l), len(got), got, len(want), want)
	}
}

func checkRead(t *testing.T, b []byte, want []api.Report, wantErr api.Errno) {
	t.Helper()
	got, err := report.Read(b)
	if !slices.Equal(got, want) || err != wantErr {
		t.Errorf("P7.2: Read(% .300x, %d bytes): %d reports, %.500v, %d, want %d, %.500v, %d", b, len(b), len(got), got, int(err), len(want), want, int(wantErr))
	}
}

// join returns the bytes of parts, one after the other, in new memory without spare capacity.
func join(parts ...[]byte) []byte {
	return slices.Clip(bytes.Join(parts, nil))
}

func TestNoReports(t *testing.T) {
	checkAll(t, nil, nil)
	checkAll(t, []api.Report{}, nil)
	checkAll(t, few()[:0], nil)
	checkRead(t, nil, nil, api.OK)
	checkRead(t, []byte{}, nil, api.OK)
	// What stands in the spare capacity is not read (R5).
	checkRead(t, framesOf(few())[:0], nil, api.OK)
	checkRead(t, report.All(nil), nil, api.OK)
}

// TestWrittenFrames: the bytes of frames, written out but for the checksums, which Go's own library makes (P7.2).
func TestWrittenFrames(t *testing.T) {
	var l []api.Report
	var all []byte
	for _, x := range written {
		all = append(all, 36, 219)
		all = append(all, x.b...)
		all = binary.LittleEndian.AppendUint32(all, crc32.ChecksumIEEE(x.b))
		l = append(l, x.r)
		checkAll(t, l, all)
		checkRead(t, all, l, api.OK)
		checkAll(t, l[len(l)-1:], all[len(all)-frameSize:])
		checkRead(t, all[len(all)-frameSize:], l[len(l)-1:], api.OK)
	}
}

// TestManyReports: as many as come, in their order, and twice the same one too (P7.2, W5).
func TestManyReports(t *testing.T) {
	l := accepted()
	for _, r := range l {
		checkAll(t, []api.Report{r}, framesOf([]api.Report{r}))
		checkRead(t, report.All([]api.Report{r}), []api.Report{r}, api.OK)
	}
	for range 3 {
		l = append(l, l...)
	}
	checkAll(t, l, framesOf(l))
	checkRead(t, report.All(l), l, api.OK)
	slices.Reverse(l)
	checkAll(t, l, framesOf(l))
	checkRead(t, report.All(l), l, api.OK)
}

// TestAllLeavesOut: reports without an encoding, alone, ahead of others, between and behind them (P7.2).
func TestAllLeavesOut(t *testing.T) {
	bad := refused()
	checkAll(t, bad, nil)
	checkAll(t, []api.Report{{}}, nil)
	good := few()
	for _, r := range bad {
		checkAll(t, []api.Report{r}, nil)
		for at := range len(good) + 1 {
			checkAll(t, slices.Insert(few(), at, r), framesOf(good))
		}
		l := []api.Report{r, good[0], r, r, good[1], r, good[2], r, r}
		checkAll(t, l, framesOf(good))
		checkRead(t, report.All(l), good, api.OK)
	}
	good = accepted()
	var mixed []api.Report
	for i, r := range good {
		mixed = append(mixed, bad[i%len(bad)], r, bad[7*i%len(bad)])
	}
	checkAll(t, mixed, framesOf(good))
	checkRead(t, report.All(mixed), good, api.OK)
}

// TestReadOfCutBytes: at the end of a frame nothing is missing, anywhere else ErrEnd (P7.2).
func TestReadOfCutBytes(t *testing.T) {
	l := few()
	all := framesOf(l)
	for n := range all {
		want := api.ErrEnd
		if n%frameSize == 0 {
			want = api.OK
		}
		checkRead(t, all[:n:n], l[:n/frameSize], want)
		// What is cut off still stands behind it, but only as spare capacity (R5).
		checkRead(t, all[:n], l[:n/frameSize], want)
	}
	checkRead(t, all, l, api.OK)
}

// TestReadOfBytesBehind: the reports ahead of them come back, beside what is wrong with them (P7.2).
func TestReadOfBytesBehind(t *testing.T) {
	for _, l := range [][]api.Report{nil, few()[:1], few()} {
		all := framesOf(l)
		for n := range 256 {
			checkRead(t, join(all, []byte{byte(n)}), l, api.ErrEnd)
			// a length, and not the same inverted
			checkRead(t, join(all, []byte{byte(n), byte(n)}), l, api.ErrSum)
			checkRead(t, join(all, []byte{byte(n), byte(n)}, make([]byte, 300)), l, api.ErrSum)
			// a head without its content
			checkRead(t, join(all, []byte{byte(n), 255 - byte(n)}), l, api.ErrEnd)
			checkRead(t, join(all, []byte{byte(n), 255 - byte(n)}, make([]byte, n+3)), l, api.ErrEnd)
			// a checksum that none of these contents has
			checkRead(t, join(all, []byte{byte(n), 255 - byte(n)}, make([]byte, n), []byte{1, 2, 3, 4}), l, api.ErrSum)
		}
	}
}

// TestReadOfTurnedBytes: the reports ahead of the frame come back, those behind it do not (P7.2).
func TestReadOfTurnedBytes(t *testing.T) {
	l := few()
	all := framesOf(l)
	for at := range all {
		for n := 1; n < 256; n++ {
			b := bytes.Clone(all)
			b[at] ^= byte(n)
			checkRead(t, b, l[:at/frameSize], api.ErrSum)
		}
	}
}

// noReports are contents that a frame can have, and a report can not.
func noReports() [][]byte {
	b := bytesOf(full(3))
	list := [][]byte{
		{}, {0}, {1}, {5}, make([]byte, size), make([]byte, 255), bytes.Repeat([]byte{1}, 255),
		b[:1], b[:10], b[:size-1], b[1:], append(bytes.Clone(b), 0), append([]byte{0}, b...), append(bytes.Clone(b), b...), frameOf(b),
	}
	for _, kind := range []int{0, 6, 7, 128, 255} {
		list = append(list, bytesOf(full(kind)))
	}
	for _, side := range []int{3, 4, 128, 255} {
		list = append(list, bytesOf(edited(3, func(r *api.Report) { r.Side = side })))
	}
	return list
}

// TestReadOfFramesWithoutReport: they can be opened, and end the reports with ErrForm, wherever they stand and whatever follows (P7.2).
func TestReadOfFramesWithoutReport(t *testing.T) {
	l := few()
	for _, content := range noReports() {
		for at := range len(l) + 1 {
			b := join(framesOf(l[:at]), frameOf(content), framesOf(l[at:]))
			checkRead(t, b, l[:at], api.ErrForm)
			// the first fault counts
			checkRead(t, join(b, []byte{0}), l[:at], api.ErrForm)
			checkRead(t, join(framesOf(l[:at]), frameOf(content), []byte{1, 1}), l[:at], api.ErrForm)
			checkRead(t, join(framesOf(l[:at]), []byte{1, 1}, frameOf(content)), l[:at], api.ErrSum)
			checkRead(t, join(framesOf(l[:at]), frameOf(content), frameOf(content)), l[:at], api.ErrForm)
		}
	}
}

// TestReadOfFramesOneLengthOff: a content that is no report does not become one with the bytes behind its frame (P7.2).
func TestReadOfFramesOneLengthOff(t *testing.T) {
	b := bytesOf(full(1))
	for n := range size {
		checkRead(t, join(frameOf(b[:n]), frameOf(b[n:])), nil, api.ErrForm)
		checkRead(t, join(framesOf(few()), frameOf(b[:n]), frameOf(b)), few(), api.ErrForm)
	}
}

// TestReadAgainstTheFrames: every end of every start of frames with and without reports (P7.2).
func TestReadAgainstTheFrames(t *testing.T) {
	l := few()
	for _, b := range [][]byte{
		framesOf(l),
		join(framesOf(l[:2]), frameOf(nil), framesOf(l[2:])),
		join(framesOf(l[:1]), frameOf(bytesOf(full(6))), framesOf(l[1:])),
		join(framesOf(l[:1]), []byte{36}, framesOf(l[1:])),
	} {
		for from := range b {
			for to := from; to <= len(b); to++ {
				want, err := reportsOf(b[from:to])
				checkRead(t, b[from:to], want, err)
			}
		}
	}
}

// TestAllLeavesItsReports: neither they nor those in the spare capacity are changed, and what is made of them stays (R2).
func TestAllLeavesItsReports(t *testing.T) {
	stay := slices.Concat(few(), []api.Report{{}, full(6), full(1)})
	for n := range stay {
		l := slices.Clone(stay)
		b := report.All(l[:n])
		if !slices.Equal(l, stay) {
			t.Errorf("R2: All has changed %v into %v", stay, l)
		}
		clear(l)
		if want := framesOf(few()[:min(n, 3)]); !bytes.Equal(b, want) {
			t.Errorf("R2: All: % x after the reports were changed, want % x", b, want)
		}
	}
}

// TestFramesAreNewMemory: the bytes of one call are not those of another, the spare ones neither (R2).
func TestFramesAreNewMemory(t *testing.T) {
	for n := range 4 {
		l := few()[:n]
		first, second := report.All(l), report.All(l)
		spoil(first)
		if !bytes.Equal(second, framesOf(l)) {
			t.Errorf("R2: All of %d reports: % x after another result was changed", n, second)
		}
		checkAll(t, l, framesOf(l))
	}
}

// TestReadLeavesItsBytes: neither they nor their spare capacity are changed, and the reports stay when the bytes change (R2).
func TestReadLeavesItsBytes(t *testing.T) {
	whole := join(framesOf(few()), frameOf(nil), []byte{1, 2, 3})
	for n := range len(whole) + 1 {
		b := bytes.Clone(whole)
		l, err := report.Read(b[:n])
		if !bytes.Equal(b, whole) {
			t.Errorf("R2: Read has changed % x into % x", whole, b)
		}
		spoil(b)
		if want, wantErr := reportsOf(whole[:n]); !slices.Equal(l, want) || err != wantErr {
			t.Errorf("R2: Read: %v, %d after the bytes were changed, want %v, %d", l, int(err), want, int(wantErr))
		}
	}
}

// TestReportsAreNewMemory: the list of one call is not that of another, its spare capacity neither (R2, R4).
func TestReportsAreNewMemory(t *testing.T) {
	for n := range 4 {
		b := join(framesOf(few()[:n]), []byte{9})
		first, _ := report.Read(b)
		second, _ := report.Read(b)
		clear(first[:cap(first)])
		if !slices.Equal(second, few()[:n]) {
			t.Errorf("R2: Read of %d reports: %v after another result was changed", n, second)
		}
		checkRead(t, b, few()[:n], api.ErrEnd)
	}
}

// TestReadOfGreatLists: more reports than any table would hold (P7.2).
func TestReadOfGreatLists(t *testing.T) {
	l := make([]api.Report, 1<<15)
	for i := range l {
		l[i] = api.Report{Kind: i%5 + 1, ID: int64(i), Inst: i % 256, Side: i % 3, Price: -int64(i), Qty: int64(i) << 40, Left: math.MaxInt64 - int64(i), Why: api.Errno(i % 256)}
	}
	b := report.All(l)
	if !bytes.Equal(b, framesOf(l)) {
		t.Errorf("P7.2: All of %d reports: %d other bytes", len(l), len(b))
	}
	got, err := report.Read(b)
	if !slices.Equal(got, l) || err != api.OK {
		t.Errorf("P7.2: Read of %d reports: %d reports, %d", len(l), len(got), int(err))
	}
}
