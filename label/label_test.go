package label_test

import (
	"math"
	"slices"
	"strings"
	"testing"
	"unicode/utf8"
	"unsafe"

	"cornhill/api"
	"cornhill/label"
)

// samples are pieces of which the tests join texts: runes of each width, the edges of what a label may contain and of what Fold replaces, U+FFFD as itself, and bytes that begin no valid sequence.
var samples = []string{
	"", "a", "z", "A", "Z", "`", "{", "@", "[", "0", " ",
	"\x00", "\x1f", "\x7e", "\x7f", "\u0080", "\u009f", "\u00a0",
	"é", "ÿ", "ß", "\u0130", "\u0131", "\u07ff",
	"\u0390", "\u0391", "\u03a2", "\u03a9", "\u03b0", "\u03b1", "\u03c1", "\u03c2", "\u03c3", "\u03c9", "\u03ca", "ά", "я",
	"\u0800", "€", "\ufffc", "\ufffd", "\ufffe", "\uffff", "\U00010000", "😀", "\U0010ffff",
	"\xff", "\xc3", "\xa9", "\x80", "\xce", "\xb1", "\xe2\x82", "\xf0\x9f\x98", "\xc0\x80", "\xed\xa0\x80", "\xf4\x90\x80\x80",
}

// texts are all samples, and all joins of two of them: so a byte without its sequence also stands before each other piece.
func texts() []string {
	var l []string
	for _, a := range samples {
		for _, b := range samples {
			l = append(l, a+b)
		}
	}
	return l
}

// pieces cuts s into the bytes of its runes, by the library's decoder and not by a range statement.
func pieces(s string) []string {
	var l []string
	for s != "" {
		_, size := utf8.DecodeRuneInString(s)
		l = append(l, s[:size])
		s = s[size:]
	}
	return l
}

func checkText(t *testing.T, call, s string, got, want string) {
	t.Helper()
	if got != want {
		t.Errorf("P2.1: %s of %+q: %+q, want %+q", call, s, got, want)
	}
}

func TestRight(t *testing.T) {
	for _, r := range []struct {
		s    string
		want bool
	}{
		{"", false},
		{"a", true},
		{"order 7", true},
		{" ", true},
		{"            ", true},
		{"é€😀", true},
		{"-", true},
		{"abcdefghijkl", true},
		{"abcdefghijklm", false},
		// the runes count, not their bytes:
		{strings.Repeat("é", 12), true},
		{strings.Repeat("é", 13), false},
		{strings.Repeat("😀", 12), true},
		{strings.Repeat("😀", 13), false},
		{strings.Repeat("a", 1000), false},
		{"\x00", false},
		{"\t", false},
		{"\n", false},
		{"\x1f", false},
		{"\x20", true},
		{"\x7e", true},
		{"\x7f", false},
		{"\u0080", true},
		{"\u009f", true},
		{"\ufffc", true},
		{"\ufffd", false},
		{"\ufffe", true},
		{"\U0010ffff", true},
		{"\xff", false},
		{"\xc3", false},
		{"\x80", false},
		{"\xc0\x80", false},
		{"\xed\xa0\x80", false},
		// a wrong rune at the start, within, and at the end:
		{"\x1fab", false},
		{"a\x7fb", false},
		{"ab\n", false},
		{"\xffab", false},
		{"a\xffb", false},
		{"ab\xff", false},
		{"ab\ufffd", false},
		{"abcdefghijk\x7f", false},
		{"abcdefghijk\xff", false},
	} {
		if got := label.Right(r.s); got != r.want {
			t.Errorf("P2.1: Right(%+q): %v, want %v", r.s, got, r.want)
		}
	}
}

func TestRightOfEachLength(t *testing.T) {
	for _, piece := range []string{"a", "é", "€", "😀"} {
		for n := range 40 {
			want := n >= 1 && n <= api.MaxLabel
			if got := label.Right(strings.Repeat(piece, n)); got != want {
				t.Errorf("P2.1: Right of %d times %s: %v, want %v", n, piece, got, want)
			}
		}
	}
}

func TestRightOfEachRune(t *testing.T) {
	for r := rune(0); r <= utf8.MaxRune; r++ {
		if !utf8.ValidRune(r) {
			continue
		}
		want := r >= 32 && r != 127 && r != 0xfffd
		if got := label.Right(string(r)); got != want {
			t.Errorf("P2.1: Right of U+%04X: %v, want %v", r, got, want)
		}
	}
}

func TestCount(t *testing.T) {
	for _, r := range []struct {
		s    string
		want int
	}{
		{"", 0},
		{"a", 1},
		{"abc", 3},
		{"aé\xff", 3},
		{"é€😀", 3},
		{"\ufffd", 1},
		{"\xff", 1},
		{"\xc3\xa9", 1},
		{"\xc3", 1},
		{"\xa9\xc3", 2},
		{"\xe2\x82", 2},
		{"\xe2\x82a", 3},
		{"\xf0\x9f\x98", 3},
		{"\xc0\x80", 2},
		{"\xed\xa0\x80", 3},
		{"\xf4\x90\x80\x80", 4},
		{"\x00\x00", 2},
		{strings.Repeat("€", 5000), 5000},
	} {
		if got := label.Count(r.s); got != r.want {
			t.Errorf("P2.1: Count(%+q): %d, want %d", r.s, got, r.want)
		}
	}
}

func TestCut(t *testing.T) {
	for _, r := range []struct {
		s    string
		n    int
		want string
	}{
		{"abc", 2, "ab"},
		{"abc", 0, ""},
		{"abc", 3, "abc"},
		{"abc", 4, "abc"},
		{"abc", math.MaxInt, "abc"},
		{"abc", -1, ""},
		{"abc", math.MinInt, ""},
		{"", 0, ""},
		{"", 1, ""},
		{"", -1, ""},
		{"é€😀", 1, "é"},
		{"é€😀", 2, "é€"},
		{"é€😀", 3, "é€😀"},
		{"aé\xffb", 3, "aé\xff"},
		{"\xe2\x82a", 1, "\xe2"},
		{"\xe2\x82a", 2, "\xe2\x82"},
		{"\xff\ufffdx", 1, "\xff"},
		{"\xff\ufffdx", 2, "\xff\ufffd"},
		{"\ufffd\xffx", 1, "\ufffd"},
		{strings.Repeat("é", 3000), 2000, strings.Repeat("é", 2000)},
	} {
		if got := label.Cut(r.s, r.n); got != r.want {
			t.Errorf("P2.1: Cut(%+q, %d): %+q, want %+q", r.s, r.n, got, r.want)
		}
	}
}

func TestPad(t *testing.T) {
	blanks := strings.Repeat(" ", 1000)
	long := strings.Repeat("é", 1500)
	for _, r := range []struct {
		s    string
		n    int
		want string
	}{
		{"é", 3, "é  "},
		{"ab", 2, "ab"},
		{"ab", 3, "ab "},
		{"abc", 2, "ab"},
		{"abc", 0, ""},
		{"abc", -1, ""},
		{"abc", math.MinInt, ""},
		{"", 0, ""},
		{"", -1, ""},
		{"", 2, "  "},
		{"€😀", 3, "€😀 "},
		{"\xff", 2, "\xff "},
		{"\xc3", 2, "\xc3 "},
		{"\xe2\x82", 3, "\xe2\x82 "},
		{"\xe2\x82\xac", 2, "\xe2\x82\xac "},
		{"\ufffd", 2, "\ufffd "},
		{"a b", 5, "a b  "},
		{"", 999, blanks[:999]},
		{"", 1000, blanks},
		{"", 1001, blanks},
		{"", math.MaxInt, blanks},
		{"é", 1000, "é" + blanks[:999]},
		{"é", 1001, "é" + blanks[:999]},
		{"é", math.MaxInt, "é" + blanks[:999]},
		{long, 999, long[:2*999]},
		{long, 1000, long[:2*1000]},
		{long, 1001, long[:2*1000]},
		{long, math.MaxInt, long[:2*1000]},
	} {
		if got := label.Pad(r.s, r.n); got != r.want {
			t.Errorf("P2.1: Pad(%+q, %d): %+q, want %+q", r.s, r.n, got, r.want)
		}
	}
}

func TestFold(t *testing.T) {
	for _, r := range []struct{ s, want string }{
		{"", ""},
		{"abc xyz", "ABC XYZ"},
		{"CLz26", "CLZ26"},
		{"`az{", "`AZ{"},
		{"@AZ[", "@AZ["},
		{"\u03b1\u03c9", "\u0391\u03a9"},
		{"\u03c1\u03c2\u03c3", "\u03a1\u03c2\u03a3"},
		{"\u03b0\u03ca", "\u03b0\u03ca"},
		{"\u0391\u03a9", "\u0391\u03a9"},
		// letters that the chapter does not name:
		{"é", "é"},
		{"ß", "ß"},
		{"ά", "ά"},
		{"я", "я"},
		{"\u0131", "\u0131"},
		// bytes beside the letters stay what they are:
		{"a\xffb", "A\xffB"},
		{"\xffa", "\xffA"},
		{"a\xff", "A\xff"},
		{"a\ufffdb", "A\ufffdB"},
		{"\xce\u03b1\xce", "\xce\u0391\xce"},
		{"\xe2\x82a", "\xe2\x82A"},
		{"\xb1", "\xb1"},
		{"€a😀b", "€A😀B"},
		{"\x00a\x7f", "\x00A\x7f"},
	} {
		checkText(t, "Fold", r.s, label.Fold(r.s), r.want)
	}
}

func TestFoldOfEachRune(t *testing.T) {
	for r := rune(0); r <= utf8.MaxRune; r++ {
		if !utf8.ValidRune(r) {
			continue
		}
		want := r
		if r >= 0x61 && r <= 0x7a || r >= 0x3b1 && r <= 0x3c9 && r != 0x3c2 {
			want = r - 32
		}
		checkText(t, "Fold", string(r), label.Fold(string(r)), string(want))
	}
}

func TestBack(t *testing.T) {
	for _, r := range []struct{ s, want string }{
		{"", ""},
		{"a", "a"},
		{"ab", "ba"},
		{"abc", "cba"},
		{"aé€😀", "😀€éa"},
		{"😀€éa", "aé€😀"},
		{"a\xffb", "b\xffa"},
		{"\xe2\x82a", "a\x82\xe2"},
		{"\xff\ufffd", "\ufffd\xff"},
		{"\ufffd\xff", "\xff\ufffd"},
		// single bytes that become a valid sequence:
		{"\xa9\xc3", "\xc3\xa9"},
		{"\xc3\xa9", "\xc3\xa9"},
	} {
		checkText(t, "Back", r.s, label.Back(r.s), r.want)
	}
}

// TestJoins holds every function against the runes of s as the library's decoder tells them.
func TestJoins(t *testing.T) {
	for _, s := range texts() {
		l := pieces(s)
		if got := label.Count(s); got != len(l) {
			t.Errorf("P2.1: Count(%+q): %d, want %d", s, got, len(l))
		}
		for n := -1; n <= len(l)+2; n++ {
			head := strings.Join(l[:min(max(n, 0), len(l))], "")
			checkText(t, "Cut", s, label.Cut(s, n), head)
			checkText(t, "Pad", s, label.Pad(s, n), head+strings.Repeat(" ", max(n-len(l), 0)))
		}
		var folded string
		for _, piece := range l {
			folded += label.Fold(piece)
		}
		checkText(t, "Fold", s, label.Fold(s), folded)
		slices.Reverse(l)
		checkText(t, "Back", s, label.Back(s), strings.Join(l, ""))
	}
}

func TestAnswersAreNewMemory(t *testing.T) {
	for _, s := range []string{"A", "AB", "ab", "é€", "\xff"} {
		n := len(s)
		for call, got := range map[string]string{
			"Cut of all": label.Cut(s, n), "Cut of more": label.Cut(s, n+1), "Cut of one": label.Cut(s, 1),
			"Pad": label.Pad(s, label.Count(s)), "Fold": label.Fold(s), "Back": label.Back(s),
		} {
			if unsafe.StringData(got) == unsafe.StringData(s) {
				t.Errorf("R2: %s of %+q shares its memory", call, s)
			}
		}
	}
}

func TestCallsLeaveTheirTextAlone(t *testing.T) {
	s := "aé\xff\ufffdz\u03b1"
	before := strings.Clone(s)
	for range 2 {
		label.Right(s)
		label.Count(s)
		label.Cut(s, 2)
		label.Pad(s, 9)
		checkText(t, "Fold", s, label.Fold(s), "Aé\xff\ufffdZ\u0391")
		checkText(t, "Back", s, label.Back(s), "\u03b1z\ufffd\xfféa")
		if s != before {
			t.Errorf("R2: a call changed %+q to %+q", before, s)
		}
	}
}
