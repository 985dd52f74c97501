package symbol_test

import (
	"fmt"
	"math"
	"regexp"
	"strconv"
	"strings"
	"testing"
	"unicode/utf8"
	"unsafe"

	"cornhill/api"
	"cornhill/symbol"
)

// codeRunes are all runes of which product codes are made, and monthLetters those of the months, spelt out so that a range can't be wrong at its ends.
const (
	codeRunes    = "ABCDEFGHIJKLMNOPQRSTUVWXYZ" + "ΑΒΓΔΕΖΗΘΙΚΛΜΝΞΟΠΡΣΤΥΦΧΨΩ"
	monthLetters = "FGHJKMNQUVXZ"
)

// codes are valid product codes of each length, with letters from the ends of what is allowed and letters that stand for months.
var codes = []string{"C", "F", "Z", "A", "Ω", "Α", "Ρ", "Σ", "CL", "ΩF", "FΩ", "ZF", "CLF", "ΑZΩ", "ABCD", "ZZZZ", "ΑΡΣΩ"}

// wrongCodes are none.
var wrongCodes = []string{
	"", "c", "cl", "Cl", "cL", "α", "ω", "\u0390", "\u03a2", "\u03aa", "@", "[", "0", "C1", "-", "C-", " ", "C ", " C", "É", "Я", "ABCDE", "ΑΒΓΔΕ", "ABCDEFGH",
	"\xff", "C\xff", "\xffC", "\xce", "\x91", "\xce\xce\x91", "\xc1\x81", "\ufffd", "\x00", "C\n", "\u0391\u0301", "\u2126", "Ａ",
}

// wrongMonths lie beyond both ends.
var wrongMonths = []int{-1, -12, 1200, 1201, 2400, math.MinInt, math.MaxInt}

// monthAnswer and spreadAnswer are what Parse and ParseSpread answer.
type monthAnswer struct {
	product string
	month   int
	err     api.Errno
}

type spreadAnswer struct {
	product   string
	near, far int
	err       api.Errno
}

func parse(s string) monthAnswer {
	product, month, err := symbol.Parse(s)
	return monthAnswer{product, month, err}
}

func parseSpread(s string) spreadAnswer {
	product, near, far, err := symbol.ParseSpread(s)
	return spreadAnswer{product, near, far, err}
}

var (
	noMonth  = monthAnswer{"", 0, api.ErrForm}
	noSpread = spreadAnswer{"", 0, 0, api.ErrForm}
)

// monthForm is the form of all names of months, and of nothing else.
var monthForm = regexp.MustCompile(`\A([` + codeRunes + `]{1,4})([` + monthLetters + `])([0-9]{2})\z`)

// wantMonth is what Parse of s must be, by that form.
func wantMonth(s string) monthAnswer {
	found := monthForm.FindStringSubmatch(s)
	if found == nil {
		return noMonth
	}
	year, _ := strconv.Atoi(found[3])
	return monthAnswer{found[1], 12*year + strings.Index(monthLetters, found[2]), api.OK}
}

// wantSpread is what ParseSpread of s must be, by the same form.
func wantSpread(s string) spreadAnswer {
	names := strings.Split(s, "-")
	if len(names) != 2 {
		return noSpread
	}
	near, far := wantMonth(names[0]), wantMonth(names[1])
	if near.err != api.OK || far.err != api.OK || near.product != far.product || near.month >= far.month {
		return noSpread
	}
	return spreadAnswer{near.product, near.month, far.month, api.OK}
}

// name is what Code must answer where it answers a name.
func name(product string, month int) string {
	return fmt.Sprintf("%s%c%02d", product, monthLetters[month%12], month/12)
}

func checkName(t *testing.T, promise, call, got string, err api.Errno, want string, wantErr api.Errno) {
	t.Helper()
	if got != want || err != wantErr {
		t.Errorf("%s: %s: %+q, %d, want %+q, %d", promise, call, got, int(err), want, int(wantErr))
	}
}

func checkCode(t *testing.T, product string, month int, want string, wantErr api.Errno) {
	t.Helper()
	got, err := symbol.Code(product, month)
	checkName(t, "P3.1", fmt.Sprintf("Code(%+q, %d)", product, month), got, err, want, wantErr)
}

func checkSpread(t *testing.T, product string, near, far int, want string, wantErr api.Errno) {
	t.Helper()
	got, err := symbol.Spread(product, near, far)
	checkName(t, "P3.2", fmt.Sprintf("Spread(%+q, %d, %d)", product, near, far), got, err, want, wantErr)
}

func checkParse(t *testing.T, s string, want monthAnswer) {
	t.Helper()
	if got := parse(s); got != want {
		t.Errorf("P3.1: Parse(%+q): %+v, want %+v", s, got, want)
	}
}

func checkParseSpread(t *testing.T, s string, want spreadAnswer) {
	t.Helper()
	if got := parseSpread(s); got != want {
		t.Errorf("P3.2: ParseSpread(%+q): %+v, want %+v", s, got, want)
	}
}

func TestProduct(t *testing.T) {
	for _, s := range codes {
		if !symbol.Product(s) {
			t.Errorf("P3.1: Product(%+q): false, want true", s)
		}
	}
	for _, s := range wrongCodes {
		if symbol.Product(s) {
			t.Errorf("P3.1: Product(%+q): true, want false", s)
		}
	}
}

func TestProductOfEachRune(t *testing.T) {
	// beyond MaxRune and among the halves of pairs, string(r) is U+FFFD, which is no letter either
	for r := rune(-1); r <= utf8.MaxRune+1; r++ {
		want := strings.ContainsRune(codeRunes, r)
		for _, s := range []string{string(r), string(r) + "ABC", "AB" + string(r) + "C", "ABC" + string(r)} {
			if got := symbol.Product(s); got != want {
				t.Errorf("P3.1: Product(%+q): %v, want %v", s, got, want)
			}
		}
	}
}

func TestProductOfEachByte(t *testing.T) {
	for b := range 256 {
		s := string([]byte{byte(b)})
		want := b >= 'A' && b <= 'Z'
		for _, s := range []string{s, s + "A", "A" + s, "Ω" + s} {
			if got := symbol.Product(s); got != want {
				t.Errorf("P3.1: Product(%+q): %v, want %v", s, got, want)
			}
		}
	}
}

func TestProductOfEachLength(t *testing.T) {
	for _, piece := range []string{"A", "Z", "Α", "Ω", "É", "\xff"} {
		for n := range 20 {
			s := strings.Repeat(piece, n)
			want := n >= 1 && n <= api.MaxCode && strings.Contains(codeRunes, piece)
			if got := symbol.Product(s); got != want {
				t.Errorf("P3.1: Product(%+q): %v, want %v", s, got, want)
			}
		}
	}
	if symbol.Product(strings.Repeat("A", 1<<20)) {
		t.Errorf("P3.1: Product of 2^20 letters: true, want false")
	}
}

func TestCode(t *testing.T) {
	for _, r := range []struct {
		product string
		month   int
		want    string
	}{
		{"CL", 323, "CLZ26"},
		{"Ω", 0, "ΩF00"},
		{"ΩF", 1, "ΩFG00"},
		{"A", 11, "AZ00"},
		{"A", 12, "AF01"},
		{"ABCD", 107, "ABCDZ08"},
		{"ABCD", 120, "ABCDF10"},
		{"ΑΡΣΩ", 1187, "ΑΡΣΩZ98"},
		{"ΑΡΣΩ", 1188, "ΑΡΣΩF99"},
		{"ZZZZ", 1199, "ZZZZZ99"},
	} {
		checkCode(t, r.product, r.month, r.want, api.OK)
	}
}

func TestCodeOfEachLetter(t *testing.T) {
	for month, letter := range []string{"F", "G", "H", "J", "K", "M", "N", "Q", "U", "V", "X", "Z"} {
		checkCode(t, "CL", month, "CL"+letter+"00", api.OK)
		checkCode(t, "CL", 12*26+month, "CL"+letter+"26", api.OK)
		checkCode(t, "CL", 12*99+month, "CL"+letter+"99", api.OK)
	}
}

func TestCodeErrors(t *testing.T) {
	for _, month := range wrongMonths {
		for _, product := range codes {
			checkCode(t, product, month, "", api.ErrArg)
		}
		// the product is checked first
		for _, product := range wrongCodes {
			checkCode(t, product, month, "", api.ErrForm)
		}
	}
	for _, product := range wrongCodes {
		checkCode(t, product, 0, "", api.ErrForm)
		checkCode(t, product, 323, "", api.ErrForm)
		checkCode(t, product, api.MaxMonth, "", api.ErrForm)
	}
}

// TestMonthsAreReadBack: each name is made from its month and read back as it (P3.1, W5), and no two months have one name.
func TestMonthsAreReadBack(t *testing.T) {
	seen := map[string]bool{}
	for _, product := range codes {
		for month := 0; month <= api.MaxMonth; month++ {
			want := name(product, month)
			checkCode(t, product, month, want, api.OK)
			checkParse(t, want, monthAnswer{product, month, api.OK})
			if seen[want] {
				t.Errorf("W5: %+q names two months", want)
			}
			seen[want] = true
		}
	}
}

func TestParse(t *testing.T) {
	for _, r := range []struct {
		s    string
		want monthAnswer
	}{
		{"CLZ26", monthAnswer{"CL", 323, api.OK}},
		{"ΩF00", monthAnswer{"Ω", 0, api.OK}},
		{"ZZZZZ99", monthAnswer{"ZZZZ", 1199, api.OK}},
		// the product code ends before the last letter, not at the first that can stand for a month
		{"FF00", monthAnswer{"F", 0, api.OK}},
		{"FGH12", monthAnswer{"FG", 146, api.OK}},
	} {
		checkParse(t, r.s, r.want)
	}
}

func TestParseRefuses(t *testing.T) {
	for _, s := range []string{
		// too little
		"", "C", "CL", "CLZ", "CLZ2", "F00", "Z26", "00", "Ω", "ΩF", "ΩF0", "26",
		// a letter of no month
		"CLA26", "CLE26", "CLL26", "CLY26", "CLz26", "CLf26", "CLΩ26", "CLΖ26", "CL026", "CL26", "CL-26", "CL 26", "CL\xff26", "CL\ufffd26",
		// digits that are none
		"CLZ2", "CLZA6", "CLZ2A", "CLZ-1", "CLZ+1", "CLZ 6", "CLZ6 ", "CLZ2:", "CLZ:2", "CLZ2/", "CLZ/2", "CLZ٢٦", "CLZ2٦", "CLZ２６", "CLZ2\xff", "CLZ\xff6", "CLZ2\x00", "CLZx6",
		// too much
		"CLZ026", "CLZ2026", "CLZ267", "CLZ26 ", " CLZ26", "CLZ26\n", "CLZ26Z", "CLZ26-", "-CLZ26", "CLZ26\xff", "\xffCLZ26", "CLZ26CLZ26", "CLZ26\x00",
		// no product code
		"clZ26", "cLZ26", "ClZ26", "0Z26", "-Z26", " Z26", "ABCDEZ26", "ΑΒΓΔΕZ26", "\u03a2Z26", "C\u03a2Z26", "\u0390Z26", "\u03aaZ26", "αZ26", "\xceZ26", "C\xffZ26", "\ufffdZ26", "ÉZ26", "CL1Z26", "C-LZ26",
		// a spread
		"CLF26-CLZ26",
		strings.Repeat("A", 1<<16) + "Z26",
	} {
		checkParse(t, s, noMonth)
	}
	for _, product := range wrongCodes {
		checkParse(t, product+"Z26", noMonth)
	}
}

func TestParseOfEachRune(t *testing.T) {
	for r := rune(0); r <= utf8.MaxRune; r++ {
		known := strings.ContainsRune(codeRunes+"0123456789", r)
		c := string(r)
		for _, s := range []string{c + "LZ26", "C" + c + "Z26", "CL" + c + "26", "CLZ" + c + "6", "CLZ2" + c, c + "CLZ26", "CLZ26" + c} {
			want := noMonth
			if known {
				want = wantMonth(s)
			}
			checkParse(t, s, want)
		}
	}
}

// TestParseOfJoins: of all texts joined from such pieces, only names are read (P3.1, W5).
func TestParseOfJoins(t *testing.T) {
	pieces := []string{"", "C", "F", "Z", "Α", "Ω", "\u03a2", "c", "0", "9", "26", "F00", "-", " ", "\xff", "\xce", "\x91", "\ufffd"}
	read := 0
	for _, a := range pieces {
		for _, b := range pieces {
			for _, c := range pieces {
				for _, d := range pieces {
					s := a + b + c + d
					want := wantMonth(s)
					checkParse(t, s, want)
					if want.err == api.OK {
						read++
						checkCode(t, want.product, want.month, s, api.OK)
					}
				}
			}
		}
	}
	if read == 0 {
		t.Errorf("P3.1: none of the texts is a name")
	}
}

func TestSpread(t *testing.T) {
	for _, r := range []struct {
		product   string
		near, far int
		want      string
	}{
		{"CL", 312, 323, "CLF26-CLZ26"},
		{"CL", 323, 324, "CLZ26-CLF27"},
		{"Ω", 0, 1, "ΩF00-ΩG00"},
		{"Ω", 0, 1199, "ΩF00-ΩZ99"},
		{"ABCD", 1198, 1199, "ABCDX99-ABCDZ99"},
		{"ΑΡΣΩ", 11, 12, "ΑΡΣΩZ00-ΑΡΣΩF01"},
	} {
		checkSpread(t, r.product, r.near, r.far, r.want, api.OK)
	}
}

func TestSpreadErrors(t *testing.T) {
	some := append([]int{0, 1, 323, 1198, 1199}, wrongMonths...)
	for _, near := range some {
		for _, far := range some {
			if near < 0 || far > api.MaxMonth || near >= far {
				checkSpread(t, "CL", near, far, "", api.ErrArg)
			}
			// the product is checked before the months, and before their order
			for _, product := range wrongCodes {
				checkSpread(t, product, near, far, "", api.ErrForm)
			}
		}
	}
}

func TestParseSpread(t *testing.T) {
	for _, r := range []struct {
		s    string
		want spreadAnswer
	}{
		{"CLF26-CLZ26", spreadAnswer{"CL", 312, 323, api.OK}},
		{"ΩF00-ΩG00", spreadAnswer{"Ω", 0, 1, api.OK}},
		{"ΑΡΣΩF00-ΑΡΣΩZ99", spreadAnswer{"ΑΡΣΩ", 0, 1199, api.OK}},
		{"ABCDZ08-ABCDF09", spreadAnswer{"ABCD", 107, 108, api.OK}},
	} {
		checkParseSpread(t, r.s, r.want)
	}
}

func TestParseSpreadRefuses(t *testing.T) {
	for _, s := range []string{
		// no stroke, or none between two months
		"", "-", "--", "CLF26", "CLZ26", "-CLZ26", "CLF26-", "CLF26CLZ26", "CLF26 CLZ26", "CLF26_CLZ26",
		// a stroke that is another rune
		"CLF26\u2010CLZ26", "CLF26\u2013CLZ26", "CLF26\u2212CLZ26", "CLF26\xadCLZ26", "CLF26\uff0dCLZ26", "CLF26\xffCLZ26", "CLF26\u012dCLZ26",
		// two of them, or more months than two
		"CLF26--CLZ26", "-CLF26-CLZ26", "CLF26-CLZ26-", "CLF26-CLG26-CLZ26", "CLF26-CLZ26-CLZ26", "CL-F26-CLZ26", "CLF26-CL-Z26",
		// unlike products
		"CLF26-CMZ26", "CLF26-CZ26", "CF26-CLZ26", "AF26-ΑZ26", "CLF26-Z26", "CLF26-LCZ26", "CLF26-CLLZ26",
		// months in the wrong order, or one month twice
		"CLZ26-CLF26", "CLZ26-CLZ26", "CLF27-CLZ26", "CLZ99-CLF00", "ΩG00-ΩF00", "ΩF00-ΩF00",
		// a month that is none
		"CLA26-CLZ26", "CLF26-CLA26", "CLF2-CLZ26", "CLF26-CLZ2", "CLFA6-CLZ26", "CLF26-CLZ2A", "clF26-clZ26", "CLf26-CLZ26", "CLF26-CLz26",
		"ABCDEF26-ABCDEZ26", "F26-Z26", "\u03a2F26-\u03a2Z26", "\xffF26-\xffZ26", "C\xffF26-C\xffZ26", "\ufffdF26-\ufffdZ26",
		// blanks
		" CLF26-CLZ26", "CLF26-CLZ26 ", "CLF26 -CLZ26", "CLF26- CLZ26", "CLF26-CLZ26\n",
		strings.Repeat("-", 1<<16),
	} {
		checkParseSpread(t, s, noSpread)
	}
}

func TestParseSpreadOfEachRune(t *testing.T) {
	for r := rune(0); r <= utf8.MaxRune; r++ {
		s := "CLF26" + string(r) + "CLZ26"
		want := noSpread
		if r == '-' {
			want = spreadAnswer{"CL", 312, 323, api.OK}
		}
		checkParseSpread(t, s, want)
		checkParseSpread(t, s+"-CLZ26", noSpread)
	}
}

// TestSpreadsAreReadBack: each spread of such months is made and read back, and its months in any other order are refused both ways (P3.2, W5).
func TestSpreadsAreReadBack(t *testing.T) {
	var months []int
	for month := 0; month <= api.MaxMonth; month += 7 {
		months = append(months, month)
	}
	months = append(months, 1, 2, 11, 12, 13, 23, 24, 119, 120, 121, 1187, 1188, api.MaxMonth)
	for _, product := range []string{"C", "ΩF", "ΑZΩ", "ABCD"} {
		for _, near := range months {
			for _, far := range months {
				s := name(product, near) + "-" + name(product, far)
				if near < far {
					checkSpread(t, product, near, far, s, api.OK)
					checkParseSpread(t, s, spreadAnswer{product, near, far, api.OK})
				} else {
					checkSpread(t, product, near, far, "", api.ErrArg)
					checkParseSpread(t, s, noSpread)
				}
			}
		}
	}
}

// TestParseSpreadOfJoins: of all texts joined from such pieces, only spreads are read (P3.2, W5).
func TestParseSpreadOfJoins(t *testing.T) {
	halves := []string{"", "CLF26", "CLZ26", "CLZ25", "CLF27", "CLA26", "CLZ2", "clZ26", "CF26", "ΩF26", "ΩZ26", "\u03a2Z26", "\xffZ26", "ABCDG00", "ABCDEG00", "ABCDF99", "-", "CL", "F26", "26"}
	read := 0
	for _, middle := range []string{"-", "", "--", " - ", "- ", " -", "\u2013", "\xff", "CL", "-\xff"} {
		for _, a := range halves {
			for _, b := range halves {
				for _, c := range []string{"", "-", "-CLZ27", "26", "\xff"} {
					s := a + middle + b + c
					want := wantSpread(s)
					checkParseSpread(t, s, want)
					if want.err == api.OK {
						read++
						checkSpread(t, want.product, want.near, want.far, s, api.OK)
					}
				}
			}
		}
	}
	if read == 0 {
		t.Errorf("P3.2: none of the texts is a spread's name")
	}
}

func TestAnswersAreNewMemory(t *testing.T) {
	product, month, spread := strings.Clone("CL"), strings.Clone("CLF26"), strings.Clone("CLF26-CLZ26")
	ofCode, _ := symbol.Code(product, 312)
	ofPair, _ := symbol.Spread(product, 312, 323)
	ofMonth, _, _ := symbol.Parse(month)
	ofSpread, _, _, _ := symbol.ParseSpread(spread)
	for _, r := range []struct{ call, given, got, want string }{
		{"Code", product, ofCode, "CLF26"},
		{"Spread", product, ofPair, "CLF26-CLZ26"},
		{"Parse", month, ofMonth, "CL"},
		{"ParseSpread", spread, ofSpread, "CL"},
	} {
		if r.got != r.want {
			t.Errorf("R2: %s: %+q, want %+q", r.call, r.got, r.want)
		}
		if unsafe.StringData(r.got) == unsafe.StringData(r.given) {
			t.Errorf("R2: %s of %+q shares its memory", r.call, r.given)
		}
	}
}

// TestCallsDoNotDependOnEachOther: a refusal between two calls changes nothing that they answer (R3, R4).
func TestCallsDoNotDependOnEachOther(t *testing.T) {
	for range 3 {
		checkParse(t, "CLZ26", monthAnswer{"CL", 323, api.OK})
		checkParse(t, "CLA26", noMonth)
		checkCode(t, "CL", 1200, "", api.ErrArg)
		checkCode(t, "CL", 323, "CLZ26", api.OK)
		checkParseSpread(t, "CLZ26-CLF26", noSpread)
		checkParseSpread(t, "CLF26-CLZ26", spreadAnswer{"CL", 312, 323, api.OK})
		checkSpread(t, "CL", 323, 312, "", api.ErrArg)
		checkSpread(t, "CL", 312, 323, "CLF26-CLZ26", api.OK)
	}
}
