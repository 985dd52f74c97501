package report_test

import (
	"fmt"
	"math"
	"strings"
	"testing"
	"unsafe"

	"cornhill/api"
	"cornhill/report"
)

func checkText(t *testing.T, r api.Report, want string) {
	t.Helper()
	if got := report.Text(r); got != want {
		t.Errorf("P7.2: Text(%s): %q, want %q", tell(r), got, want)
	}
}

// words are the words of the Kinds.
var words = map[int]string{1: "ok", 2: "no", 3: "trade", 4: "gone", 5: "less"}

// wordOf returns the word of any Kind.
func wordOf(kind int) string {
	if word, ok := words[kind]; ok {
		return word
	}
	return "?"
}

// textOf returns the text of r, written by Go's own library.
func textOf(r api.Report) string {
	return strings.Join([]string{
		wordOf(r.Kind), fmt.Sprint(r.ID), fmt.Sprint(r.Inst), fmt.Sprint(r.Side), fmt.Sprint(r.Price), fmt.Sprint(r.Qty), fmt.Sprint(r.Left), fmt.Sprint(int(r.Why)),
	}, " ")
}

func TestText(t *testing.T) {
	for _, x := range []struct {
		r    api.Report
		want string
	}{
		{api.Report{Kind: api.Traded, ID: 7, Inst: 0, Side: api.Buy, Price: 100, Qty: 5, Left: 2}, "trade 7 0 1 100 5 2 0"},
		{api.Report{Kind: api.Accepted, ID: 1, Inst: 2, Side: 3, Price: 4, Qty: 5, Left: 6, Why: 7}, "ok 1 2 3 4 5 6 7"},
		{api.Report{Kind: api.Rejected, ID: 10, Inst: 20, Side: 30, Price: 40, Qty: 50, Left: 60, Why: 70}, "no 10 20 30 40 50 60 70"},
		{api.Report{Kind: api.Cancelled, ID: -1, Inst: -2, Side: -3, Price: -4, Qty: -5, Left: -6, Why: -7}, "gone -1 -2 -3 -4 -5 -6 -7"},
		{api.Report{Kind: api.Reduced, ID: 1099511627776, Inst: 255, Side: 2, Price: -2000000, Qty: 1000000, Left: 999999, Why: api.ErrOld}, "less 1099511627776 255 2 -2000000 1000000 999999 33"},
		{api.Report{}, "? 0 0 0 0 0 0 0"},
		{api.Report{Kind: 6, ID: 1}, "? 1 0 0 0 0 0 0"},
		{api.Report{Kind: -1, Why: api.ErrArg}, "? 0 0 0 0 0 0 1"},
		{
			api.Report{Kind: 1, ID: math.MinInt64, Inst: math.MinInt, Side: math.MinInt, Price: math.MinInt64, Qty: math.MinInt64, Left: math.MinInt64, Why: math.MinInt},
			"ok" + strings.Repeat(" -9223372036854775808", 7),
		},
		{
			api.Report{Kind: math.MaxInt, ID: math.MaxInt64, Inst: math.MaxInt, Side: math.MaxInt, Price: math.MaxInt64, Qty: math.MaxInt64, Left: math.MaxInt64, Why: math.MaxInt},
			"?" + strings.Repeat(" 9223372036854775807", 7),
		},
	} {
		checkText(t, x.r, x.want)
	}
}

func TestTextOfEachKind(t *testing.T) {
	for _, kind := range kinds {
		checkText(t, api.Report{Kind: kind}, words[kind]+" 0 0 0 0 0 0 0")
		checkText(t, full(kind), words[kind]+" 43135012110 200 2 -1234567 654321 1234605616436508552 31")
	}
	for _, kind := range noKinds {
		checkText(t, api.Report{Kind: kind}, "? 0 0 0 0 0 0 0")
		checkText(t, full(kind), "? 43135012110 200 2 -1234567 654321 1234605616436508552 31")
	}
}

// fields are all fields but the Kind, in the order in which Text writes them.
var fields = []func(r *api.Report, n int64){
	longFields["ID"],
	func(r *api.Report, n int64) { r.Inst = int(n) },
	func(r *api.Report, n int64) { r.Side = int(n) },
	longFields["Price"],
	longFields["Qty"],
	longFields["Left"],
	func(r *api.Report, n int64) { r.Why = api.Errno(n) },
}

// TestTextOfEachNumber: each field alone, with the numbers of each length and both signs (P7.2).
func TestTextOfEachNumber(t *testing.T) {
	numbers := append([]int64{}, longs...)
	n := int64(1)
	for range 19 {
		numbers = append(numbers, n, n-1, n+1, 9*n, -n, 1-n, -n-1, -9*n)
		n *= 10
	}
	for place, set := range fields {
		for _, n := range numbers {
			parts := []string{"trade", "0", "0", "0", "0", "0", "0", "0"}
			parts[place+1] = fmt.Sprint(n)
			r := api.Report{Kind: 3}
			set(&r, n)
			checkText(t, r, strings.Join(parts, " "))
			for _, kind := range []int{1, 2, 3, 4, 5, 6} {
				r = full(kind)
				set(&r, n)
				checkText(t, r, textOf(r))
			}
		}
	}
}

// TestTextOfReportsWithoutEncoding: they have a text all the same (P7.2).
func TestTextOfReportsWithoutEncoding(t *testing.T) {
	for _, r := range refused() {
		checkText(t, r, textOf(r))
	}
	for _, r := range accepted() {
		checkText(t, r, textOf(r))
	}
}

// TestTextsAreNewMemory: two texts, though alike, share no byte (R2).
func TestTextsAreNewMemory(t *testing.T) {
	for _, r := range []api.Report{{}, full(1), full(6)} {
		first, second := report.Text(r), report.Text(r)
		if first != second || unsafe.StringData(first) == unsafe.StringData(second) {
			t.Errorf("R2: Text(%s): %q and %q in the same memory", tell(r), first, second)
		}
	}
}
