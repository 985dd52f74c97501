package alloc_test

import (
	"fmt"
	"math"
	"slices"
	"testing"

	"cornhill/alloc"
	"cornhill/api"
	"cornhill/book"
	"cornhill/fifo"
	"cornhill/prorata"
	"cornhill/split"
)

const (
	// full is the greatest number of orders (MaxOrders).
	full = 250
	// largest is the greatest quantity of an order (MaxQty).
	largest = 1000000
)

const (
	lowest  = math.MinInt64
	highest = math.MaxInt64
)

// rules are those that there are.
var rules = []int{api.First, api.Share, api.Mixed}

// terms are what a product says of the allocation.
type terms struct {
	rule             int
	top, least, part int64
}

// product has nothing filled in but the terms.
func (s terms) product() api.Product {
	return api.Product{Rule: s.rule, Top: s.top, Least: s.least, Part: s.part}
}

// ask is what Share is asked: orders of these quantities, of which those at tops are Top.
type ask struct {
	terms
	qtys []int64
	tops []int
	q    int64
}

func (a ask) String() string {
	return fmt.Sprintf("Share(Rule %d, Top %d, Least %d, Part %d, orders %s, Top at %v, q %d)", a.rule, a.top, a.least, a.part, show(a.qtys), a.tops, a.q)
}

// orders are such as a level has.
func (a ask) orders() []book.Order {
	var l []book.Order
	for i, qty := range a.qtys {
		l = append(l, book.Order{ID: int64(100 + i), Side: api.Buy, Price: 50, Qty: qty, Top: slices.Contains(a.tops, i)})
	}
	return l
}

// lower is what the function that the Rule selects answers.
func (a ask) lower() []int64 {
	switch a.rule {
	case api.First:
		return fifo.Share(a.qtys, a.q)
	case api.Share:
		first := -1
		if len(a.tops) > 0 {
			first = slices.Min(a.tops)
		}
		return prorata.Share(a.qtys, first, a.top, a.least, a.q)
	case api.Mixed:
		return split.Share(a.qtys, a.part, a.least, a.q)
	}
	return nil
}

// same returns n quantities of one size.
func same(n int, qty int64) []int64 {
	return slices.Repeat([]int64{qty}, n)
}

// with returns l with another quantity at one place.
func with(l []int64, at int, qty int64) []int64 {
	l = slices.Clone(l)
	l[at] = qty
	return l
}

// total returns the sum of l.
func total(l []int64) int64 {
	var sum int64
	for _, qty := range l {
		sum += qty
	}
	return sum
}

// show tells a list, of a long one only the beginning.
func show(l []int64) string {
	if len(l) <= 12 {
		return fmt.Sprint(l)
	}
	return fmt.Sprint(l[:12], " and so on, in all ", len(l))
}

// amounts are such that orders of these quantities can receive.
func amounts(qtys []int64) []int64 {
	sum := total(qtys)
	return []int64{0, min(1, sum), sum / 3, sum / 2, max(sum-1, 0), sum}
}

// lists are right ones of several kinds.
var lists = [][]int64{
	{1}, {9}, {largest}, {5, 5}, {5, 5, 5}, {6, 3, 1}, {1, 3, 6}, {4, 2, 10}, {2, 10, 4}, {1, 1, 1, 1, 1, 1, 1},
	{1, largest}, {largest, 1}, {largest, largest}, {1, largest, 1}, {7, 1, 7, 1, 7}, {3, 999, 100000, 65536},
}

// longAndShort are the lists, none, and the longest ones.
func longAndShort() [][]int64 {
	return slices.Concat(lists, [][]int64{nil, {}, same(full, 1), same(full, largest)})
}

// topsOf are places of Top orders among n: nowhere, at the first, a middle or the last one, at two and at all.
func topsOf(n int) [][]int {
	l := [][]int{nil}
	if n == 0 {
		return l
	}
	all := make([]int, n)
	for i := range all {
		all[i] = i
	}
	return append(l, []int{0}, []int{n / 2}, []int{n - 1}, []int{n / 2, n - 1}, []int{n - 1, 0}, all)
}

// checkSums asks whether the shares are together q, and each from 0 to the quantity of its order.
func checkSums(t *testing.T, a ask, shares []int64) {
	t.Helper()
	if len(shares) != len(a.qtys) {
		t.Errorf("P13.1: %s: %s, want a share for each order", a, show(shares))
		return
	}
	for i, share := range shares {
		if share < 0 || share > a.qtys[i] {
			t.Errorf("P13.1: %s: share %d is %d of %d", a, i, share, a.qtys[i])
		}
	}
	if got := total(shares); got != a.q {
		t.Errorf("P13.1: %s: together %d", a, got)
	}
}

// sharesOf asks Share, and whether the product and the orders are left alone.
func sharesOf(t *testing.T, a ask, p api.Product, l []book.Order) []int64 {
	t.Helper()
	orders, months, settle := slices.Clone(l), slices.Clone(p.Months), slices.Clone(p.Settle)
	got := alloc.Share(p, l, a.q)
	if !slices.Equal(l, orders) {
		t.Errorf("R2: %s: the orders have changed", a)
	}
	if !slices.Equal(p.Months, months) || !slices.Equal(p.Settle, settle) {
		t.Errorf("R2: %s: the product has changed: Months %v were %v, Settle %v was %v", a, p.Months, months, p.Settle, settle)
	}
	return got
}

// checkShare asks Share, and whether what it answers is together q.
func checkShare(t *testing.T, a ask, want ...int64) {
	t.Helper()
	got := sharesOf(t, a, a.product(), a.orders())
	if !slices.Equal(got, want) {
		t.Errorf("P13.1: %s: %s, want %s", a, show(got), show(want))
	}
	checkSums(t, a, got)
}

// checkNone asks Share for nothing.
func checkNone(t *testing.T, a ask) {
	t.Helper()
	if got := sharesOf(t, a, a.product(), a.orders()); len(got) != 0 {
		t.Errorf("P13.1: %s: %s, want none", a, show(got))
	}
}

// checkLower compares Share with the function that the Rule selects, whether that answers something or nothing.
func checkLower(t *testing.T, a ask) {
	t.Helper()
	want := a.lower()
	if len(want) == 0 {
		checkNone(t, a)
		return
	}
	checkShare(t, a, want...)
}

// checkDressed asks Share with another product or with other orders than those of a, where what a does not name may be anything.
func checkDressed(t *testing.T, a ask, p api.Product, l []book.Order) {
	t.Helper()
	if got, want := sharesOf(t, a, p, l), a.lower(); !slices.Equal(got, want) {
		t.Errorf("P13.1: %s with the product %+v and the orders %+v: %s, want %s", a, p, l[:min(3, len(l))], show(got), show(want))
	}
}
