package fifo_test

import (
	"slices"
	"testing"

	"cornhill/fifo"
)

// oneByOne shares as the chapter says, and hands out each piece of q by itself: to the first order that lacks something.
func oneByOne(l []int64, q int64) []int64 {
	shares := make([]int64, len(l))
	for range q {
		for i := range l {
			if shares[i] < l[i] {
				shares[i]++
				break
			}
		}
	}
	return shares
}

// checkShare asks Share for a list and what each order receives.
func checkShare(t *testing.T, l []int64, q int64, want ...int64) {
	t.Helper()
	before := slices.Clone(l)
	if got := fifo.Share(l, q); !slices.Equal(got, want) {
		t.Errorf("P10.1: Share(%s, %d): %s, want %s", show(before), q, show(got), show(want))
	}
	if !slices.Equal(l, before) {
		t.Errorf("R2: the list %s is %s after Share", show(before), show(l))
	}
	checkFair(t, l, q)
}

// checkFair asks whether the shares are together q, none is above its quantity, and nobody behind an order that lacks something has anything.
func checkFair(t *testing.T, l []int64, q int64) {
	t.Helper()
	shares := fifo.Share(l, q)
	if !fifo.Right(l, q) || len(shares) != len(l) {
		t.Errorf("P10.1: Share(%s, %d): %s, want a share for each order", show(l), q, show(shares))
		return
	}
	lacking := false
	for i, share := range shares {
		if share < 0 || share > l[i] {
			t.Errorf("P10.1: Share(%s, %d): share %d is %d of %d", show(l), q, i, share, l[i])
		}
		if lacking && share != 0 {
			t.Errorf("P10.1: Share(%s, %d): share %d is %d, behind an order that lacks something", show(l), q, i, share)
		}
		lacking = lacking || share < l[i]
	}
	if got := total(shares); got != q {
		t.Errorf("P10.1: Share(%s, %d): together %d", show(l), q, got)
	}
}

// TestShare: ordinary lists, and what each order receives (P10.1).
func TestShare(t *testing.T) {
	checkShare(t, []int64{5, 5, 5}, 7, 5, 2, 0)
	checkShare(t, []int64{5, 5}, 7, 5, 2)
	checkShare(t, []int64{5}, 3, 3)
	checkShare(t, []int64{2, 3, 5}, 4, 2, 2, 0)
	checkShare(t, []int64{5, 3, 2}, 4, 4, 0, 0)
	checkShare(t, []int64{1, 1, 1, 1}, 2, 1, 1, 0, 0)
	checkShare(t, []int64{1, largest, 1}, largest, 1, largest-1, 0)
	checkShare(t, []int64{largest, 1, largest}, largest+2, largest, 1, 1)
}

// TestShareOfNothing: no orders receive nothing, and orders that share nothing receive 0 each (P10.1).
func TestShareOfNothing(t *testing.T) {
	checkShare(t, nil, 0)
	checkShare(t, []int64{}, 0)
	for _, n := range []int{1, 2, 3, 17, most} {
		for _, qty := range quantities {
			checkShare(t, same(n, qty), 0, same(n, 0)...)
		}
	}
}

// TestShareOfOne: one order, and one piece (P10.1).
func TestShareOfOne(t *testing.T) {
	for _, qty := range quantities {
		for _, q := range []int64{0, 1, qty / 2, qty - 1, qty} {
			checkShare(t, []int64{qty}, q, q)
		}
	}
	for _, n := range []int{1, 2, 3, 17, most} {
		for _, qty := range quantities {
			checkShare(t, same(n, qty), 1, with(same(n, 0), 0, 1)...)
		}
	}
}

// TestShareUpToEachOrder: the orders ahead of one have all, those behind it nothing, and it has nothing, one, all but one or all (P10.1).
func TestShareUpToEachOrder(t *testing.T) {
	for _, qty := range []int64{1, 2, 7, largest} {
		for _, n := range []int{1, 2, 5, most} {
			l := same(n, qty)
			for at := range n {
				for _, part := range []int64{0, 1, qty - 1, qty} {
					want := slices.Concat(same(at, qty), []int64{part}, same(n-at-1, 0))
					checkShare(t, l, int64(at)*qty+part, want...)
				}
			}
		}
	}
}

// TestShareOfAll: and of all but one, which the last order lacks (P10.1).
func TestShareOfAll(t *testing.T) {
	for _, l := range [][]int64{{1}, {9}, {1, 2}, {2, 1}, {5, 5, 5}, {largest, 1}, {1, largest}, same(most, 1), same(most, largest), with(same(most, 3), most-1, largest)} {
		checkShare(t, l, total(l), l...)
		checkShare(t, l, total(l)-1, with(l, len(l)-1, l[len(l)-1]-1)...)
	}
}

// TestShareOfTheGreatestSum: 250 orders of 1000000 (P10.1).
func TestShareOfTheGreatestSum(t *testing.T) {
	l := same(most, largest)
	checkShare(t, l, 250000000, l...)
	checkShare(t, l, 249999999, with(l, most-1, 999999)...)
	checkShare(t, l, 249000000, with(l, most-1, 0)...)
	checkShare(t, l, 125000001, slices.Concat(same(125, largest), []int64{1}, same(124, 0))...)
	if got := fifo.Share(l, 250000001); len(got) != 0 {
		t.Errorf("P10.1: Share of more than the greatest sum: %s, want none", show(got))
	}
}

// TestShareOfTooMuch: nobody receives anything of it (P10.1).
func TestShareOfTooMuch(t *testing.T) {
	for _, l := range [][]int64{nil, {1}, {5, 5, 5}, {largest}, same(most, 1)} {
		for _, q := range slices.Concat([]int64{total(l) + 1, total(l) + 2}, beyond, below) {
			if got := fifo.Share(l, q); len(got) != 0 {
				t.Errorf("P10.1: Share(%s, %d): %s, want none", show(l), q, show(got))
			}
		}
	}
}

// eachList calls f with all lists of up to longest orders whose quantities are from the first to the last one.
func eachList(longest int, first, last int64, f func(l []int64)) {
	var grow func(l []int64)
	grow = func(l []int64) {
		f(l)
		for qty := first; qty <= last && len(l) < longest; qty++ {
			grow(append(slices.Clone(l), qty))
		}
	}
	grow(nil)
}

// TestEverySmallList: each amount of each list, handed out one by one (P10.1).
func TestEverySmallList(t *testing.T) {
	eachList(6, 1, 3, func(l []int64) {
		for q := int64(0); q <= total(l); q++ {
			checkShare(t, l, q, oneByOne(l, q)...)
		}
		for _, q := range []int64{-2, -1, total(l) + 1, total(l) + 2} {
			checkRight(t, l, q, false)
		}
	})
}

// TestEverySmallListWithWrongOnes: Right and Share say no as soon as one quantity is 0 or below (P10.1).
func TestEverySmallListWithWrongOnes(t *testing.T) {
	eachList(5, -1, 2, func(l []int64) {
		good := len(l) == 0 || slices.Min(l) >= 1
		for q := int64(-3); q <= 12; q++ {
			checkRight(t, l, q, good && q >= 0 && q <= total(l))
		}
	})
}

// TestEachAmountOfLongerLists: of unequal orders, handed out one by one (P10.1).
func TestEachAmountOfLongerLists(t *testing.T) {
	for _, n := range []int{10, 40, most} {
		l := make([]int64, n)
		for i := range l {
			l[i] = int64(1 + i*i*7%5)
		}
		for q := int64(0); q <= total(l); q++ {
			checkShare(t, l, q, oneByOne(l, q)...)
		}
	}
}

// TestFairSharesOfLargeOrders: lists and amounts made by a rule that takes each length and size of quantity often (P10.1).
func TestFairSharesOfLargeOrders(t *testing.T) {
	seed := uint64(1)
	next := func(n int64) int64 {
		seed = seed*6364136223846793005 + 1442695040888963407
		return int64(seed >> 33 % uint64(n))
	}
	for range 4000 {
		l := make([]int64, next(most+1))
		for i := range l {
			l[i] = 1 + next([]int64{3, 1000, largest}[next(3)])
		}
		sum := total(l)
		for _, q := range []int64{0, next(sum + 1), next(sum/20 + 1), sum - next(sum/20+1), sum} {
			checkFair(t, l, q)
		}
	}
}

// TestShareLeavesItsListAlone: and the room behind it (R2).
func TestShareLeavesItsListAlone(t *testing.T) {
	for n := range 8 {
		for q := int64(-1); q <= int64(3*n)+1; q++ {
			all := append(same(n, 3), 11, 12, 13)
			before := slices.Clone(all)
			fifo.Share(all[:n], q)
			fifo.Right(all[:n], q)
			if !slices.Equal(all, before) {
				t.Errorf("R2: Share and Right of %d orders and %d: %v became %v", n, q, before, all)
			}
		}
	}
}

// spoil overwrites a list, and its spare capacity too.
func spoil(l []int64) {
	l = l[:cap(l)]
	for i := range l {
		l[i] = -7
	}
}

// TestSharesAreTheCallersOwn: they have no memory in common with the orders or with other shares (R2).
func TestSharesAreTheCallersOwn(t *testing.T) {
	for _, n := range []int{0, 1, 2, 3, 17, most} {
		for _, qty := range []int64{1, 4, largest} {
			l := same(n, qty)
			for _, q := range []int64{0, total(l) / 2, total(l)} {
				want := slices.Concat(same(int(q/qty), qty), []int64{q % qty}, same(n, 0))[:n]
				first, second := fifo.Share(l, q), fifo.Share(l, q)
				spoil(first)
				spoil(append(fifo.Share(l, q), 5))
				if !slices.Equal(second, want) || !slices.Equal(l, same(n, qty)) {
					t.Errorf("R2: Share(%s, %d): %s after other shares were changed, want %s", show(l), q, show(second), show(want))
				}
				checkShare(t, l, q, want...)
				other := slices.Clone(l)
				third := fifo.Share(other, q)
				spoil(other)
				if !slices.Equal(third, want) {
					t.Errorf("R2: Share(%s, %d): %s after the orders were changed, want %s", show(l), q, show(third), show(want))
				}
			}
		}
	}
}

// TestCallsApart: what was asked before does not matter (R4).
func TestCallsApart(t *testing.T) {
	asks := []struct {
		l     []int64
		q     int64
		right bool
		want  []int64
	}{
		{nil, 0, true, nil},
		{nil, 1, false, nil},
		{same(3, 5), 7, true, []int64{5, 2, 0}},
		{same(3, 5), 16, false, nil},
		{same(most, largest), most * largest, true, same(most, largest)},
		{same(most+1, 1), 1, false, nil},
		{[]int64{0}, 0, false, nil},
		{[]int64{9, 1}, 2, true, []int64{2, 0}},
	}
	for _, before := range asks {
		for _, a := range asks {
			fifo.Right(before.l, before.q)
			fifo.Share(before.l, before.q)
			if got := fifo.Right(a.l, a.q); got != a.right {
				t.Errorf("R4: Right(%s, %d) after Share(%s, %d): %t", show(a.l), a.q, show(before.l), before.q, got)
			}
			if got := fifo.Share(a.l, a.q); !slices.Equal(got, a.want) {
				t.Errorf("R4: Share(%s, %d) after Share(%s, %d): %s, want %s", show(a.l), a.q, show(before.l), before.q, show(got), show(a.want))
			}
		}
	}
}
