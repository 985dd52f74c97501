package prorata_test

import (
	"slices"
	"testing"

	"cornhill/prorata"
)

// TestShare: ordinary lists, and what each order receives (P11.2).
func TestShare(t *testing.T) {
	checkShare(t, ask{[]int64{6, 3, 1}, -1, 5, 1, 5}, 4, 1, 0)
	checkShare(t, ask{[]int64{6, 3, 1}, 0, 2, 1, 5}, 4, 1, 0)
	checkShare(t, ask{[]int64{6, 3, 1}, 1, 2, 1, 5}, 3, 2, 0)
	checkShare(t, ask{[]int64{6, 3, 1}, 2, 2, 1, 5}, 3, 1, 1)
	checkShare(t, ask{[]int64{10, 10}, 0, 4, 1, 10}, 7, 3)
	checkShare(t, ask{[]int64{10, 10}, 1, 4, 1, 10}, 4, 6)
	checkShare(t, ask{[]int64{20, 10, 20}, 1, 5, 1, 23}, 8, 7, 8)
	checkShare(t, ask{[]int64{5, 5, 10}, 2, 10, 1, 14}, 2, 2, 10)
	checkShare(t, ask{[]int64{largest, largest}, 1, 1, 1, largest + 1}, 500001, 500000)
}

// TestTop: before the list, at the first, a middle and the last place, and behind the list (P11.2).
func TestTop(t *testing.T) {
	l := []int64{8, 8, 8, 8} // without a top order, the shares of 8 are 2, 2, 2, 2
	for _, top := range strangers(4) {
		checkShare(t, ask{l, top, 8, 1, 8}, 2, 2, 2, 2)
	}
	for top := range l {
		checkShare(t, ask{l, top, 8, 1, 8}, with(same(4, 0), top, 8)...)
		checkShare(t, ask{l, top, 8, 1, 20}, with(same(4, 4), top, 8)...)
		checkShare(t, ask{l, top, 0, 1, 8}, 2, 2, 2, 2)
	}
	for _, n := range []int{1, 2, 3, full} {
		for top := range n {
			l := same(n, largest)
			checkShare(t, ask{l, top, largest, 1, 5}, with(same(n, 0), top, 5)...)
			checkShare(t, ask{l, top, largest, 1, largest}, with(same(n, 0), top, largest)...)
			checkShare(t, ask{l, top, largest, 1, largest + int64(n-1)*7}, with(same(n, 7), top, largest)...)
		}
	}
}

// TestTopThatIsNoIndex: the same as Plain (P11.2).
func TestTopThatIsNoIndex(t *testing.T) {
	for _, l := range slices.Concat(lists, [][]int64{nil, same(full, largest)}) {
		for _, q := range []int64{0, min(1, total(l)), total(l) / 3, total(l)} {
			for _, least := range []int64{1, 2, highest} {
				for _, most := range []int64{0, 1, 5, largest, highest} {
					for _, top := range strangers(len(l)) {
						checkShare(t, ask{l, top, most, least, q}, prorata.Plain(l, least, q)...)
					}
				}
			}
		}
	}
}

// TestMost: nothing, less than the top order, just it, more, more than there is, and far more (P11.2).
func TestMost(t *testing.T) {
	l := []int64{10, 20, 10}
	checkShare(t, ask{l, 1, 0, 1, 16}, 4, 8, 4)
	checkShare(t, ask{l, 1, 1, 1, 16}, 5, 8, 3) // of the 15 behind it: 3, 7, 3 by size, 2 by arrival
	checkShare(t, ask{l, 1, 4, 1, 16}, 4, 9, 3) // of the 12 behind it: 3, 5, 3 by size, 1 by arrival
	checkShare(t, ask{l, 1, 15, 1, 16}, 1, 15, 0)
	checkShare(t, ask{l, 1, 16, 1, 16}, 0, 16, 0)
	checkShare(t, ask{l, 1, 17, 1, 16}, 0, 16, 0)
	for _, most := range []int64{20, 21, 28, 29, 40, largest, 1 << 32, 1<<32 + 1, highest - 1, highest} {
		checkShare(t, ask{l, 1, most, 1, 16}, 0, 16, 0)
		checkShare(t, ask{l, 1, most, 1, 28}, 4, 20, 4)
		checkShare(t, ask{l, 1, most, 1, 40}, 10, 20, 10)
	}
	checkShare(t, ask{l, 1, 19, 1, 28}, 5, 19, 4) // of the 9 behind it: 4, 0, 4 by size, 1 by arrival
}

// TestMostRoundTheTopOrder: each most near 0, the top order's quantity, what is shared and the ends (P11.2).
func TestMostRoundTheTopOrder(t *testing.T) {
	for _, l := range lists {
		sum := total(l)
		for top, qty := range l {
			for _, q := range []int64{0, 1, qty - 1, qty, min(qty+1, sum), sum / 2, sum - 1, sum} {
				for _, most := range []int64{0, 1, max(q-1, 0), q, q + 1, qty - 1, qty, qty + 1, highest} {
					for _, least := range []int64{1, 3, highest} {
						a := ask{l, top, most, least, q}
						checkShare(t, a, model(a)...)
					}
				}
			}
		}
	}
}

// TestWrongMost: below 0, whatever top is; Plain does not ask for it (P11.2).
func TestWrongMost(t *testing.T) {
	for _, l := range slices.Concat(lists, [][]int64{nil, same(full, largest)}) {
		for _, q := range []int64{0, min(1, total(l)), total(l) / 2, total(l)} {
			for _, most := range noLeasts[1:] {
				for _, top := range append(strangers(len(l)), 0, len(l)/2, len(l)-1) {
					checkNone(t, ask{l, top, most, 1, q}, false)
					checkNone(t, ask{l, top, most, highest, q}, false)
				}
			}
		}
	}
}

// TestTopOrderThatIsUsedUp: it does not count in the sum, and receives nothing more (P11.2).
func TestTopOrderThatIsUsedUp(t *testing.T) {
	checkShare(t, ask{[]int64{5, 5, 10}, 2, 10, 1, 14}, 2, 2, 10) // counted, the others would have 1 and 1 by size
	checkShare(t, ask{[]int64{10, 5, 5}, 0, 10, 1, 14}, 10, 2, 2)
	checkShare(t, ask{[]int64{5, 10, 5}, 1, highest, 1, 14}, 2, 10, 2)
	checkShare(t, ask{[]int64{4, largest, 2, 10}, 1, largest, 1, largest + 8}, 2, largest, 1, 5)
	checkShare(t, ask{[]int64{4, largest, 2, 10}, 1, largest, 2, largest + 8}, 3, largest, 0, 5)
	checkShare(t, ask{[]int64{1, 1, 1}, 0, 1, 1, 2}, 1, 1, 0)
	checkShare(t, ask{[]int64{1, 1, 1}, 1, 1, 1, 2}, 1, 1, 0)
	checkShare(t, ask{[]int64{1, 1, 1}, 2, 1, 1, 2}, 1, 0, 1)
	for _, qty := range quantities {
		for _, most := range []int64{qty, qty + 1, highest} {
			for _, least := range []int64{1, qty, qty + 1, highest} {
				checkShare(t, ask{[]int64{qty}, 0, most, least, qty}, qty)
				checkShare(t, ask{[]int64{qty, 6}, 0, most, least, qty}, qty, 0)
				checkShare(t, ask{[]int64{6, qty}, 1, most, least, qty}, 0, qty)
			}
		}
	}
	for top := range full {
		want := with(same(full, 1), top, largest)
		checkShare(t, ask{same(full, largest), top, largest, 1, largest + full - 1}, want...)
	}
}

// TestTopOrderThatTakesAll: as long as it lacks something, others have nothing (P11.2).
func TestTopOrderThatTakesAll(t *testing.T) {
	for _, l := range lists {
		for top, qty := range l {
			for _, q := range []int64{0, 1, qty / 2, qty - 1, qty} {
				for _, most := range []int64{q, q + 1, qty, highest} {
					for _, least := range []int64{1, 5, highest} {
						checkShare(t, ask{l, top, most, least, q}, with(same(len(l), 0), top, q)...)
					}
				}
			}
		}
	}
}

// TestLeastBehindTheTopOrder: it is asked of the shares of the rest, and not of what the top order has first (P11.2).
func TestLeastBehindTheTopOrder(t *testing.T) {
	checkShare(t, ask{[]int64{4, 2, 10}, 1, 1, 5, 9}, 3, 1, 5) // of the 8 behind it: 2, 0, 5 by size, of which 5 counts
	checkShare(t, ask{[]int64{4, 2, 10}, 1, 1, 6, 9}, 4, 2, 3)
	checkShare(t, ask{[]int64{8, 8, 8}, 2, 2, 5, 12}, 8, 2, 2) // of the 10 behind it: 3, 3, 2 by size
	checkShare(t, ask{[]int64{8, 8, 8}, 2, 2, 3, 12}, 7, 3, 2)
	checkShare(t, ask{[]int64{8, 8, 8}, 2, 2, 2, 12}, 5, 3, 4)
}

// TestTopOrderOfOne: alone it receives all, first or as the rest (P11.2).
func TestTopOrderOfOne(t *testing.T) {
	for _, qty := range quantities {
		for _, q := range []int64{0, 1, qty / 2, qty - 1, qty} {
			for _, most := range []int64{0, 1, q / 2, q, qty, highest} {
				for _, top := range []int{-1, 0, 1} {
					checkShare(t, ask{[]int64{qty}, top, most, 1, q}, q)
					checkShare(t, ask{[]int64{qty}, top, most, highest, q}, q)
				}
			}
		}
	}
}

// TestShareOfNoOrders: nil and an empty list alike (P11.2).
func TestShareOfNoOrders(t *testing.T) {
	for _, l := range [][]int64{nil, {}, same(3, 5)[:0]} {
		for _, top := range append(strangers(0), 0, 1) {
			for _, most := range []int64{0, 1, highest} {
				checkShare(t, ask{l, top, most, 1, 0})
				checkNone(t, ask{l, top, most, 1, 1}, true)
			}
		}
	}
}

// TestShareAmounts: nothing, one, all but one and all (P11.2).
func TestShareAmounts(t *testing.T) {
	for _, l := range lists {
		for top := range l {
			for _, most := range []int64{0, 1, largest, highest} {
				checkShare(t, ask{l, top, most, 1, 0}, same(len(l), 0)...)
				checkShare(t, ask{l, top, most, 1, total(l)}, l...)
				for _, q := range []int64{1, total(l) - 1} {
					a := ask{l, top, most, 1, q}
					checkShare(t, a, model(a)...)
				}
			}
			checkShare(t, ask{l, top, 1, 1, 1}, with(same(len(l), 0), top, 1)...)
		}
	}
}

// TestShareOfTheGreatestSum: MaxOrders orders of MaxQty (P11.2).
func TestShareOfTheGreatestSum(t *testing.T) {
	l := same(full, largest)
	checkShare(t, ask{l, 249, largest, 1, 125000000}, with(with(same(full, 497991), 249, largest), 0, 498232)...)
	checkShare(t, ask{l, 0, largest, 1, 125000000}, with(with(same(full, 497991), 0, largest), 1, 498232)...)
	checkShare(t, ask{l, 7, largest, 1, 249999999}, with(l, 249, 999999)...)
	checkShare(t, ask{l, 249, largest, 1, 249999999}, with(l, 248, 999999)...)
	checkShare(t, ask{l, 7, largest, 1, 250000000}, l...)
	checkShare(t, ask{l, 7, highest, highest, 250000000}, l...)
	checkNone(t, ask{l, 7, largest, 1, 250000001}, true)
}
