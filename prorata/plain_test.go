package prorata_test

import (
	"slices"
	"testing"

	"cornhill/fifo"
	"cornhill/prorata"
)

// quantities are such that an order can have.
var quantities = []int64{1, 2, 3, 255, 256, 65536, largest - 1, largest}

// noQuantities are such that no order can have. The last ones are right in their lower half.
var noQuantities = []int64{
	0, -1, -2, -largest, lowest, lowest + 1, largest + 1, largest + 2, 1 << 31, 1 << 32, -1 << 32, highest - 1, highest,
	1<<32 + 1, 1<<32 + largest, -1<<32 + 1, lowest + 5,
}

// noLeasts are below 1.
var noLeasts = []int64{0, -1, -2, -5, -largest, -1 << 31, -1 << 32, -1<<32 + 1, lowest + 1, lowest}

// lists are right ones of several kinds.
var lists = [][]int64{
	{1}, {9}, {largest}, {5, 5}, {5, 5, 5}, {6, 3, 1}, {1, 3, 6}, {4, 2, 10}, {2, 10, 4}, {1, 1, 1, 1, 1, 1, 1},
	{1, largest}, {largest, 1}, {largest, largest}, {1, largest, 1}, {7, 1, 7, 1, 7}, {3, 999, 100000, 65536},
}

// TestPlain: ordinary lists, and what each order receives (P11.1).
func TestPlain(t *testing.T) {
	checkPlain(t, []int64{6, 3, 1}, 1, 5, 4, 1, 0)
	checkPlain(t, []int64{10, 10}, 1, 10, 5, 5)
	checkPlain(t, []int64{6, 3, 1}, 1, 10, 6, 3, 1)
	checkPlain(t, []int64{60, 30, 10}, 1, 50, 30, 15, 5)
	checkPlain(t, []int64{10, 30, 60}, 1, 50, 5, 15, 30)
	checkPlain(t, []int64{1, 3, 6}, 1, 5, 1, 1, 3)
	checkPlain(t, []int64{3, 3, 3}, 1, 4, 2, 1, 1)
	checkPlain(t, []int64{1, 2, 7}, 1, 9, 1, 2, 6)
	checkPlain(t, []int64{1, 1, 1, 97}, 1, 50, 1, 1, 0, 48)
	checkPlain(t, []int64{largest, 1}, 1, largest, largest, 0)
	checkPlain(t, []int64{1, largest}, 1, largest, 1, largest-1)
}

// TestPlainOfNoOrders: nil and an empty list alike (P11.1).
func TestPlainOfNoOrders(t *testing.T) {
	for _, l := range [][]int64{nil, {}, same(3, 5)[:0]} {
		for _, least := range []int64{1, 2, highest} {
			checkPlain(t, l, least, 0)
		}
		for _, q := range []int64{-1, 1, lowest, highest} {
			checkRefused(t, l, q)
		}
	}
}

// TestPlainOfOne: it receives all, whatever least is (P11.1).
func TestPlainOfOne(t *testing.T) {
	for _, qty := range quantities {
		for _, q := range []int64{0, 1, qty / 2, qty - 1, qty} {
			for _, least := range []int64{1, max(q, 1), q + 1, qty, qty + 1, highest} {
				checkPlain(t, []int64{qty}, least, q, q)
			}
		}
	}
}

// TestPlainOfEqualOrders: each receives as much, and the first ones one more (P11.1).
func TestPlainOfEqualOrders(t *testing.T) {
	for _, n := range []int{2, 3, 7, full} {
		for _, qty := range []int64{3, 1000, largest} {
			for _, each := range []int64{1, qty / 2, qty - 1} {
				want := same(n, each)
				checkPlain(t, same(n, qty), 1, int64(n)*each, want...)
				checkPlain(t, same(n, qty), each, int64(n)*each, want...)
				checkPlain(t, same(n, qty), 1, int64(n)*each+1, with(want, 0, each+1)...)
			}
		}
	}
}

// TestSharesWithoutRest: quantities of which each order has a whole part, however the numbers divide (P11.1).
func TestSharesWithoutRest(t *testing.T) {
	for size := int64(1); size <= 300; size++ {
		for part := int64(1); part <= size; part += 1 + size/20 {
			checkPlain(t, same(2, size), 1, 2*part, part, part)
			checkPlain(t, []int64{size, 7 * size, 2 * size}, 1, 10*part, part, 7*part, 2*part)
		}
	}
}

// TestRestByArrival: what rounding down leaves goes to the first order as far as it has something left, then to the next (P11.1).
func TestRestByArrival(t *testing.T) {
	checkPlain(t, same(4, 5), 1, 3, 3, 0, 0, 0)
	checkPlain(t, same(4, 5), 1, 7, 4, 1, 1, 1)
	checkPlain(t, same(4, 2), 1, 3, 2, 1, 0, 0)
	checkPlain(t, same(7, 1), 1, 3, 1, 1, 1, 0, 0, 0, 0)
	checkPlain(t, []int64{1, 1, 1, 1}, 1, 3, 1, 1, 1, 0)
	checkPlain(t, []int64{2, 2, 2, 2}, 1, 7, 2, 2, 2, 1)
	checkPlain(t, []int64{3, 1, 3, 1}, 1, 7, 3, 1, 3, 0)
	checkPlain(t, slices.Concat(same(9, 1), []int64{91}), 1, 50, 1, 1, 1, 1, 1, 0, 0, 0, 0, 45)
}

// TestRestOfEqualOrders: as many orders receive one more as there is rest (P11.1).
func TestRestOfEqualOrders(t *testing.T) {
	for rest := range full {
		want := slices.Concat(same(rest, largest), same(full-rest, largest-1))
		checkPlain(t, same(full, largest), 1, full*(largest-1)+int64(rest), want...)
	}
}

// TestLeast: shares below it are none, and go by arrival (P11.1).
func TestLeast(t *testing.T) {
	l := []int64{4, 2, 10} // the shares of 8 are 2, 1, 5
	checkPlain(t, l, 1, 8, 2, 1, 5)
	checkPlain(t, l, 2, 8, 3, 0, 5)
	checkPlain(t, l, 3, 8, 3, 0, 5)
	checkPlain(t, l, 5, 8, 3, 0, 5)
	for _, least := range []int64{6, 7, 10, 16, 17, largest, 1 << 32, 1<<32 + 1, highest - 1, highest} {
		checkPlain(t, l, least, 8, 4, 2, 2)
	}
	l = []int64{1, 3, 6} // the shares of 9 are 0, 2, 5
	checkPlain(t, l, 1, 9, 1, 3, 5)
	checkPlain(t, l, 3, 9, 1, 3, 5)
	l = []int64{20, 80, 20, 80} // the shares of 100 are 10, 40, 10, 40
	checkPlain(t, l, 10, 100, 10, 40, 10, 40)
	checkPlain(t, l, 11, 100, 20, 40, 0, 40)
	checkPlain(t, l, 40, 100, 20, 40, 0, 40)
	checkPlain(t, l, 41, 100, 20, 80, 0, 0)
}

// TestLeastRoundEachShare: just below, at and just above the share by size of each order (P11.1).
func TestLeastRoundEachShare(t *testing.T) {
	for _, l := range lists {
		sum := total(l)
		for _, q := range []int64{1, sum / 3, sum / 2, sum - 1, sum} {
			for _, qty := range l {
				share := portion(qty, q, sum)
				for _, least := range []int64{max(share-1, 1), max(share, 1), share + 1} {
					checkPlain(t, l, least, q, model(ask{l, -1, 0, least, q})...)
				}
			}
		}
	}
}

// TestLeastAboveEverything: the same as by arrival alone (P11.1).
func TestLeastAboveEverything(t *testing.T) {
	for _, l := range slices.Concat(lists, [][]int64{same(full, 1), same(full, largest)}) {
		sum := total(l)
		for _, q := range []int64{0, 1, sum / 3, sum / 2, sum - 1, sum} {
			for _, least := range []int64{largest + 1, sum + 1, 1 << 32, highest} {
				checkPlain(t, l, least, q, fifo.Share(l, q)...)
			}
		}
	}
}

// TestPlainAmounts: nothing, one, all but one and all (P11.1).
func TestPlainAmounts(t *testing.T) {
	for _, l := range lists {
		for _, least := range []int64{1, 2, 5, highest} {
			checkPlain(t, l, least, 0, same(len(l), 0)...)
			checkPlain(t, l, least, total(l), l...)
			for _, q := range []int64{1, total(l) - 1} {
				checkPlain(t, l, least, q, model(ask{l, -1, 0, least, q})...)
			}
		}
	}
	for _, l := range [][]int64{{1, 1}, {6, 3, 1}, {1, 3, 6}, {1, largest}, same(full, largest)} {
		checkPlain(t, l, 1, 1, with(same(len(l), 0), 0, 1)...)
	}
	checkPlain(t, []int64{6, 3, 1}, 1, 9, 6, 3, 0)
	checkPlain(t, []int64{1, 3, 6}, 1, 9, 1, 3, 5)
}

// TestPlainOfTheGreatestSum: MaxOrders orders of MaxQty (P11.1).
func TestPlainOfTheGreatestSum(t *testing.T) {
	l := same(full, largest)
	checkPlain(t, l, 1, 0, same(full, 0)...)
	checkPlain(t, l, 1, 1, with(same(full, 0), 0, 1)...)
	checkPlain(t, l, 1, 249, with(same(full, 0), 0, 249)...)
	checkPlain(t, l, 1, 250, same(full, 1)...)
	checkPlain(t, l, 2, 250, with(same(full, 0), 0, 250)...)
	checkPlain(t, l, 1, 499, with(same(full, 1), 0, 250)...)
	checkPlain(t, l, 1, 125000001, with(same(full, 500000), 0, 500001)...)
	checkPlain(t, l, 1, 249999999, with(l, full-1, 999999)...)
	checkPlain(t, l, largest, 250000000, l...)
	checkPlain(t, l, largest+1, 250000000, l...)
	checkRefused(t, l, 250000001)
}

// TestLongProducts: the longest that right arguments have on the way to a share, where 32 bits are too few, and no step may be rounded ahead of the last (P11.1).
func TestLongProducts(t *testing.T) {
	for _, odd := range []int64{1, 2, 333333, largest - 1, largest} {
		for _, at := range []int{0, full / 2, full - 1} {
			l := with(same(full, largest), at, odd)
			sum := total(l)
			for _, q := range []int64{1, 2, 1 << 16, largest, 1<<27 + 1, sum / 3, sum - full, sum - 2, sum - 1, sum} {
				for _, least := range []int64{1, portion(largest, q, sum) + 1, highest} {
					checkPlain(t, l, least, q, model(ask{l, -1, 0, least, q})...)
				}
			}
		}
	}
	checkPlain(t, []int64{999983, 999979}, 1, 1234567, 617285, 617282)
	checkPlain(t, []int64{largest, largest, 1}, 1, 2*largest, largest, largest, 0)
}

// TestWrongLeast: below 1 (P11.1).
func TestWrongLeast(t *testing.T) {
	for _, l := range slices.Concat(lists, [][]int64{nil, same(full, largest)}) {
		for _, q := range []int64{0, min(1, total(l)), total(l) / 2, total(l)} {
			for _, least := range noLeasts {
				for _, top := range []int{-1, 0, len(l) - 1, len(l)} {
					checkNone(t, ask{l, top, 0, least, q}, true)
					checkNone(t, ask{l, top, 5, least, q}, true)
				}
			}
		}
	}
}

// TestWrongAmounts: below 0 and above the sum (P11.1, P11.2).
func TestWrongAmounts(t *testing.T) {
	for _, l := range slices.Concat(lists, [][]int64{nil, same(full, 1), same(full, largest)}) {
		sum := total(l)
		for _, q := range []int64{
			-1, -2, -sum - 1, -1 << 32, -1<<32 + 1, lowest, lowest + sum,
			sum + 1, sum + 2, 2*sum + 1, sum + 1<<32, 1 << 40, highest - 1, highest,
		} {
			checkRefused(t, l, q)
		}
	}
}

// TestWrongQuantities: at each place of the others (P11.1, P11.2).
func TestWrongQuantities(t *testing.T) {
	for _, n := range []int{1, 2, 3, full} {
		for _, at := range []int{0, n / 2, n - 1} {
			for _, qty := range noQuantities {
				l := with(same(n, 7), at, qty)
				for _, q := range []int64{0, 1, 7 * int64(n-1), total(l)} {
					checkRefused(t, l, q)
				}
			}
		}
	}
	for _, l := range [][]int64{{0}, {0, 0}, {-5, 10}, {10, -5}, {highest, highest, 7}, {lowest, lowest, 5}, {largest + 1, largest - 1}} {
		for q := int64(-1); q <= 6; q++ {
			checkRefused(t, l, q)
		}
	}
}

// TestTooManyOrders: one more than MaxOrders and beyond (P11.1, P11.2).
func TestTooManyOrders(t *testing.T) {
	for _, n := range []int{full + 1, full + 2, 256, 257, 256 + full, 1 << 16, 1<<16 + 1} {
		for _, qty := range []int64{1, largest} {
			for _, q := range []int64{0, 1, qty, total(same(n, qty))} {
				checkRefused(t, same(n, qty), q)
			}
		}
	}
}

// TestNumbersOfOrders: from one to MaxOrders, of unequal orders (P11.1, P11.3).
func TestNumbersOfOrders(t *testing.T) {
	var l []int64
	for n := 1; n <= full; n++ {
		l = append(l, int64(1+n*n*7919%1000))
		for _, q := range []int64{1, int64(n), total(l) / 2, total(l) - 1} {
			for _, least := range []int64{1, 3, 500} {
				want := model(ask{l, -1, 0, least, q})
				if got := prorata.Plain(l, least, q); !slices.Equal(got, want) {
					t.Errorf("P11.1: Plain(%s, least %d, q %d): %s, want %s", show(l), least, q, show(got), show(want))
				}
			}
		}
	}
}
