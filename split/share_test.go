package split_test

import (
	"slices"
	"testing"

	"cornhill/fifo"
	"cornhill/prorata"
)

// quantities are such that an order can have.
var quantities = []int64{1, 2, 3, 255, 256, 65536, largest - 1, largest}

// lists are right ones of several kinds.
var lists = [][]int64{
	{1}, {9}, {largest}, {5, 5}, {5, 5, 5}, {6, 3, 1}, {1, 3, 6}, {4, 2, 10}, {2, 10, 4}, {1, 1, 1, 1, 1, 1, 1},
	{1, largest}, {largest, 1}, {largest, largest}, {1, largest, 1}, {7, 1, 7, 1, 7}, {3, 999, 100000, 65536},
}

// parts are right ones.
var parts = []int64{0, 1, 2, 33, 50, 51, 67, 98, 99, 100}

// TestShare: ordinary lists, and what each order receives (P12.1).
func TestShare(t *testing.T) {
	checkShare(t, ask{[]int64{10, 10}, 50, 1, 10}, 7, 3)
	checkShare(t, ask{[]int64{6, 3, 1}, 50, 1, 5}, 4, 1, 0)
	checkShare(t, ask{[]int64{60, 30, 10}, 50, 1, 50}, 37, 10, 3)
	checkShare(t, ask{[]int64{10, 30, 60}, 50, 1, 50}, 10, 20, 20)
	checkShare(t, ask{[]int64{10, 30, 60}, 20, 1, 50}, 10, 14, 26)
	checkShare(t, ask{[]int64{4, 2, 10}, 25, 1, 8}, 4, 0, 4)
	checkShare(t, ask{[]int64{4, 2, 10}, 50, 1, 12}, 4, 2, 6)
	checkShare(t, ask{[]int64{1, largest}, 50, 1, largest}, 1, largest-1)
	checkShare(t, ask{[]int64{largest, 1}, 50, 1, largest}, largest, 0)
}

// TestNoOrders: nil and an empty list alike (P12.1).
func TestNoOrders(t *testing.T) {
	for _, l := range [][]int64{nil, {}, same(3, 5)[:0]} {
		for _, part := range parts {
			for _, least := range []int64{1, 2, highest} {
				checkShare(t, ask{l, part, least, 0})
			}
		}
		for _, q := range []int64{-1, 1, lowest, highest} {
			checkRefused(t, l, q)
		}
	}
}

// TestOneOrder: it receives all, whatever part and least are (P12.1).
func TestOneOrder(t *testing.T) {
	for _, qty := range quantities {
		for _, q := range []int64{0, 1, qty / 2, qty - 1, qty} {
			for _, part := range parts {
				for _, least := range []int64{1, max(q, 1), q + 1, qty, qty + 1, highest} {
					checkShare(t, ask{[]int64{qty}, part, least, q}, q)
				}
			}
		}
	}
}

// TestEqualOrders: the first ones have more than the others (P12.1).
func TestEqualOrders(t *testing.T) {
	checkShare(t, ask{same(2, 100), 50, 1, 100}, 67, 33)
	checkShare(t, ask{same(3, 100), 33, 1, 100}, 50, 25, 25)
	checkShare(t, ask{same(3, 100), 50, 1, 200}, 100, 50, 50)
	checkShare(t, ask{same(4, 100), 50, 1, 300}, 100, 80, 60, 60)
	checkShare(t, ask{same(3, 5), 1, 1, 7}, 3, 2, 2)
	checkShare(t, ask{same(3, 5), 50, 1, 7}, 5, 1, 1)
	checkShare(t, ask{same(3, 5), 99, 1, 7}, 5, 2, 0)
	for _, n := range []int{2, 3, 7, full} {
		for _, qty := range []int64{3, 1000, largest} {
			sum := int64(n) * qty
			for _, part := range parts {
				for _, q := range []int64{qty - 1, qty, qty + 1, sum / 3, sum / 2} {
					checkModel(t, ask{same(n, qty), part, 1, q})
					checkModel(t, ask{same(n, qty), part, 1 + q/int64(n), q})
				}
			}
		}
	}
}

// TestPartsOfEachSize: of which nothing, a rounded part and a whole one is early (P12.1).
func TestPartsOfEachSize(t *testing.T) {
	l := []int64{1000, largest} // so the second order has nearly all of what is allocated by size
	for _, c := range []struct{ part, q, early int64 }{
		{1, 2, 0}, {1, 50, 0}, {1, 99, 0}, {1, 100, 1}, {1, 101, 1}, {1, 199, 1}, {1, 200, 2}, {1, 1000, 10},
		{33, 2, 0}, {33, 3, 0}, {33, 4, 1}, {33, 6, 1}, {33, 7, 2}, {33, 99, 32}, {33, 100, 33}, {33, 101, 33}, {33, 200, 66},
		{50, 3, 1}, {50, 4, 2}, {50, 5, 2}, {50, 99, 49}, {50, 100, 50}, {50, 101, 50}, {50, 999, 499},
		{99, 101, 99}, {99, 199, 197}, {99, 200, 198}, {99, 201, 198}, {99, 299, 296}, {99, 300, 297}, {99, 1000, 990},
	} {
		a := ask{l, c.part, 1, c.q}
		want := allocate(a, c.early)
		checkShare(t, a, want...)
		if slices.Equal(want, allocate(a, c.early+1)) || c.early > 0 && slices.Equal(want, allocate(a, c.early-1)) {
			t.Errorf("%s doesn't tell how much is early", a)
		}
	}
	checkShare(t, ask{l, 1, 1, 99}, 1, 98)
	checkShare(t, ask{l, 33, 1, 99}, 33, 66)
	checkShare(t, ask{l, 33, 1, 100}, 34, 66)
	checkShare(t, ask{l, 50, 1, 99}, 50, 49)
	checkShare(t, ask{l, 99, 1, 300}, 298, 2)
}

// TestEveryPart: of each amount, small and large (P12.1).
func TestEveryPart(t *testing.T) {
	for part := int64(0); part <= 100; part++ {
		for q := int64(0); q <= 210; q++ {
			checkModel(t, ask{[]int64{1000, largest}, part, 1, q})
			checkModel(t, ask{[]int64{20, 30, 40, 50, 70}, part, 3, q})
		}
		for _, q := range []int64{largest, largest + 1, 2*largest - 1, 2 * largest, 3*largest - 1} {
			checkModel(t, ask{same(3, largest), part, 1, q})
		}
	}
}

// TestPartOfNothing: the same as by size alone (P12.1).
func TestPartOfNothing(t *testing.T) {
	for _, l := range slices.Concat(lists, [][]int64{nil, same(full, 1), same(full, largest)}) {
		sum := total(l)
		for _, q := range []int64{0, min(1, sum), sum / 3, sum / 2, max(sum-1, 0), sum} {
			for _, least := range []int64{1, 2, 5, largest, highest} {
				checkShare(t, ask{l, 0, least, q}, prorata.Plain(l, least, q)...)
			}
		}
	}
	checkShare(t, ask{[]int64{4, 2, 10}, 0, 1, 8}, 2, 1, 5)
	checkShare(t, ask{[]int64{4, 2, 10}, 0, 2, 8}, 3, 0, 5)
}

// TestPartOfAll: the same as by arrival alone, whatever least is (P12.1).
func TestPartOfAll(t *testing.T) {
	for _, l := range slices.Concat(lists, [][]int64{nil, same(full, 1), same(full, largest)}) {
		sum := total(l)
		for _, q := range []int64{0, min(1, sum), sum / 3, sum / 2, max(sum-1, 0), sum} {
			for _, least := range []int64{1, 2, 5, largest, highest} {
				checkShare(t, ask{l, 100, least, q}, fifo.Share(l, q)...)
			}
		}
	}
	checkShare(t, ask{[]int64{4, 2, 10}, 100, 1, 8}, 4, 2, 2)
	checkShare(t, ask{[]int64{4, 2, 10}, 99, 1, 8}, 4, 2, 2)
	checkShare(t, ask{[]int64{4, 2, 10}, 75, 1, 8}, 4, 2, 2)
}

// TestOrdersThatAreUsedUp: they receive no more, and do not count in the sum of the rest (P12.1).
func TestOrdersThatAreUsedUp(t *testing.T) {
	checkShare(t, ask{[]int64{5, 5, 10}, 50, 1, 10}, 5, 2, 3) // counted, the others would have 1 and 2 by size
	checkShare(t, ask{[]int64{5, 5, 10}, 67, 1, 15}, 5, 5, 5)
	checkShare(t, ask{[]int64{2, 3, 10, 20}, 25, 1, 20}, 2, 3, 5, 10)
	checkShare(t, ask{[]int64{2, 3, 10, 20}, 30, 1, 20}, 2, 3, 6, 9)
	checkShare(t, ask{[]int64{1, 1, 1, 97}, 6, 1, 50}, 1, 1, 1, 47)
	checkShare(t, ask{[]int64{1, 1, 1, 97}, 6, highest, 50}, 1, 1, 1, 47)
	checkShare(t, ask{[]int64{1, 1, 1, 97}, 3, 1, 100}, 1, 1, 1, 97)
	for _, qty := range quantities {
		for _, least := range []int64{1, qty, qty + 1, highest} {
			checkShare(t, ask{[]int64{qty}, 100, least, qty}, qty)
			checkShare(t, ask{[]int64{qty, 7}, 100, least, qty}, qty, 0)
			checkShare(t, ask{[]int64{qty, largest}, 50, least, 2 * qty}, qty, qty)
		}
	}
}

// TestFirstOrdersThatAreUsedUp: each number of them, from one to all but the last (P12.1).
func TestFirstOrdersThatAreUsedUp(t *testing.T) {
	for n := 1; n < full; n++ {
		l := slices.Concat(same(n, 1), same(full-n, largest))
		rest, others := 99*int64(n), int64(full-n)
		want := slices.Concat(same(n, 1), same(full-n, rest/others))
		want[n] += rest % others
		checkShare(t, ask{l, 1, 1, 100 * int64(n)}, want...)
		want = slices.Concat(same(n, 1), same(full-n, 0))
		want[n] = rest
		checkShare(t, ask{l, 1, rest/others + 1, 100 * int64(n)}, want...)
	}
}

// TestRoundTheEndOfAnOrder: early uses up all but one of it, just it, or one of the next one too (P12.1).
func TestRoundTheEndOfAnOrder(t *testing.T) {
	l := []int64{10, 20, 30, 40}
	for _, early := range []int64{9, 10, 11, 29, 30, 31, 49, 50} {
		a := ask{l, 50, 1, 2 * early}
		checkShare(t, a, allocate(a, early)...)
	}
	checkShare(t, ask{l, 50, 1, 18}, 10, 3, 2, 3)    // of the 9 behind it: 0, 1, 2, 3 by size, 3 by arrival
	checkShare(t, ask{l, 50, 1, 20}, 10, 3, 3, 4)    // of 10: 2, 3, 4 by size, 1 by arrival
	checkShare(t, ask{l, 50, 1, 22}, 10, 5, 3, 4)    // of 11: 2, 3, 4 by size, 2 by arrival
	checkShare(t, ask{l, 50, 1, 60}, 10, 20, 13, 17) // of 30: 12, 17 by size, 1 by arrival
}

// TestLeast: shares of the rest below it are none, and go by arrival (P12.1).
func TestLeast(t *testing.T) {
	l := []int64{8, 4, 20} // 4 of 16 are early, and the shares of the other 12 are 1, 1, 8
	checkShare(t, ask{l, 25, 1, 16}, 7, 1, 8)
	checkShare(t, ask{l, 25, 2, 16}, 8, 0, 8)
	checkShare(t, ask{l, 25, 7, 16}, 8, 0, 8)
	checkShare(t, ask{l, 25, 8, 16}, 8, 0, 8)
	for _, least := range []int64{9, 10, 16, 20, 21, 33, largest, 1 << 32, 1<<32 + 1, highest - 1, highest} {
		checkShare(t, ask{l, 25, least, 16}, 8, 4, 4)
	}
	l = []int64{10, 10, 40} // 3 of 30 are early, which is not held against least, and the shares of 27 are 3, 4, 18
	checkShare(t, ask{l, 10, 3, 30}, 8, 4, 18)
	checkShare(t, ask{l, 10, 4, 30}, 8, 4, 18)
	checkShare(t, ask{l, 10, 5, 30}, 10, 2, 18)
	checkShare(t, ask{l, 10, 18, 30}, 10, 2, 18)
	checkShare(t, ask{l, 10, 19, 30}, 10, 10, 10)
}

// TestLeastRoundEachShare: just below, at and just above the share by size of what each order has left (P12.1).
func TestLeastRoundEachShare(t *testing.T) {
	for _, l := range lists {
		for _, part := range parts {
			for _, q := range []int64{1, total(l) / 3, total(l) / 2, total(l) - 1, total(l)} {
				early := portion(q, part, 100)
				lacks := behind(l, early)
				for _, qty := range lacks {
					share := portion(qty, q-early, max(total(lacks), 1))
					for _, least := range []int64{max(share-1, 1), max(share, 1), share + 1} {
						checkModel(t, ask{l, part, least, q})
					}
				}
			}
		}
	}
}

// TestLeastAboveEverything: the same as by arrival alone, whatever part is (P12.1).
func TestLeastAboveEverything(t *testing.T) {
	for _, l := range slices.Concat(lists, [][]int64{same(full, 1), same(full, largest)}) {
		sum := total(l)
		for _, q := range []int64{0, 1, sum / 3, sum / 2, sum - 1, sum} {
			for _, part := range parts {
				for _, least := range []int64{largest + 1, sum + 1, 1 << 32, highest} {
					checkShare(t, ask{l, part, least, q}, fifo.Share(l, q)...)
				}
			}
		}
	}
}

// TestAmounts: nothing, one, all but one and all (P12.1).
func TestAmounts(t *testing.T) {
	for _, l := range slices.Concat(lists, [][]int64{same(full, 1), same(full, largest)}) {
		for _, part := range parts {
			for _, least := range []int64{1, 2, 5, highest} {
				checkShare(t, ask{l, part, least, 0}, same(len(l), 0)...)
				checkShare(t, ask{l, part, least, 1}, with(same(len(l), 0), 0, 1)...)
				checkModel(t, ask{l, part, least, total(l) - 1})
				checkShare(t, ask{l, part, least, total(l)}, l...)
			}
		}
	}
	checkShare(t, ask{[]int64{6, 3, 1}, 50, 1, 9}, 6, 3, 0)
	checkShare(t, ask{[]int64{1, 3, 6}, 50, 1, 9}, 1, 3, 5)
}

// TestTheGreatestSum: MaxOrders orders of MaxQty (P12.1).
func TestTheGreatestSum(t *testing.T) {
	l := same(full, largest)
	checkShare(t, ask{l, 0, 1, 250}, same(full, 1)...)
	checkShare(t, ask{l, 50, 1, 250}, with(same(full, 0), 0, 250)...)
	checkShare(t, ask{l, 100, 1, 250}, with(same(full, 0), 0, 250)...)
	checkShare(t, ask{l, 50, 1, 1000000}, with(same(full, 2004), 0, 501004)...)
	checkShare(t, ask{l, 50, 1, 125000000}, slices.Concat(same(62, largest), []int64{666729}, same(187, 333333))...)
	checkShare(t, ask{l, 99, 1, 249999999}, with(l, 249, 999999)...)
	checkShare(t, ask{l, 1, 1, 249999999}, with(l, 249, 999999)...)
	for _, part := range parts {
		checkShare(t, ask{l, part, 1, 250000000}, l...)
		checkShare(t, ask{l, part, highest, 250000000}, l...)
	}
	checkRefused(t, l, 250000001)
}

// TestNumbersOfOrders: from one to MaxOrders, of unequal orders (P12.1).
func TestNumbersOfOrders(t *testing.T) {
	var l []int64
	for n := 1; n <= full; n++ {
		l = append(l, int64(1+n*n*7919%1000))
		for _, q := range []int64{1, int64(n), total(l) / 2, total(l) - 1} {
			for _, least := range []int64{1, 3, 500} {
				checkModel(t, ask{l, int64(n % 101), least, q})
			}
		}
	}
}
