package fifo_test

import (
	"fmt"
	"math"
	"slices"
	"testing"

	"cornhill/fifo"
)

const (
	// most is the greatest number of orders (MaxOrders).
	most = 250
	// largest is the greatest quantity of an order (MaxQty).
	largest = 1000000
)

const (
	least    = math.MinInt64
	greatest = math.MaxInt64
)

// quantities are such that an order can have.
var quantities = []int64{1, 2, 3, 255, 256, 65536, largest - 1, largest}

// noQuantities are such that no order can have. The last ones are right in their lower half.
var noQuantities = []int64{
	0, -1, -2, -largest, -largest - 1, least, least + 1,
	largest + 1, largest + 2, 2 * largest, 1 << 31, 1 << 32, 1 << 40, -1 << 32, greatest - 1, greatest,
	1<<32 + 1, 1<<32 + largest, -1<<32 + 1, least + 5,
}

// below are numbers below 0 to be shared.
var below = []int64{-1, -2, -5, -largest, -1 << 31, -1 << 32, -1<<32 + 1, least, least + 1, least + 5}

// beyond are numbers to be shared that are above each sum of right orders.
var beyond = []int64{most*largest + 1, 1 << 31, 1 << 32, 1<<32 + 1, 1<<32 + 5, 1 << 40, greatest - 1, greatest}

// same returns n orders of one quantity.
func same(n int, qty int64) []int64 {
	return slices.Repeat([]int64{qty}, n)
}

// with returns l with another quantity at one place.
func with(l []int64, at int, qty int64) []int64 {
	l = slices.Clone(l)
	l[at] = qty
	return l
}

// total returns the sum of l, wrapped round if it is not an int64.
func total(l []int64) int64 {
	var sum int64
	for _, qty := range l {
		sum += qty
	}
	return sum
}

// places are the first, a middle and the last place of a list of n orders.
func places(n int) []int {
	return []int{0, n / 2, n - 1}
}

// show tells a list, of a long one only the beginning.
func show(l []int64) string {
	if len(l) <= 12 {
		return fmt.Sprint(l)
	}
	return fmt.Sprint(l[:12], " and so on, in all ", len(l))
}

// checkRight asks Right, and whether Share says no where Right does. Neither may change the list.
func checkRight(t *testing.T, l []int64, q int64, want bool) {
	t.Helper()
	before := slices.Clone(l)
	if got := fifo.Right(l, q); got != want {
		t.Errorf("P10.1: Right(%s, %d): %t, want %t", show(before), q, got, want)
	}
	shares, size := fifo.Share(l, q), 0
	if want {
		size = len(before)
	}
	if len(shares) != size {
		t.Errorf("P10.1: Share(%s, %d): %s, want a list of %d", show(before), q, show(shares), size)
	}
	if !slices.Equal(l, before) {
		t.Errorf("R2: the list %s is %s after Right and Share", show(before), show(l))
	}
}

// checkAmounts asks for what right orders can share: from 0 to their sum, and nothing else.
func checkAmounts(t *testing.T, l []int64) {
	t.Helper()
	sum := total(l)
	for _, q := range slices.Concat(below, []int64{-sum - 1, sum + least}) {
		checkRight(t, l, q, false)
	}
	for _, q := range []int64{0, sum / 3, sum / 2, sum - sum/4, sum} {
		checkRight(t, l, q, true)
	}
	if sum > 0 {
		checkRight(t, l, 1, true)
		checkRight(t, l, sum-1, true)
	}
	for _, q := range slices.Concat(beyond, []int64{sum + 1, sum + 2, 2*sum + 1, sum + 1<<32}) {
		checkRight(t, l, q, false)
	}
}

// TestRightOfNoOrders: nil and an empty list alike (P10.1).
func TestRightOfNoOrders(t *testing.T) {
	for _, l := range [][]int64{nil, {}, same(3, 5)[:0]} {
		checkAmounts(t, l)
	}
}

// TestRightNumbersOfOrders: from one to MaxOrders, of each quantity (P10.1).
func TestRightNumbersOfOrders(t *testing.T) {
	for n := 1; n <= most; n++ {
		checkAmounts(t, same(n, int64(n)))
	}
	for _, n := range []int{1, 2, 3, 127, 128, most - 1, most} {
		for _, qty := range quantities {
			checkAmounts(t, same(n, qty))
		}
	}
}

// TestTooManyOrders: one more than MaxOrders and beyond, whatever is shared (P10.1).
func TestTooManyOrders(t *testing.T) {
	for _, n := range []int{most + 1, most + 2, 255, 256, 257, 256 + most, 2 * most, 1000, 1 << 16, 1<<16 + 1, 1<<16 + most, 1 << 20} {
		for _, qty := range []int64{1, 5, largest} {
			l := same(n, qty)
			for _, q := range []int64{-1, 0, 1, qty, most * qty, total(l) - 1, total(l), total(l) + 1, least, greatest} {
				checkRight(t, l, q, false)
			}
		}
	}
}

// TestRightQuantities: at the first, a middle and the last place (P10.1).
func TestRightQuantities(t *testing.T) {
	for _, n := range []int{1, 2, 3, 7, most - 1, most} {
		for _, at := range places(n) {
			for _, qty := range quantities {
				checkAmounts(t, with(same(n, 7), at, qty))
			}
		}
	}
}

// TestWrongQuantities: at each place of the others, whatever is shared (P10.1).
func TestWrongQuantities(t *testing.T) {
	for _, n := range []int{1, 2, 3, 7, most - 1, most} {
		for _, at := range places(n) {
			for _, usual := range []int64{1, 7, largest} {
				others := total(same(n-1, usual))
				for _, qty := range noQuantities {
					l := with(same(n, usual), at, qty)
					for _, q := range []int64{0, 1, usual, others, others + 1, qty, total(l), -1, least, greatest} {
						checkRight(t, l, q, false)
					}
				}
			}
		}
	}
}

// TestWrongQuantityAtEveryPlace: of a list as long as can be (P10.1).
func TestWrongQuantityAtEveryPlace(t *testing.T) {
	for at := range most {
		for _, qty := range []int64{0, -1, largest + 1} {
			checkRight(t, with(same(most, 5), at, qty), 5, false)
		}
	}
}

// TestWrongQuantitiesWithRightSums: several of them, whose sum is one that right orders have, some because it wraps round (P10.1).
func TestWrongQuantitiesWithRightSums(t *testing.T) {
	for _, l := range [][]int64{
		{-5, 10}, {10, -5}, {5, 0}, {0, 5}, {0, 0}, {3, -3, 3},
		{greatest, greatest, 7}, {greatest, 7, greatest}, {7, greatest, greatest, 2},
		{least, least, 5}, {5, least, least}, {least, 5, least},
		{least, greatest, 6}, {greatest, -greatest, 5}, {1 << 62, 1 << 62, 1 << 62, 1 << 62, 5},
		{1 << 32, 1 << 32}, {-1, -1}, {largest + 1, largest - 1}, {0, largest + 1},
	} {
		for q := int64(-2); q <= 12; q++ {
			checkRight(t, l, q, false)
		}
		checkRight(t, l, total(l), false)
	}
}

// TestRightOfMixedQuantities: small and large ones, in each order (P10.1).
func TestRightOfMixedQuantities(t *testing.T) {
	for _, a := range quantities {
		for _, b := range quantities {
			for _, c := range quantities {
				checkAmounts(t, []int64{a, b, c})
			}
		}
	}
}

// TestEachAmount: of lists with small sums, from far below 0 to far above the sum (P10.1).
func TestEachAmount(t *testing.T) {
	for _, l := range [][]int64{{}, {1}, {9}, {1, 1}, {3, 8}, {8, 3}, {1, 2, 3, 4}, {4, 3, 2, 1}, {7, 1, 7, 1, 7}} {
		for q := int64(-300); q <= 300; q++ {
			checkRight(t, l, q, q >= 0 && q <= total(l))
		}
	}
}

// TestGreatestSum: that right orders can have, and one more (P10.1).
func TestGreatestSum(t *testing.T) {
	l := same(most, largest)
	for _, q := range []int64{0, 1, 249999999, 250000000} {
		checkRight(t, l, q, true)
	}
	for _, q := range []int64{-1, 250000001, greatest, least} {
		checkRight(t, l, q, false)
	}
	for _, at := range places(most) {
		short := with(l, at, largest-1)
		checkRight(t, short, 249999999, true)
		checkRight(t, short, 250000000, false)
		checkRight(t, with(l, at, largest+1), 250000000, false)
	}
}

// TestSpareCapacityIsNotAnOrder: what lies behind a list is no part of it (R5).
func TestSpareCapacityIsNotAnOrder(t *testing.T) {
	for _, behind := range []int64{0, -1, 5, largest, largest + 1, least, greatest} {
		for n := range 5 {
			all := append(same(n, 3), behind, behind, behind)
			checkAmounts(t, all[:n])
			if !slices.Equal(all[n:], same(3, behind)) {
				t.Errorf("R2: the room behind %s is changed to %s", show(all[:n]), show(all[n:]))
			}
		}
		all := append(same(most, 3), behind)
		checkAmounts(t, all[:most])
		checkRight(t, all, 5, false)
	}
}
