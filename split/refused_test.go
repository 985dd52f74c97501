package split_test

import (
	"slices"
	"testing"
)

// noQuantities are such that no order can have. The last ones are right in their lower half.
var noQuantities = []int64{
	0, -1, -2, -largest, lowest, lowest + 1, largest + 1, largest + 2, 1 << 31, 1 << 32, -1 << 32, highest - 1, highest,
	1<<32 + 1, 1<<32 + largest, -1<<32 + 1, lowest + 5,
}

// noParts are below 0 or above 100. The last ones are right in their lower half or their last byte.
var noParts = []int64{
	-1, -2, -50, -100, -101, lowest, lowest + 1, 101, 102, 127, 150, 200, 1000, highest - 1, highest,
	256, 256 + 50, 1 << 32, 1<<32 + 50, -1 << 32, -1<<32 + 50, lowest + 100,
}

// noLeasts are below 1.
var noLeasts = []int64{0, -1, -2, -5, -largest, -1 << 31, -1 << 32, -1<<32 + 1, lowest + 1, lowest}

// amounts are such that l can receive.
func amounts(l []int64) []int64 {
	sum := total(l)
	return []int64{0, min(1, sum), sum / 2, max(sum-1, 0), sum}
}

// TestWrongPart: below 0 and above 100 (P12.1).
func TestWrongPart(t *testing.T) {
	for _, l := range slices.Concat(lists, [][]int64{nil, same(full, largest)}) {
		for _, q := range amounts(l) {
			for _, part := range noParts {
				for _, least := range []int64{1, 5, highest, 0} {
					checkNone(t, ask{l, part, least, q})
				}
			}
		}
	}
}

// TestWrongLeast: below 1, even where nothing is allocated by size (P12.1).
func TestWrongLeast(t *testing.T) {
	for _, l := range slices.Concat(lists, [][]int64{nil, same(full, largest)}) {
		for _, q := range amounts(l) {
			for _, least := range noLeasts {
				for _, part := range []int64{0, 1, 50, 99, 100, -1, 101} {
					checkNone(t, ask{l, part, least, q})
				}
			}
		}
	}
}

// TestWrongAmounts: below 0 and above the sum (P12.1).
func TestWrongAmounts(t *testing.T) {
	for _, l := range slices.Concat(lists, [][]int64{nil, same(full, 1), same(full, largest)}) {
		sum := total(l)
		for _, q := range []int64{
			-1, -2, -100, -sum - 1, -1 << 32, -1<<32 + 1, lowest, lowest + sum,
			sum + 1, sum + 2, 2*sum + 1, sum + 1<<32, 1 << 40, highest/100 + 1, highest - 1, highest,
		} {
			checkRefused(t, l, q)
		}
	}
}

// TestWrongQuantities: at each place of the others (P12.1).
func TestWrongQuantities(t *testing.T) {
	for _, n := range []int{1, 2, 3, full} {
		for _, at := range []int{0, n / 2, n - 1} {
			for _, qty := range noQuantities {
				l := with(same(n, 7), at, qty)
				for _, q := range []int64{0, 1, 7 * int64(n-1), total(l)} {
					checkRefused(t, l, q)
				}
			}
		}
	}
	for _, l := range [][]int64{{0}, {0, 0}, {-5, 10}, {10, -5}, {highest, highest, 7}, {lowest, lowest, 5}, {largest + 1, largest - 1}} {
		for q := int64(-1); q <= 6; q++ {
			checkRefused(t, l, q)
		}
	}
}

// TestTooManyOrders: one more than MaxOrders and beyond (P12.1).
func TestTooManyOrders(t *testing.T) {
	for _, n := range []int{full + 1, full + 2, 256, 257, 256 + full, 1 << 16, 1<<16 + 1} {
		for _, qty := range []int64{1, largest} {
			for _, q := range []int64{0, 1, qty, total(same(n, qty))} {
				checkRefused(t, same(n, qty), q)
			}
		}
	}
}
