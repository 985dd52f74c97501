package alloc_test

import (
	"slices"
	"testing"

	"cornhill/api"
)

// eachList calls f with all lists of up to longest orders whose quantities are from the first to the last one.
func eachList(longest int, first, last int64, f func(l []int64)) {
	var grow func(l []int64)
	grow = func(l []int64) {
		f(l)
		for qty := first; qty <= last && len(l) < longest; qty++ {
			grow(append(slices.Clone(l), qty))
		}
	}
	grow(nil)
}

// eachTops calls f with all sets of places among n.
func eachTops(n int, f func(tops []int)) {
	for set := range 1 << n {
		var tops []int
		for at := range n {
			if set>>at&1 == 1 {
				tops = append(tops, at)
			}
		}
		f(tops)
	}
}

// TestEverySmallList: each amount of each list, with each set of Top orders, by each rule (P13.1).
func TestEverySmallList(t *testing.T) {
	eachList(3, 1, 4, func(l []int64) {
		eachTops(len(l), func(tops []int) {
			for q := int64(-1); q <= total(l)+1; q++ {
				checkLower(t, ask{terms{rule: api.First}, l, tops, q})
				checkNone(t, ask{terms{0, 2, 1, 50}, l, tops, q})
				for least := int64(0); least <= 3; least++ {
					for top := int64(-1); top <= 5; top++ {
						checkLower(t, ask{terms{api.Share, top, least, 50}, l, tops, q})
					}
					for _, part := range []int64{-1, 0, 25, 50, 67, 100, 101} {
						checkLower(t, ask{terms{api.Mixed, 2, least, part}, l, tops, q})
					}
				}
			}
		})
	})
}

// TestEverySmallListWithWrongQuantities: 0 and below, at each place (P13.1).
func TestEverySmallListWithWrongQuantities(t *testing.T) {
	eachList(3, -1, 2, func(l []int64) {
		eachTops(len(l), func(tops []int) {
			for q := int64(-2); q <= 7; q++ {
				for rule := -1; rule <= 5; rule++ {
					checkLower(t, ask{terms{rule, 1, 1, 50}, l, tops, q})
				}
			}
		})
	})
}

// TestListsByARule: long and short ones, of small and large orders, with Top orders at several places (P13.1).
func TestListsByARule(t *testing.T) {
	seed := uint64(1)
	next := func(n int64) int64 {
		seed = seed*6364136223846793005 + 1442695040888963407
		return int64(seed >> 33 % uint64(n))
	}
	for range 1500 {
		l, size := make([]int64, 1+next(full)), []int64{3, 1000, largest}[next(3)]
		for at := range l {
			l[at] = 1 + next(size)
		}
		var tops []int
		for range next(4) {
			tops = append(tops, int(next(int64(len(l)))))
		}
		sum := total(l)
		for _, q := range []int64{0, next(sum + 1), next(sum/20 + 1), sum - next(sum/20+1), sum} {
			s := terms{0, next(2 * size), 1 + next(size), next(101)}
			for s.rule = -1; s.rule <= 4; s.rule++ {
				checkLower(t, ask{s, l, tops, q})
			}
		}
	}
}
