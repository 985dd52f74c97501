package alloc_test

import (
	"testing"

	"cornhill/api"
)

// TestNoTop: by size alone, whatever p.Top is from 0 on (P13.1).
func TestNoTop(t *testing.T) {
	for _, top := range []int64{0, 1, 4, 5, largest, highest} {
		checkShare(t, ask{terms{api.Share, top, 1, 0}, []int64{4, 2, 10}, nil, 8}, 2, 1, 5)
		checkShare(t, ask{terms{api.Share, top, 1, 0}, []int64{6, 3, 1}, nil, 5}, 4, 1, 0)
		checkShare(t, ask{terms{api.Share, top, 1, 0}, []int64{5}, nil, 3}, 3)
	}
}

// TestTopAtEachPlace: the first, a middle and the last order, which receives p.Top ahead of the others (P13.1).
func TestTopAtEachPlace(t *testing.T) {
	l := []int64{5, 5, 5}
	checkShare(t, ask{terms{api.Share, 3, 1, 0}, l, []int{0}, 7}, 5, 1, 1) // of the 4 behind the 3: 0, 1, 1 by size, 2 by arrival
	checkShare(t, ask{terms{api.Share, 3, 1, 0}, l, []int{1}, 7}, 3, 3, 1) // 1, 0, 1 by size, 2 by arrival
	checkShare(t, ask{terms{api.Share, 3, 1, 0}, l, []int{2}, 7}, 3, 1, 3) // 1, 1, 0 by size, 2 by arrival
	for n := 1; n <= full; n++ {
		for _, at := range []int{0, n / 2, n - 1} {
			checkShare(t, ask{terms{api.Share, largest, 1, 0}, same(n, 7), []int{at}, 7}, with(same(n, 0), at, 7)...)
			checkShare(t, ask{terms{api.Share, 5, 1, 0}, same(n, 7), []int{at}, 5}, with(same(n, 0), at, 5)...)
		}
	}
	for at := range full {
		checkShare(t, ask{terms{api.Share, largest, 1, 0}, same(full, largest), []int{at}, largest}, with(same(full, 0), at, largest)...)
	}
}

// TestMoreThanOneTop: the first one counts, the others are like all orders (P13.1).
func TestMoreThanOneTop(t *testing.T) {
	l := []int64{5, 5, 5}
	checkShare(t, ask{terms{api.Share, 3, 1, 0}, l, []int{0, 1}, 7}, 5, 1, 1)
	checkShare(t, ask{terms{api.Share, 3, 1, 0}, l, []int{0, 2}, 7}, 5, 1, 1)
	checkShare(t, ask{terms{api.Share, 3, 1, 0}, l, []int{1, 2}, 7}, 3, 3, 1)
	checkShare(t, ask{terms{api.Share, 3, 1, 0}, l, []int{0, 1, 2}, 7}, 5, 1, 1)
	for n := 2; n <= full; n += 31 {
		for first := range n {
			var tops []int
			for at := first; at < n; at++ {
				tops = append(tops, at)
			}
			want := with(same(n, 0), first, 9)
			checkShare(t, ask{terms{api.Share, 9, 1, 0}, same(n, 9), tops, 9}, want...)
			checkShare(t, ask{terms{api.Share, 9, 1, 0}, same(n, 9), []int{first, n - 1}, 9}, want...)
		}
	}
}

// TestMost: p.Top round the quantity of the top order, round q, and at its ends (P13.1).
func TestMost(t *testing.T) {
	l := []int64{4, 6, 10} // what the second order leaves of 12 is handed out by size
	for _, c := range []struct {
		top  int64
		want []int64
	}{
		{0, []int64{3, 3, 6}},           // of 12 to 4, 6, 10: 2, 3, 6 by size, 1 by arrival
		{1, []int64{4, 3, 5}},           // of 11 to 4, 5, 10: 2, 2, 5 by size, 2 by arrival
		{5, []int64{3, 5, 4}},           // of 7 to 4, 1, 10: 1, 0, 4 by size, 2 by arrival
		{6, []int64{2, 6, 4}},           // of 6 to 4, 10: 1, 4 by size, 1 by arrival
		{7, []int64{2, 6, 4}},           // no more than there is of it
		{largest, []int64{2, 6, 4}},     // MaxQty
		{largest + 1, []int64{2, 6, 4}}, // and beyond
		{1<<32 + 1, []int64{2, 6, 4}},
		{highest - 1, []int64{2, 6, 4}},
		{highest, []int64{2, 6, 4}},
	} {
		checkShare(t, ask{terms{api.Share, c.top, 1, 0}, l, []int{1}, 12}, c.want...)
	}
	for _, q := range []int64{1, 3, 5, 6} {
		for _, top := range []int64{q, q + 1, 6, highest} {
			checkShare(t, ask{terms{api.Share, top, 1, 0}, l, []int{1}, q}, 0, q, 0)
		}
	}
}

// TestMostBelowNothing: no Share can be with a p.Top below 0, not even where no order is Top; the other rules ask nothing of it (P13.1).
func TestMostBelowNothing(t *testing.T) {
	for _, top := range []int64{-1, -2, -largest, -1 << 32, -1<<32 + 5, lowest + 5, lowest} {
		for _, l := range longAndShort() {
			for _, tops := range topsOf(len(l)) {
				for _, q := range amounts(l) {
					checkLower(t, ask{terms{api.First, top, 1, 50}, l, tops, q})
					checkNone(t, ask{terms{api.Share, top, 1, 50}, l, tops, q})
					checkLower(t, ask{terms{api.Mixed, top, 1, 50}, l, tops, q})
				}
			}
		}
		checkShare(t, ask{terms{api.First, top, 1, 50}, []int64{5, 5}, []int{1}, 7}, 5, 2)
		checkShare(t, ask{terms{api.Mixed, top, 1, 50}, []int64{10, 10}, []int{1}, 10}, 7, 3)
	}
}
