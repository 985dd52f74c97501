package implied_test

import (
	"fmt"
	"slices"
	"testing"

	"cornhill/api"
	"cornhill/implied"
)

// level is the price and the quantity of a quote.
type level struct{ price, qty int64 }

// list makes quotes of levels. Each has legs of its own, by which it is known.
func list(levels ...level) []implied.Quote {
	var l []implied.Quote
	for i, v := range levels {
		l = append(l, quote(v.price, v.qty, i, api.Buy, 100+i, api.Sell))
	}
	return l
}

// shown is what Show answers.
type shown struct {
	price, qty, count int64
	ok                bool
}

func show(l []implied.Quote, side int) shown {
	price, qty, count, ok := implied.Show(l, side)
	return shown{price, qty, count, ok}
}

// tell tells a list, of a long one only the beginning.
func tell(l []implied.Quote) string {
	if len(l) <= 8 {
		return fmt.Sprint(l)
	}
	return fmt.Sprint(l[:8], " and so on, in all ", len(l))
}

// checkBest asks both, for each side or what is treated like it: the quote at the place, the quantity and the number.
func checkBest(t *testing.T, l []implied.Quote, side, place int, qty, count int64) {
	t.Helper()
	asked := []int{api.Buy}
	if side != api.Buy {
		asked = append(slices.Clone(noSides), api.Sell)
	}
	for _, side := range asked {
		checkBestOn(t, l, side, place, shown{l[place].Price, qty, count, true})
	}
}

// checkBestOn asks both for one number of a side, and whether the quotes are left alone.
func checkBestOn(t *testing.T, l []implied.Quote, side, place int, want shown) {
	t.Helper()
	before := slices.Clone(l)
	if got, ok := implied.Best(l, side); got != l[place] || !ok {
		t.Errorf("P14.2: Best(%s, %d): %v, %t, want %v, true", tell(l), side, got, ok, l[place])
	}
	if got := show(l, side); got != want {
		t.Errorf("P14.2: Show(%s, %d): %v, want %v", tell(l), side, got, want)
	}
	if !slices.Equal(l, before) {
		t.Errorf("R2: side %d: the quotes have changed: %s, were %s", side, tell(l), tell(before))
	}
}

// TestNoQuotes: nil and an empty list alike, for every number of a side (P14.2).
func TestNoQuotes(t *testing.T) {
	for _, l := range [][]implied.Quote{nil, {}, list(level{5, 3})[:0]} {
		for _, side := range append(slices.Clone(noSides), sides...) {
			if got, ok := implied.Best(l, side); got != (implied.Quote{}) || ok {
				t.Errorf("P14.2: Best(none, %d): %v, %t, want zeros and false", side, got, ok)
			}
			if got := show(l, side); got != (shown{}) {
				t.Errorf("P14.2: Show(none, %d): %v, want zeros and false", side, got)
			}
		}
	}
}

// TestOneQuote: it is the best one, whatever its numbers are (P14.2).
func TestOneQuote(t *testing.T) {
	numbers := []int64{lowest, lowest + 1, -1 << 32, -1, 0, 1, 5, 1 << 32, highest - 1, highest}
	for _, price := range numbers {
		for _, qty := range numbers {
			for _, side := range sides {
				checkBest(t, list(level{price, qty}), side, 0, qty, 1)
			}
		}
	}
	checkBest(t, []implied.Quote{{}}, buy, 0, 0, 1)
	checkBest(t, []implied.Quote{{}}, sell, 0, 0, 1)
}

// TestBestPrice: the highest one for Buy, the lowest one otherwise, at the first place, in the middle and at the last (P14.2).
func TestBestPrice(t *testing.T) {
	l := list(level{10, 1}, level{30, 2}, level{20, 3})
	checkBest(t, l, buy, 1, 2, 1)
	checkBest(t, l, sell, 0, 1, 1)
	l = list(level{30, 1}, level{10, 2}, level{20, 3})
	checkBest(t, l, buy, 0, 1, 1)
	checkBest(t, l, sell, 1, 2, 1)
	l = list(level{20, 1}, level{10, 2}, level{30, 3})
	checkBest(t, l, buy, 2, 3, 1)
	checkBest(t, l, sell, 1, 2, 1)
	l = list(level{20, 1}, level{30, 2}, level{10, 3})
	checkBest(t, l, sell, 2, 3, 1)
	l = list(level{-20, 1}, level{-30, 2}, level{-10, 3})
	checkBest(t, l, buy, 2, 3, 1)
	checkBest(t, l, sell, 1, 2, 1)
	l = list(level{-1, 1}, level{0, 2}, level{1, 3})
	checkBest(t, l, buy, 2, 3, 1)
	checkBest(t, l, sell, 0, 1, 1)
}

// TestFirstOfTheBest: of several with the best price the first one, neither the one with the greatest quantity nor the last one (P14.2).
func TestFirstOfTheBest(t *testing.T) {
	l := list(level{20, 1}, level{20, 9}, level{20, 5})
	checkBest(t, l, buy, 0, 9, 3)
	checkBest(t, l, sell, 0, 9, 3)
	l = list(level{15, 99}, level{20, 4}, level{15, 7}, level{20, 6}, level{20, 2}, level{19, 98})
	checkBest(t, l, buy, 1, 6, 3)
	checkBest(t, l, sell, 0, 99, 2)
	l = list(level{15, 5}, level{10, 5}, level{15, 7}, level{10, 4}, level{10, 6}, level{11, 9})
	checkBest(t, l, buy, 0, 7, 2)
	checkBest(t, l, sell, 1, 6, 3)
	l = list(level{10, 1}, level{10, 1}, level{20, 1}, level{20, 1})
	checkBest(t, l, buy, 2, 1, 2)
	checkBest(t, l, sell, 0, 1, 2)
}

// TestGreatestQuantity: of the quotes with the best price, at the first place, in the middle and at the last, and not that of a better known quote (P14.2).
func TestGreatestQuantity(t *testing.T) {
	for place := range 5 {
		l := list(level{20, 3}, level{20, 2}, level{20, 4}, level{20, 1}, level{20, 3})
		l[place].Qty = 8
		for _, side := range sides {
			checkBest(t, l, side, 0, 8, 5)
		}
		others := list(level{19, 1000000}, level{20, 3}, level{21, 1000000}, level{20, 2}, level{20, 4}, level{20, 1}, level{20, 3})
		others[[]int{1, 3, 4, 5, 6}[place]].Qty = 8
		checkBest(t, append(others[:2:2], others[3:]...), buy, 1, 8, 5)
		checkBest(t, others[1:], sell, 0, 8, 5)
		checkBest(t, others, buy, 2, 1000000, 1)
		checkBest(t, others, sell, 0, 1000000, 1)
	}
	l := list(level{20, -3}, level{20, -2}, level{20, -4}, level{10, 5}, level{30, 5})
	checkBest(t, l[:4], buy, 0, -2, 3)
	checkBest(t, append(l[:3:3], l[4]), sell, 0, -2, 3)
	l = list(level{20, lowest}, level{20, lowest + 1}, level{20, highest}, level{20, 0})
	checkBest(t, l[:2], buy, 0, lowest+1, 2)
	checkBest(t, l, sell, 0, highest, 4)
}

// TestBestAtTheEnds: prices at the ends of an int64 are held against each other rightly (P14.2).
func TestBestAtTheEnds(t *testing.T) {
	l := list(level{lowest, 1}, level{highest, 2}, level{0, 3})
	checkBest(t, l, buy, 1, 2, 1)
	checkBest(t, l, sell, 0, 1, 1)
	l = list(level{highest, 1}, level{lowest, 2}, level{lowest + 1, 3}, level{highest - 1, 4})
	checkBest(t, l, buy, 0, 1, 1)
	checkBest(t, l, sell, 1, 2, 1)
	l = list(level{highest - 1, 1}, level{lowest + 1, 2}, level{lowest, 3}, level{highest, 4}, level{highest, 7}, level{lowest, 2})
	checkBest(t, l, buy, 3, 7, 2)
	checkBest(t, l, sell, 2, 3, 2)
	l = list(level{0, 1}, level{lowest, 2})
	checkBest(t, l, buy, 0, 1, 1)
	checkBest(t, l, sell, 1, 2, 1)
	l = list(level{-1, 1}, level{highest, 2})
	checkBest(t, l, buy, 1, 2, 1)
	checkBest(t, l, sell, 0, 1, 1)
	l = list(level{1 << 32, 1}, level{1, 2}, level{-1 << 32, 3}, level{-1, 4})
	checkBest(t, l, buy, 0, 1, 1)
	checkBest(t, l, sell, 2, 3, 1)
}

// checkSearched compares both with what sorting tells.
func checkSearched(t *testing.T, l []implied.Quote) {
	t.Helper()
	for _, side := range append([]int{0, 3}, sides...) {
		order := slices.Clone(l)
		slices.SortStableFunc(order, func(a, b implied.Quote) int {
			if a.Price == b.Price {
				return 0
			}
			if (a.Price > b.Price) == (side == api.Buy) {
				return -1
			}
			return 1
		})
		want := shown{order[0].Price, order[0].Qty, 0, true}
		for _, q := range order {
			if q.Price == want.price {
				want.qty = max(want.qty, q.Qty)
				want.count++
			}
		}
		checkBestOn(t, l, side, slices.Index(l, order[0]), want)
	}
}

// TestEverySmallList: of up to five quotes with three prices and two quantities, and of up to three with more (P14.2).
func TestEverySmallList(t *testing.T) {
	var grow func(l []level, longest int, prices, qtys []int64)
	grow = func(l []level, longest int, prices, qtys []int64) {
		if len(l) > 0 {
			checkSearched(t, list(l...))
		}
		if len(l) == longest {
			return
		}
		for _, price := range prices {
			for _, qty := range qtys {
				grow(append(slices.Clone(l), level{price, qty}), longest, prices, qtys)
			}
		}
	}
	grow(nil, 5, []int64{-5, 0, 5}, []int64{1, 2})
	grow(nil, 3, []int64{lowest, -1, 0, 1, highest}, []int64{lowest, 0, 3, highest})
}

// TestLongLists: of more quotes than any instrument has (P14.2).
func TestLongLists(t *testing.T) {
	c := chance(3)
	for range 300 {
		var levels []level
		prices, qtys := 1+c.below(40), 1+c.below(1000000)
		for range 1 + c.below(400) {
			levels = append(levels, level{c.below(prices) - prices/2, 1 + c.below(qtys)})
		}
		checkSearched(t, list(levels...))
	}
	long := slices.Repeat([]level{{20, 7}}, 70000)
	checkBest(t, list(long...), buy, 0, 7, 70000)
	long[69999].qty = 8
	checkBest(t, list(long...), sell, 0, 8, 70000)
	long[69998].price = 21
	checkBest(t, list(long...), buy, 69998, 7, 1)
}

// TestBestOfQuotes: quotes that have been made, on the sides that they were made for (P14.2).
func TestBestOfQuotes(t *testing.T) {
	tops := []implied.Top{
		top(70, 2, 75, 9), top(60, 8, 65, 4), top(40, 6, 45, 3),
		top(5, 1, 15, 10), top(20, 7, 30, 5), top(10, 12, 25, 11),
	}
	for _, c := range []struct {
		inst, side int
		best       implied.Quote
		show       shown
	}{
		{0, buy, quote(65, 1, 3, buy, 1, buy), shown{65, 1, 1, true}},
		{0, sell, quote(75, 3, 4, sell, 2, sell), shown{75, 3, 1, true}},
		{1, buy, quote(55, 2, 3, sell, 0, buy), shown{55, 2, 1, true}},
		{1, sell, quote(70, 3, 5, sell, 2, sell), shown{70, 3, 2, true}},
		{2, buy, quote(40, 2, 4, sell, 0, buy), shown{40, 2, 1, true}},
		{2, sell, quote(55, 7, 4, buy, 0, sell), shown{55, 7, 2, true}},
		{4, sell, quote(35, 6, 0, sell, 2, buy), shown{35, 6, 1, true}},
	} {
		l := implied.Quotes(product(3), tops, c.inst, c.side)
		if got, ok := implied.Best(l, c.side); got != c.best || !ok {
			t.Errorf("P14.2: Best(%v, %d): %v, %t, want %v, true", l, c.side, got, ok, c.best)
		}
		if got := show(l, c.side); got != c.show {
			t.Errorf("P14.2: Show(%v, %d): %v, want %v", l, c.side, got, c.show)
		}
	}
}
