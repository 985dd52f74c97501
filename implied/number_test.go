package implied_test

import (
	"testing"

	"cornhill/implied"
)

// kind is one of the quotes of a product with three months, with the number of the other quotes ahead of it.
type kind struct {
	name       string
	inst       int
	legs       [2]int
	first      int // 1 if the first leg's price is added, -1 if it is taken off
	second     int
	ahead, all int
}

// kinds are all the quotes of this product. Months have the numbers 0 to 2, their spreads 3 to 5.
var kinds = []kind{
	{"the first month by the second", 0, [2]int{3, 1}, 1, 1, 0, 2},
	{"the first month by the third", 0, [2]int{4, 2}, 1, 1, 1, 2},
	{"the second month by the third", 1, [2]int{5, 2}, 1, 1, 0, 2},
	{"the second month by the first", 1, [2]int{3, 0}, -1, 1, 1, 2},
	{"the third month by the first", 2, [2]int{4, 0}, -1, 1, 0, 2},
	{"the third month by the second", 2, [2]int{5, 1}, -1, 1, 1, 2},
	{"the first spread", 3, [2]int{0, 1}, 1, -1, 0, 1},
	{"the second spread", 4, [2]int{0, 2}, 1, -1, 0, 1},
	{"the third spread", 5, [2]int{1, 2}, 1, -1, 0, 1},
}

// legsOn are the legs of the quote for a side.
func (k kind) legsOn(side int) [2]implied.Leg {
	legs := [2]implied.Leg{{Inst: k.legs[0], Side: side}, {Inst: k.legs[1], Side: side}}
	if k.first < 0 {
		legs[0].Side = otherOf(side)
	}
	if k.second < 0 {
		legs[1].Side = otherOf(side)
	}
	return legs
}

// ask returns what All is asked for this kind of quote, where the legs have these prices and quantities, and all others the price 1 and the quantity 1.
func (k kind) ask(side int, prices, qtys [2]int64) ask {
	tops := make([]implied.Top, 6)
	for i := range tops {
		tops[i] = top(1, 1, 1, 1)
	}
	for i, leg := range k.legsOn(side) {
		tops[leg.Inst].Price[at(leg.Side)] = prices[i]
		tops[leg.Inst].Qty[at(leg.Side)] = qtys[i]
	}
	return ask{product(3), tops, k.inst, side}
}

// checkKind asks All for the quote of this kind, or where there is none, for the others alone.
func checkKind(t *testing.T, k kind, side int, prices, qtys [2]int64, want *implied.Quote) {
	t.Helper()
	a := k.ask(side, prices, qtys)
	got := a.all(t)
	if want == nil {
		if len(got) != k.all-1 {
			t.Errorf("P14.1: %s on side %d, prices %v: %v, want %d quotes", k.name, side, prices, got, k.all-1)
		}
		for _, q := range got {
			if q.Legs == k.legsOn(side) {
				t.Errorf("P14.1: %s on side %d, prices %v: %v, want none", k.name, side, prices, q)
			}
		}
		return
	}
	want.Legs = k.legsOn(side)
	if len(got) != k.all || got[k.ahead] != *want {
		t.Errorf("P14.1: %s on side %d, prices %v, quantities %v: %v, want %v at %d", k.name, side, prices, qtys, got, *want, k.ahead)
	}
}

// TestPrices: the sum for a later month, the earlier month's less the spread's, the first month's less the second's (P14.1).
func TestPrices(t *testing.T) {
	for _, k := range kinds {
		for _, side := range sides {
			for first := int64(-12); first <= 12; first += 3 {
				for second := int64(-10); second <= 10; second += 5 {
					want := implied.Quote{Price: int64(k.first)*first + int64(k.second)*second, Qty: 1}
					checkKind(t, k, side, [2]int64{first, second}, [2]int64{1, 1}, &want)
				}
			}
		}
	}
}

// ends are prices of two legs, the one that is added first, and what they make; ok is false if this is no int64.
type ends struct {
	a, b, price int64
	ok          bool
}

var sums = []ends{
	{highest, 0, highest, true}, {0, highest, highest, true}, {highest, 1, 0, false}, {1, highest, 0, false},
	{highest - 1, 1, highest, true}, {highest - 1, 2, 0, false}, {1, highest - 1, highest, true}, {2, highest - 1, 0, false},
	{highest / 2, highest/2 + 1, highest, true}, {highest/2 + 1, highest/2 + 1, 0, false}, {highest, highest, 0, false},
	{highest, -1, highest - 1, true}, {highest, lowest, -1, true}, {lowest, highest, -1, true}, {highest, 2, 0, false},
	{lowest, 0, lowest, true}, {0, lowest, lowest, true}, {lowest, -1, 0, false}, {-1, lowest, 0, false},
	{lowest + 1, -1, lowest, true}, {lowest + 1, -2, 0, false}, {-1, lowest + 1, lowest, true}, {-2, lowest + 1, 0, false},
	{lowest / 2, lowest / 2, lowest, true}, {lowest / 2, lowest/2 - 1, 0, false}, {lowest/2 - 1, lowest / 2, 0, false}, {lowest, lowest, 0, false},
	{lowest, 1, lowest + 1, true}, {1 << 32, 1 << 32, 1 << 33, true}, {-1 << 40, 1, -1<<40 + 1, true},
}

var differences = []ends{
	{highest, 0, highest, true}, {highest, -1, 0, false}, {highest - 1, -1, highest, true}, {highest - 1, -2, 0, false},
	{0, -highest, highest, true}, {0, lowest, 0, false}, {-1, lowest, highest, true}, {-2, lowest, highest - 1, true}, {1, lowest, 0, false},
	{1, -highest, 0, false}, {0, lowest + 2, highest - 1, true}, {lowest, lowest, 0, true}, {highest, highest, 0, true}, {highest, lowest, 0, false},
	{lowest, 0, lowest, true}, {lowest, 1, 0, false}, {lowest + 1, 1, lowest, true}, {lowest + 1, 2, 0, false},
	{-1, highest, lowest, true}, {-2, highest, 0, false}, {0, highest, -highest, true}, {lowest, highest, 0, false}, {lowest, -1, lowest + 1, true},
	{highest / 2, -highest/2 - 1, highest, true}, {highest / 2, lowest / 2, highest, true}, {highest/2 + 1, lowest / 2, 0, false},
	{lowest / 2, -(lowest / 2), lowest, true}, {lowest/2 - 1, -(lowest / 2), 0, false}, {highest, 1, highest - 1, true}, {1 << 40, 1 << 33, 1<<40 - 1<<33, true},
}

// TestPricesAtTheEnds: a price that is no int64 is left out, one at the ends stands, for each kind of quote (P14.1).
func TestPricesAtTheEnds(t *testing.T) {
	for _, k := range kinds {
		l := sums
		if k.first != k.second {
			l = differences
		}
		for _, e := range l {
			prices := [2]int64{e.a, e.b}
			if k.first < 0 {
				prices = [2]int64{e.b, e.a}
			}
			for _, side := range sides {
				var want *implied.Quote
				if e.ok {
					want = &implied.Quote{Price: e.price, Qty: 1}
				}
				checkKind(t, k, side, prices, [2]int64{1, 1}, want)
			}
		}
	}
}

// TestLeftOut: each quote in turn has a price that is no int64, and the others stay in their order (P14.1).
func TestLeftOut(t *testing.T) {
	eachAsk(low, func(a ask) {
		all := a.model()
		for i, q := range all {
			b := ask{a.p, low(len(a.tops)), a.inst, a.side}
			for _, leg := range q.Legs {
				price := int64(highest)
				if leg.Side != a.side {
					price = lowest
				}
				b.tops[leg.Inst].Price[at(leg.Side)] = price
			}
			checkAll(t, b, append(append([]implied.Quote{}, all[:i]...), all[i+1:]...)...)
		}
	})
}

// TestQuantities: the lesser one, whichever it is, or the one that both have (P14.1). Nothing asks whether an order can have it.
func TestQuantities(t *testing.T) {
	pairs := [][3]int64{
		{3, 5, 3}, {5, 3, 3}, {4, 4, 4}, {1, 2, 1}, {2, 1, 1}, {1, 1000000, 1}, {1000000, 1, 1}, {1000000, 1000000, 1000000}, {999999, 1000000, 999999},
		{1000001, 1000002, 1000001}, {0, 5, 0}, {5, 0, 0}, {0, 0, 0}, {-1, 5, -1}, {5, -1, -1}, {-1, 0, -1}, {-7, -8, -8},
		{highest, 1, 1}, {1, highest, 1}, {highest, highest, highest}, {highest - 1, highest, highest - 1}, {lowest, highest, lowest}, {highest, lowest, lowest}, {lowest, lowest, lowest},
		{1 << 32, 7, 7}, {7, 1 << 32, 7}, {1<<32 + 1, 1 << 32, 1 << 32},
	}
	for _, k := range kinds {
		for _, side := range sides {
			for _, qtys := range pairs {
				want := implied.Quote{Price: int64(k.first)*30 + int64(k.second)*20, Qty: qtys[2]}
				checkKind(t, k, side, [2]int64{30, 20}, [2]int64{qtys[0], qtys[1]}, &want)
			}
		}
	}
}
