package implied_test

import (
	"testing"

	"cornhill/api"
	"cornhill/implied"
)

const (
	buy  = api.Buy
	sell = api.Sell
)

// top has these prices and quantities, those of Buy first.
func top(buy, buyQty, sell, sellQty int64) implied.Top {
	return implied.Top{Has: [2]bool{true, true}, Price: [2]int64{buy, sell}, Qty: [2]int64{buyQty, sellQty}}
}

// quote has these legs.
func quote(price, qty int64, inst1, side1, inst2, side2 int) implied.Quote {
	return implied.Quote{Price: price, Qty: qty, Legs: [2]implied.Leg{{Inst: inst1, Side: side1}, {Inst: inst2, Side: side2}}}
}

// TestExamples: those of the chapter (P14.1).
func TestExamples(t *testing.T) {
	tops := make([]implied.Top, 3)
	tops[2] = implied.Top{Has: [2]bool{false, true}, Price: [2]int64{0, 3}, Qty: [2]int64{0, 9}}
	tops[1] = implied.Top{Has: [2]bool{false, true}, Price: [2]int64{0, 100}, Qty: [2]int64{0, 7}}
	checkAll(t, ask{product(2), tops, 0, sell}, quote(103, 7, 2, sell, 1, sell))
	checkAll(t, ask{product(2), tops, 0, buy})
	checkAll(t, ask{product(2), tops, 1, sell})
	checkAll(t, ask{product(2), tops, 1, buy})
	checkAll(t, ask{product(2), tops, 2, sell})
	checkAll(t, ask{product(2), tops, 2, buy})
	for _, i := range []int{1, 2} {
		without := make([]implied.Top, 3)
		copy(without, tops)
		without[i].Has[1] = false
		checkAll(t, ask{product(2), without, 0, sell})
	}
}

// TestThreeMonths: all quotes of a product, worked out by hand (P14.1).
func TestThreeMonths(t *testing.T) {
	tops := []implied.Top{
		top(70, 2, 75, 9), top(60, 8, 65, 4), top(40, 6, 45, 3), // the months 0 to 2
		top(5, 1, 15, 10), top(20, 7, 30, 5), top(10, 12, 25, 11), // the spreads of 0 and 1, 0 and 2, 1 and 2
	}
	want := []struct {
		inst      int
		buy, sell []implied.Quote
	}{
		{0, []implied.Quote{quote(65, 1, 3, buy, 1, buy), quote(60, 6, 4, buy, 2, buy)}, []implied.Quote{quote(80, 4, 3, sell, 1, sell), quote(75, 3, 4, sell, 2, sell)}},
		{1, []implied.Quote{quote(50, 6, 5, buy, 2, buy), quote(55, 2, 3, sell, 0, buy)}, []implied.Quote{quote(70, 3, 5, sell, 2, sell), quote(70, 1, 3, buy, 0, sell)}},
		{2, []implied.Quote{quote(40, 2, 4, sell, 0, buy), quote(35, 8, 5, sell, 1, buy)}, []implied.Quote{quote(55, 7, 4, buy, 0, sell), quote(55, 4, 5, buy, 1, sell)}},
		{3, []implied.Quote{quote(5, 2, 0, buy, 1, sell)}, []implied.Quote{quote(15, 8, 0, sell, 1, buy)}},
		{4, []implied.Quote{quote(25, 2, 0, buy, 2, sell)}, []implied.Quote{quote(35, 6, 0, sell, 2, buy)}},
		{5, []implied.Quote{quote(15, 3, 1, buy, 2, sell)}, []implied.Quote{quote(25, 4, 1, sell, 2, buy)}},
	}
	for _, w := range want {
		checkAll(t, ask{product(3), tops, w.inst, buy}, w.buy...)
		checkAll(t, ask{product(3), tops, w.inst, sell}, w.sell...)
		checkQuotes(t, ask{product(3), tops, w.inst, buy}, w.buy...)
		checkQuotes(t, ask{product(3), tops, w.inst, sell}, w.sell...)
	}
}

// TestSixMonths: the first, a middle and the last month of the longest product, and a spread, with prices that tell where they come from (P14.1).
func TestSixMonths(t *testing.T) {
	tops := make([]implied.Top, 21)
	for i := range tops {
		n := int64(i)
		tops[i] = top(1000*n, 100+n, 1000*n+1, 200+n)
	}
	p := product(6)
	checkAll(t, ask{p, tops, 0, buy}, quote(7000, 101, 6, buy, 1, buy), quote(9000, 102, 7, buy, 2, buy), quote(11000, 103, 8, buy, 3, buy), quote(13000, 104, 9, buy, 4, buy), quote(15000, 105, 10, buy, 5, buy))
	checkAll(t, ask{p, tops, 0, sell}, quote(7002, 201, 6, sell, 1, sell), quote(9002, 202, 7, sell, 2, sell), quote(11002, 203, 8, sell, 3, sell), quote(13002, 204, 9, sell, 4, sell), quote(15002, 205, 10, sell, 5, sell))
	checkAll(t, ask{p, tops, 2, buy}, quote(18000, 103, 15, buy, 3, buy), quote(20000, 104, 16, buy, 4, buy), quote(22000, 105, 17, buy, 5, buy), quote(-7001, 100, 7, sell, 0, buy), quote(-10001, 101, 11, sell, 1, buy))
	checkAll(t, ask{p, tops, 2, sell}, quote(18002, 203, 15, sell, 3, sell), quote(20002, 204, 16, sell, 4, sell), quote(22002, 205, 17, sell, 5, sell), quote(-6999, 107, 7, buy, 0, sell), quote(-9999, 111, 11, buy, 1, sell))
	checkAll(t, ask{p, tops, 5, buy}, quote(-10001, 100, 10, sell, 0, buy), quote(-13001, 101, 14, sell, 1, buy), quote(-15001, 102, 17, sell, 2, buy), quote(-16001, 103, 19, sell, 3, buy), quote(-16001, 104, 20, sell, 4, buy))
	checkAll(t, ask{p, tops, 5, sell}, quote(-9999, 110, 10, buy, 0, sell), quote(-12999, 114, 14, buy, 1, sell), quote(-14999, 117, 17, buy, 2, sell), quote(-15999, 119, 19, buy, 3, sell), quote(-15999, 120, 20, buy, 4, sell))
	checkAll(t, ask{p, tops, 13, buy}, quote(-3001, 101, 1, buy, 4, sell))
	checkAll(t, ask{p, tops, 13, sell}, quote(-2999, 104, 1, sell, 4, buy))
}

// TestEveryInstrument: each one of products with two to six months, on both sides (P14.1).
func TestEveryInstrument(t *testing.T) {
	eachAsk(full, func(a ask) {
		if got, want := len(a.all(t)), len(a.legs()); got != want {
			t.Errorf("P14.1: All%s: %d quotes, want %d", a, got, want)
		}
		checkModel(t, a)
	})
	eachAsk(low, func(a ask) { checkModel(t, a) })
}

// TestNoTops: where no best price exists, there is no quote, whatever stands beside it (P14.1).
func TestNoTops(t *testing.T) {
	none := func(count int) []implied.Top { return make([]implied.Top, count) }
	eachAsk(none, func(a ask) { checkNone(t, "nothing exists", a) })
	eachAsk(func(count int) []implied.Top { return masked(low(count), -1) }, func(a ask) { checkNone(t, "nothing exists", a) })
}

// TestMissingLegs: a quote of which one leg, the other one or both do not exist is left out, and the others stay in their order (P14.1).
func TestMissingLegs(t *testing.T) {
	eachAsk(full, func(a ask) {
		all := a.model()
		for i, q := range all {
			var rest []implied.Quote
			rest = append(append(rest, all[:i]...), all[i+1:]...)
			for missing := 1; missing <= 3; missing++ {
				b := ask{a.p, full(len(a.tops)), a.inst, a.side}
				for n, leg := range q.Legs {
					if missing>>n&1 == 1 {
						b.tops[leg.Inst].Has[at(leg.Side)] = false
					}
				}
				checkAll(t, b, rest...)
			}
		}
	})
}

// TestOnlyLegs: with the legs of one quote alone, there is this quote and no other (P14.1).
func TestOnlyLegs(t *testing.T) {
	eachAsk(full, func(a ask) {
		for _, q := range a.model() {
			b := ask{a.p, masked(full(len(a.tops)), -1), a.inst, a.side}
			for _, leg := range q.Legs {
				b.tops[leg.Inst].Has[at(leg.Side)] = true
			}
			checkAll(t, b, q)
			b.side = otherOf(a.side)
			checkAll(t, b)
		}
	})
}

// TestOwnTop: the instrument's own best prices, and the sides of others that are no legs, do not matter (P14.1).
func TestOwnTop(t *testing.T) {
	eachAsk(full, func(a ask) {
		want := a.model()
		used := map[implied.Leg]bool{}
		for _, legs := range a.legs() {
			used[legs[0]], used[legs[1]] = true, true
		}
		for inst := range a.tops {
			for _, side := range sides {
				if !used[implied.Leg{Inst: inst, Side: side}] {
					top := &a.tops[inst]
					top.Has[at(side)], top.Price[at(side)], top.Qty[at(side)] = inst%2 == 0, lowest, -1
				}
			}
		}
		checkAll(t, a, want...)
	})
}
