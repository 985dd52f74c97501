package market_test

import (
	"fmt"
	"testing"

	"cornhill/api"
)

// queue returns a pair with three orders that buy 0 at 10, which have 4, 5 and 6.
func queue(t *testing.T) *pair {
	t.Helper()
	return with(t, product(2), o{0, api.Buy, 10, 4}, o{0, api.Buy, 10, 5}, o{0, api.Buy, 10, 6})
}

// wantOrders compares the orders of an instrument with what the test has worked out: {ID Side Price Qty Top} of each.
func (p *pair) wantOrders(inst int, want string) {
	p.t.Helper()
	if got := fmt.Sprint(p.market.State().Orders(inst)); got != want {
		p.t.Errorf("P17.3: %s: the orders of %d are %s, want %s", p.last(), inst, got, want)
	}
}

// TestNone: there is no order with the ID, for whatever reason (P17.3).
func TestNone(t *testing.T) {
	p := newPair(t, product(2))
	none := func(ids ...int64) {
		t.Helper()
		for _, id := range ids {
			for _, c := range []api.Command{cancel(id), reduce(id, 1), reduce(id, largest), replace(id, 10, 5), replace(id, 1, 5), replace(id, 2*api.MaxPrice, 5)} {
				p.refuses("P17.3", c, api.ErrNone)
			}
		}
	}
	none(1, 2, 1<<32+1, lastID)
	p.refuses("P17.1", day(1, 0, api.Buy, 1, 5), api.ErrTick)
	none(1) // it was refused
	p.put(day(1, 0, api.Buy, 10, 5))
	none(2, 257, 1<<32+1)
	p.put(timed(day(2, 0, api.Sell, 10, 2), api.Now))
	none(2) // it was filled as it came
	p.put(timed(day(3, 0, api.Sell, 15, 2), api.Now))
	none(3) // nothing of it traded
	p.put(day(4, 0, api.Sell, 10, 3))
	none(1, 4) // it was filled as it waited
	p.put(day(5, 0, api.Sell, 10, 3))
	p.put(cancel(5))
	none(5)
	p.put(day(6, 0, api.Sell, 10, 3))
	p.put(reduce(6, 3))
	none(6)
	p.put(day(7, 0, api.Sell, 10, 3))
	p.put(day(8, 0, api.Buy, 5, 3))
	p.put(replace(8, 10, 3))
	none(7, 8) // the one has filled the other
	p.check()
}

// TestCancel: it tells the quantity that the order had, and the others stay (P17.3).
func TestCancel(t *testing.T) {
	p := queue(t)
	p.want(cancel(2), "gone 2 0 1 10 5 0 0")
	p.wantOrders(0, "[{1 1 10 4 true} {3 1 10 6 false}]")
	p.want(cancel(1), "gone 1 0 1 10 4 0 0")
	p.wantOrders(0, "[{3 1 10 6 false}]")
	p.refuses("P17.3", cancel(1), api.ErrNone)
	p.put(timed(day(9, 0, api.Sell, 10, 2), api.Now))
	p.want(cancel(3), "gone 3 0 1 10 4 0 0") // what is left of it
	p.wantOrders(0, "[]")
	p.put(day(10, 2, api.Sell, -5, 7))
	p.want(cancel(10), "gone 10 2 2 -5 7 0 0")
	if p.market.Count() != 0 {
		t.Errorf("P17.4: Count: %d", p.market.Count())
	}
}

// TestReduce: less than the order has leaves it in its place, as much or more has the effect of Cancel (P17.3).
func TestReduce(t *testing.T) {
	p := queue(t)
	p.want(reduce(1, 1), "less 1 0 1 10 1 3 0")
	p.want(reduce(1, 2), "less 1 0 1 10 2 1 0")
	p.wantOrders(0, "[{1 1 10 1 true} {2 1 10 5 false} {3 1 10 6 false}]")
	p.want(reduce(2, 4), "less 2 0 1 10 4 1 0")
	p.want(timed(day(9, 0, api.Sell, 10, 3), api.Now), "ok 9 0 2 10 3 3 0", "trade 1 0 1 10 1 0 0", "trade 2 0 1 10 1 0 0", "trade 3 0 1 10 1 5 0", "trade 9 0 2 10 3 0 0")
	for qty := int64(1); qty <= 7; qty++ {
		p = queue(t)
		switch left := 5 - qty; {
		case left > 0:
			p.want(reduce(2, qty), fmt.Sprintf("less 2 0 1 10 %d %d 0", qty, left))
			p.wantOrders(0, fmt.Sprintf("[{1 1 10 4 true} {2 1 10 %d false} {3 1 10 6 false}]", left))
		default:
			p.want(reduce(2, qty), "gone 2 0 1 10 5 0 0")
			p.wantOrders(0, "[{1 1 10 4 true} {3 1 10 6 false}]")
		}
	}
	p = queue(t)
	p.want(reduce(3, largest), "gone 3 0 1 10 6 0 0")
	p.put(day(10, 2, api.Sell, -5, largest))
	p.want(reduce(10, largest-1), "less 10 2 2 -5 999999 1 0")
	p.want(reduce(10, 1), "gone 10 2 2 -5 1 0 0")
}

// TestReplaceRefused: the error of refdata.Price for the order's instrument and the new price, and the order is as it was (P17.3).
func TestReplaceRefused(t *testing.T) {
	for months := 2; months <= api.MaxExp; months++ {
		p := newPair(t, product(months))
		for inst := range months * (months + 1) / 2 {
			low, high := int64(-100), int64(200)
			if inst >= months {
				low, high = -50, 50
			}
			for _, side := range sides {
				p.put(day(int64(2*inst+side), inst, side, 5, 7))
				for i, price := range []int64{1, -1, low - 1, high + 1, 4, 6} {
					p.refuses("P17.3", replace(int64(2*inst+side), price, int64(i+4)), api.ErrTick)
				}
				for i, price := range []int64{low - 5, high + 5, 2 * api.MaxPrice, -2 * api.MaxPrice} {
					p.refuses("P17.3", replace(int64(2*inst+side), price, int64(i+6)), api.ErrBand)
				}
				p.tells(cancel(int64(2*inst+side)), fmt.Sprintf("gone %d %d %d 5 7 0 0", 2*inst+side, inst, side))
			}
		}
		p.check()
	}
}

// TestReplaceKeeps: at the same price with no more than before the order keeps its place (P17.3).
func TestReplaceKeeps(t *testing.T) {
	for qty := int64(1); qty <= 5; qty++ {
		p := queue(t)
		p.want(replace(2, 10, qty), fmt.Sprintf("less 2 0 1 10 %d %d 0", 5-qty, qty))
		p.wantOrders(0, fmt.Sprintf("[{1 1 10 4 true} {2 1 10 %d false} {3 1 10 6 false}]", qty))
		p = queue(t)
		p.want(replace(1, 10, min(qty, 4)), fmt.Sprintf("less 1 0 1 10 %d %d 0", 4-min(qty, 4), min(qty, 4)))
		p.wantOrders(0, fmt.Sprintf("[{1 1 10 %d true} {2 1 10 5 false} {3 1 10 6 false}]", min(qty, 4)))
	}
	// What counts is what is left of it.
	p := queue(t)
	p.put(timed(day(9, 0, api.Sell, 10, 1), api.Now))
	p.want(replace(1, 10, 3), "less 1 0 1 10 0 3 0")
	p.wantOrders(0, "[{1 1 10 3 true} {2 1 10 5 false} {3 1 10 6 false}]")
	p.want(replace(1, 10, 4), "gone 1 0 1 10 3 0 0", "ok 1 0 1 10 4 4 0")
	p.wantOrders(0, "[{2 1 10 5 false} {3 1 10 6 false} {1 1 10 4 false}]")
	// It isn't matched, whatever stands on the other side.
	p = with(t, product(2), o{0, api.Sell, 15, 5}, o{0, api.Buy, 10, 5})
	p.want(replace(1, 15, 5), "less 1 0 2 15 0 5 0")
	p.want(replace(1, 15, 2), "less 1 0 2 15 3 2 0")
	p.wantOrders(0, "[{2 1 10 5 true} {1 2 15 2 true}]")
}

// TestReplaceLoses: at the same price with more, and at another price, the order comes anew (P17.3).
func TestReplaceLoses(t *testing.T) {
	p := queue(t)
	p.want(replace(1, 10, 5), "gone 1 0 1 10 4 0 0", "ok 1 0 1 10 5 5 0")
	p.wantOrders(0, "[{2 1 10 5 false} {3 1 10 6 false} {1 1 10 5 false}]")
	p = queue(t)
	p.want(replace(1, 10, largest), "gone 1 0 1 10 4 0 0", "ok 1 0 1 10 1000000 1000000 0")
	p.want(replace(3, 5, 1), "gone 3 0 1 10 6 0 0", "ok 3 0 1 5 1 1 0")
	p.wantOrders(0, "[{2 1 10 5 false} {1 1 10 1000000 false} {3 1 5 1 false}]")
	p.want(replace(3, 15, 1), "gone 3 0 1 5 1 0 0", "ok 3 0 1 15 1 1 0")
	p.wantOrders(0, "[{3 1 15 1 true} {2 1 10 5 false} {1 1 10 1000000 false}]")
	p.want(replace(3, 10, 1), "gone 3 0 1 15 1 0 0", "ok 3 0 1 10 1 1 0")
	p.wantOrders(0, "[{2 1 10 5 false} {1 1 10 1000000 false} {3 1 10 1 false}]")
	// Alone on its side it becomes the top order again.
	p = with(t, product(2), o{2, api.Sell, 5, 5})
	p.want(replace(1, 5, 6), "gone 1 2 2 5 5 0 0", "ok 1 2 2 5 6 6 0")
	p.wantOrders(2, "[{1 2 5 6 true}]")
	p.want(replace(1, 50, 5), "gone 1 2 2 5 6 0 0", "ok 1 2 2 50 5 5 0")
	p.wantOrders(2, "[{1 2 50 5 true}]")
}

// TestReplaceTrades: the order is matched as one for the day, from Accepted on (P17.3).
func TestReplaceTrades(t *testing.T) {
	stands := []o{{0, api.Buy, 10, 4}, {0, api.Sell, 15, 3}, {0, api.Sell, 20, 5}}
	p := with(t, product(2), stands...)
	p.want(replace(1, 15, 3), "gone 1 0 1 10 4 0 0", "ok 1 0 1 15 3 3 0", "trade 2 0 2 15 3 0 0", "trade 1 0 1 15 3 0 0")
	p.refuses("P17.3", cancel(1), api.ErrNone)
	p.refuses("P17.1", day(1, 0, api.Buy, 5, 1), api.ErrTaken)
	p = with(t, product(2), stands...)
	p.want(replace(1, 20, 9), "gone 1 0 1 10 4 0 0", "ok 1 0 1 20 9 9 0", "trade 2 0 2 15 3 0 0", "trade 1 0 1 15 3 6 0", "trade 3 0 2 20 5 0 0", "trade 1 0 1 20 5 1 0")
	p.wantOrders(0, "[{1 1 20 1 true}]")
	p.want(replace(1, 20, 1), "less 1 0 1 20 0 1 0")
	p.want(replace(1, -100, 1), "gone 1 0 1 20 1 0 0", "ok 1 0 1 -100 1 1 0")
	p = with(t, product(2), stands...)
	p.want(replace(3, 10, 4), "gone 3 0 2 20 5 0 0", "ok 3 0 2 10 4 4 0", "trade 1 0 1 10 4 0 0", "trade 3 0 2 10 4 0 0")
	// An order that had to trade need not do so when it is replaced, and one of a spread meets implied prices, with its legs.
	p = with(t, product(2), o{2, api.Sell, -5, 2}, o{0, api.Sell, 30, 2}, o{1, api.Buy, 20, 3})
	p.put(atLeast(day(9, 2, api.Buy, -5, 6), 2))
	p.want(replace(9, 0, 6), "gone 9 2 1 -5 4 0 0", "ok 9 2 1 0 6 6 0")
	p.want(replace(9, 10, 6), "gone 9 2 1 0 6 0 0", "ok 9 2 1 10 6 6 0",
		"trade 2 0 2 30 2 0 0", "trade 3 1 1 20 2 1 0", "trade 9 2 1 10 2 4 0", "trade 9 0 1 30 2 4 0", "trade 9 1 2 20 2 4 0")
	p.wantOrders(2, "[{9 1 10 4 true}]")
}

// TestReplaceNearTheBand: a quote beyond the band that is as good as no order is in no way, and one that is as good as one never comes up while that order waits, as what would make it trades (P17.3, P17.5).
func TestReplaceNearTheBand(t *testing.T) {
	p := with(t, product(2), o{0, api.Buy, 195, 4}, o{2, api.Sell, 50, 9}, o{1, api.Sell, 155, 9})
	p.want(replace(1, 200, 5), "gone 1 0 1 195 4 0 0", "ok 1 0 1 200 5 5 0")
	p.want(replace(1, 200, 9), "gone 1 0 1 200 5 0 0", "ok 1 0 1 200 9 9 0")
	// Sell of 0 would be implied at -105, and Buy of 1 is implied at -50 by the order at -100.
	p = with(t, product(2), o{0, api.Buy, -100, 4}, o{2, api.Sell, -50, 3})
	p.want(day(3, 1, api.Sell, -55, 3), "ok 3 1 2 -55 3 3 0",
		"trade 2 2 2 -50 3 0 0", "trade 2 0 2 -100 3 0 0", "trade 2 1 1 -50 3 0 0", "trade 1 0 1 -100 3 1 0", "trade 3 1 2 -50 3 0 0")
	p = with(t, product(2), o{0, api.Buy, -100, 4}, o{2, api.Sell, -50, 3})
	p.put(day(3, 1, api.Sell, -55, 5)) // 2 of them stand, but the spread has gone
	p.want(replace(1, -95, 4), "gone 1 0 1 -100 1 0 0", "ok 1 0 1 -95 4 4 0")
	p = with(t, product(2), o{0, api.Buy, -100, 4}, o{1, api.Sell, -55, 3})
	p.want(day(3, 2, api.Sell, -50, 5), "ok 3 2 2 -50 5 5 0",
		"trade 1 0 1 -100 3 1 0", "trade 2 1 2 -55 3 0 0", "trade 3 2 2 -45 3 2 0", "trade 3 0 2 -100 3 2 0", "trade 3 1 1 -55 3 2 0")
	p.want(replace(1, -100, 9), "gone 1 0 1 -100 1 0 0", "ok 1 0 1 -100 9 9 0")
	// What the order itself would be a leg of: it is judged without it.
	p = with(t, product(2), o{2, api.Sell, -50, 3}, o{1, api.Sell, -55, 3})
	p.refuses("P17.1", day(3, 0, api.Buy, -100, 1), api.ErrBand)
	p.want(replace(2, -50, 3), "gone 2 1 2 -55 3 0 0", "ok 2 1 2 -50 3 3 0")
	p.want(day(3, 0, api.Buy, -100, 1), "ok 3 0 1 -100 1 1 0",
		"trade 1 2 2 -50 1 2 0", "trade 1 0 2 -100 1 2 0", "trade 1 1 1 -50 1 2 0", "trade 2 1 2 -50 1 2 0", "trade 3 0 1 -100 1 0 0")
}

// TestReplaceTellsTheNew: Find, Used and Count behind a Replace, also of an order that is replaced again and again (P17.3, P17.4).
func TestReplaceTellsTheNew(t *testing.T) {
	p := with(t, product(2), o{1, api.Sell, 50, 5}, o{1, api.Sell, 50, 5})
	for i := int64(0); i < 20; i++ {
		price := 55 + i%3*5
		p.put(replace(1, price, 6+i))
		if got, want := fmt.Sprint(p.market.Find(1)), fmt.Sprintf("1 {1 2 %d %d false} true", price, 6+i); got != want {
			t.Errorf("P17.3: %s: Find: %s, want %s", p.last(), got, want)
		}
		if !p.market.Used(1) || p.market.Count() != 2 {
			t.Errorf("P17.3: %s: Used: %t, Count: %d", p.last(), p.market.Used(1), p.market.Count())
		}
		p.check()
	}
}
