package market_test

import (
	"fmt"
	"testing"

	"cornhill/api"
)

// TestPriceRefused: the error of refdata.Price for the instrument and the price (P17.1).
func TestPriceRefused(t *testing.T) {
	for months := 2; months <= api.MaxExp; months++ {
		count := months * (months + 1) / 2
		p := newPair(t, product(months))
		for _, inst := range []int{count, count + 1, 21, 22, 100, 255} {
			if inst >= count {
				p.refuses("P17.1", day(1, inst, api.Buy, 0, 5), api.ErrInst)
				p.refuses("P17.1", day(1, inst, api.Sell, 1, 5), api.ErrInst)
				p.refuses("P17.1", timed(day(1, inst, api.Sell, 2*api.MaxPrice, 5), api.Now), api.ErrInst)
			}
		}
		for inst := range count {
			low, high := int64(-100), int64(200)
			if inst >= months {
				low, high = -50, 50
			}
			for _, side := range sides {
				for i, price := range []int64{1, -1, low - 1, high + 1, 999999} {
					p.refuses("P17.1", timed(day(1, inst, side, price, 5), api.Day+i%3), api.ErrTick)
				}
				for i, price := range []int64{low - 5, high + 5, low - 100, high + 100, 2 * api.MaxPrice, -2 * api.MaxPrice} {
					p.refuses("P17.1", timed(day(1, inst, side, price, 5), api.Day+(i+inst)%3), api.ErrBand)
				}
			}
			p.tells(day(int64(100+2*inst), inst, api.Buy, low, 5), fmt.Sprintf("ok %d %d 1 %d 5 5 0", 100+2*inst, inst, low))
			p.tells(cancel(int64(100+2*inst)), fmt.Sprintf("gone %d %d 1 %d 5 0 0", 100+2*inst, inst, low))
			p.tells(day(int64(101+2*inst), inst, api.Sell, high, 5), fmt.Sprintf("ok %d %d 2 %d 5 5 0", 101+2*inst, inst, high))
			p.tells(cancel(int64(101+2*inst)), fmt.Sprintf("gone %d %d 2 %d 5 0 0", 101+2*inst, inst, high))
		}
		p.check()
	}
}

// TestTaken: an ID that was ever accepted is taken, whatever has become of the order, and one that was refused isn't (P17.1, P17.4).
func TestTaken(t *testing.T) {
	p := newPair(t, product(3))
	taken := func(id int64) {
		t.Helper()
		if !p.market.Used(id) {
			t.Errorf("P17.4: Used(%d): false", id)
		}
		for _, c := range []api.Command{day(id, 0, api.Buy, -50, 5), day(id, 5, api.Sell, 50, 1), timed(day(id, 2, api.Buy, 0, 1), api.Now), timed(day(id, 0, api.Sell, 100, 1), api.Whole)} {
			p.refuses("P17.1", c, api.ErrTaken)
		}
	}
	p.put(day(1, 0, api.Sell, 10, 5))
	taken(1) // it stands
	p.want(day(2, 0, api.Buy, 10, 5), "ok 2 0 1 10 5 5 0", "trade 1 0 2 10 5 0 0", "trade 2 0 1 10 5 0 0")
	taken(1) // it was filled
	taken(2) // it has filled another one
	p.put(day(3, 1, api.Sell, 10, 5))
	p.want(cancel(3), "gone 3 1 2 10 5 0 0")
	taken(3) // it was cancelled
	p.put(day(4, 1, api.Sell, 10, 5))
	p.want(reduce(4, 5), "gone 4 1 2 10 5 0 0")
	taken(4) // it was reduced to nothing
	p.want(timed(day(5, 1, api.Sell, 10, 5), api.Now), "ok 5 1 2 10 5 5 0", "gone 5 1 2 10 5 0 0")
	taken(5) // it was never added
	p.put(day(6, 1, api.Sell, 10, 5))
	p.want(replace(6, 20, 9), "gone 6 1 2 10 5 0 0", "ok 6 1 2 20 9 9 0")
	taken(6) // it stands anew
	p.put(cancel(6))
	taken(6)
	p.put(day(lastID, 1, api.Sell, 10, 5))
	taken(lastID)
	for id := int64(7); id < 10; id++ {
		p.refuses("P17.1", day(id, 0, api.Buy, 1, 5), api.ErrTick)
		p.refuses("P17.1", day(id, 6, api.Buy, 5, 5), api.ErrInst)
		p.refuses("P17.1", day(id, 0, api.Buy, 5, 0), api.ErrQty)
		p.refuses("P17.1", timed(day(id, 0, api.Buy, 5, 5), api.Whole), api.ErrLeast)
		p.refuses("P17.3", cancel(id), api.ErrNone)
		if p.market.Used(id) {
			t.Errorf("P17.4: Used(%d): true, but it was refused", id)
		}
		p.want(day(id, 0, api.Buy, 5, 5), fmt.Sprintf("ok %d 0 1 5 5 5 0", id))
		taken(id)
	}
}

// fill returns a Market with so many orders, of which no two trade: the first one sells 0 at 200, and the others buy it at -100.
func fill(t *testing.T, p api.Product, count int) *pair {
	t.Helper()
	m := newPair(t, p)
	m.put(day(1, 0, api.Sell, 200, 5))
	for id := int64(2); id <= int64(count); id++ {
		m.put(day(id, 0, api.Buy, -100, 1))
	}
	return m
}

// TestFull: with MaxOrders orders none may enter, not even one that would not stay (P17.1).
func TestFull(t *testing.T) {
	p := fill(t, product(2), most-1)
	p.want(day(1000, 1, api.Buy, 5, 5), "ok 1000 1 1 5 5 5 0")
	for _, c := range []api.Command{
		day(1001, 1, api.Buy, 0, 5),
		day(1001, 2, api.Sell, 50, 1),
		day(1001, 0, api.Buy, 200, 5), // it would trade an order away, and none would be left
		timed(day(1001, 0, api.Buy, 200, 5), api.Now),
		timed(day(1001, 0, api.Buy, 200, 1), api.Whole),
		timed(day(1001, 0, api.Sell, -100, largest), api.Now), // it would trade nearly all of them away
		timed(day(1001, 1, api.Sell, 200, 1), api.Now),
	} {
		p.refuses("P17.1", c, api.ErrFull)
	}
	// The other Kinds go on, and so does an order that takes the place of an old one.
	p.want(reduce(1000, 1), "less 1000 1 1 5 1 4 0")
	p.want(replace(1000, 10, 9), "gone 1000 1 1 5 4 0 0", "ok 1000 1 1 10 9 9 0")
	p.want(replace(1000, 10, 10), "gone 1000 1 1 10 9 0 0", "ok 1000 1 1 10 10 10 0")
	p.refuses("P17.1", day(1001, 1, api.Buy, 0, 5), api.ErrFull)
	p.want(cancel(7), "gone 7 0 1 -100 1 0 0")
	p.want(timed(day(1001, 0, api.Sell, -100, 1), api.Whole), "ok 1001 0 2 -100 1 1 0", "trade 2 0 1 -100 1 0 0", "trade 1001 0 2 -100 1 0 0")
	p.want(day(1002, 1, api.Buy, 0, 5), "ok 1002 1 1 0 5 5 0")
	p.want(day(1003, 1, api.Buy, 0, 5), "ok 1003 1 1 0 5 5 0")
	p.refuses("P17.1", day(1004, 1, api.Buy, 0, 5), api.ErrFull)
	// An order that trades and stays makes room for itself, but not if there is none.
	p.refuses("P17.1", day(1004, 0, api.Sell, -100, 2), api.ErrFull)
	p.put(reduce(8, 1))
	p.want(day(1004, 0, api.Sell, -100, 2), "ok 1004 0 2 -100 2 2 0", "trade 3 0 1 -100 1 0 0", "trade 4 0 1 -100 1 0 0", "trade 1004 0 2 -100 2 0 0")
}

// TestLeast: what must trade, must be there at the limit, real or implied (P17.1).
func TestLeast(t *testing.T) {
	// Sell of 0: 3 at 10, 4 implied at 15, 2 at 20.
	stands := []o{{0, api.Sell, 10, 3}, {0, api.Sell, 20, 2}, {1, api.Sell, 10, 4}, {2, api.Sell, 5, 9}}
	for _, c := range []struct{ limit, there int64 }{{5, 0}, {10, 3}, {15, 7}, {20, 9}, {200, 9}} {
		for qty := int64(1); qty <= 12; qty++ {
			asks := []api.Command{timed(day(9, 0, api.Buy, c.limit, qty), api.Whole)}
			for _, time := range []int{api.Day, api.Now, api.Whole} {
				// Whole asks for all of it, whatever Least is.
				asks = append(asks, atLeast(timed(day(9, 0, api.Buy, c.limit, 12), time), qty))
			}
			for _, ask := range asks {
				must := ask.Least
				if ask.Time == api.Whole {
					must = ask.Qty
				}
				p := with(t, product(2), stands...)
				if must > c.there {
					p.refuses("P17.1", ask, api.ErrLeast)
				} else if l := p.do(ask); l[0].Kind != api.Accepted || len(l) < 3 {
					t.Errorf("P17.1: %s: %s", p.last(), texts(l))
				}
			}
			for _, time := range []int{api.Day, api.Now} {
				with(t, product(2), stands...).put(timed(day(9, 0, api.Buy, c.limit, qty), time)) // nothing must
			}
		}
	}
}

// TestLeastAlone: just enough, one too few, and enough by an implied price alone, on both sides (P17.1).
func TestLeastAlone(t *testing.T) {
	p := with(t, product(3), o{1, api.Buy, 40, 3}, o{5, api.Buy, -5, 2})
	p.refuses("P17.1", timed(day(9, 1, api.Sell, 40, 4), api.Whole), api.ErrLeast)
	p.refuses("P17.1", timed(day(9, 1, api.Sell, 45, 3), api.Whole), api.ErrLeast)
	p.refuses("P17.1", atLeast(day(9, 1, api.Sell, 45, 3), 1), api.ErrLeast)
	p.refuses("P17.1", timed(day(9, 0, api.Sell, -100, 1), api.Whole), api.ErrLeast)
	p.refuses("P17.1", atLeast(day(9, 1, api.Sell, 40, 9), 4), api.ErrLeast)
	// Buy of 2 is not implied by Buy of both, nor is Sell of it.
	p.refuses("P17.1", timed(day(9, 2, api.Sell, -100, 1), api.Whole), api.ErrLeast)
	p.refuses("P17.1", timed(day(9, 2, api.Buy, 200, 1), api.Whole), api.ErrLeast)
	// Buy of 1 is implied by Buy of 5 and of 2, for 2 at 30.
	p.put(day(4, 2, api.Buy, 35, 7))
	p.refuses("P17.1", atLeast(day(9, 1, api.Sell, 35, 9), 4), api.ErrLeast)
	p.refuses("P17.1", atLeast(day(9, 1, api.Sell, 30, 9), 6), api.ErrLeast)
	p.refuses("P17.1", timed(day(9, 1, api.Sell, 30, 6), api.Whole), api.ErrLeast)
	p.want(timed(day(9, 1, api.Sell, 30, 5), api.Whole), "ok 9 1 2 30 5 5 0",
		"trade 1 1 1 40 3 0 0", "trade 9 1 2 40 3 2 0",
		"trade 2 5 1 -5 2 0 0", "trade 2 1 1 30 2 0 0", "trade 2 2 2 35 2 0 0", "trade 4 2 1 35 2 5 0", "trade 9 1 2 30 2 0 0")
	p = with(t, product(3), o{5, api.Buy, -5, 2}, o{2, api.Buy, 35, 7})
	p.refuses("P17.1", atLeast(timed(day(9, 1, api.Sell, 30, 9), api.Now), 3), api.ErrLeast)
	p.want(atLeast(timed(day(9, 1, api.Sell, 30, 9), api.Now), 2), "ok 9 1 2 30 9 9 0",
		"trade 1 5 1 -5 2 0 0", "trade 1 1 1 30 2 0 0", "trade 1 2 2 35 2 0 0", "trade 2 2 1 35 2 5 0", "trade 9 1 2 30 2 7 0",
		"gone 9 1 2 30 7 0 0")
}

// TestFirstRefusal: of several reasons the first one is told, for each set of them (P17.1).
func TestFirstRefusal(t *testing.T) {
	for _, price := range []struct {
		inst  int
		price int64
		err   api.Errno
	}{{6, 0, api.ErrInst}, {0, 1, api.ErrTick}, {0, 205, api.ErrBand}} {
		for reasons := range 1 << 5 {
			has := func(reason int) bool { return reasons>>reason&1 == 1 }
			// Sell of 0 is implied at -150, beyond its band. That of 1 isn't.
			p := with(t, product(3), o{1, api.Sell, -100, 5}, o{3, api.Sell, -50, 5})
			if has(2) {
				for id := int64(11); p.market.Count() < most; id++ {
					p.put(day(id, 5, api.Buy, -50, 1))
				}
			}
			c, want := day(300, 2, api.Buy, 0, 5), api.OK
			if has(4) {
				c.Inst, want = 0, api.ErrBand
			}
			if has(3) {
				c.Least, want = 1, api.ErrLeast
			}
			if has(2) {
				want = api.ErrFull
			}
			if has(1) {
				c.ID, want = 1, api.ErrTaken
			}
			if has(0) {
				c.Inst, c.Price, want = price.inst, price.price, price.err
			}
			if want == api.OK {
				p.want(c, "ok 300 2 1 0 5 5 0")
			} else {
				p.refuses("P17.1", c, want)
			}
		}
	}
}
