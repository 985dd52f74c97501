package gate_test

import (
	"fmt"
	"slices"
	"testing"

	"cornhill/api"
	"cornhill/book"
	"cornhill/market"
	"cornhill/refdata"
)

// apart are prices of Buy and of Sell for the instrument at which no orders meet, real or implied.
func apart(months, inst, side int) int64 {
	at := map[int]int64{api.Buy: 0, api.Sell: 40}[side]
	if inst >= months {
		at -= 20
	}
	return at
}

// mess gives orders of each instrument and side, of many sessions, which do not meet: several levels, and several orders on a level. The IDs are those from 1 on, four for each side.
func (p *pair) mess(months int) {
	p.t.Helper()
	id := int64(0)
	for inst := range months * (months + 1) / 2 {
		for _, side := range sides {
			by := map[int]int64{api.Buy: -5, api.Sell: 5}[side]
			for i := range int64(4) {
				id++
				p.put(int(id)%sessions, day(id, inst, side, apart(months, inst, side)+i/2*by, i+2))
			}
		}
	}
}

// TestMarketIsACopy: what is done to it does not touch the Gate or another copy, and what is done to the Gate does not touch it (P18.1).
func TestMarketIsACopy(t *testing.T) {
	for _, months := range []int{2, 3, 6} {
		p := newPair(t, ruled(months, api.Mixed))
		p.mess(months)
		before := p.sight()
		one, other := p.gate.Market(), p.gate.Market()
		for inst := range refdata.Count(p.model.p) {
			one.Do(timed(day(int64(5000+2*inst), inst, api.Buy, 50, 7), api.Now))
			one.Do(day(int64(5001+2*inst), inst, api.Sell, 50, 7))
			one.Do(cancel(int64(8*inst + 2)))
			one.Do(replace(int64(8*inst+3), -10, 7))
		}
		p.unchanged(before)
		if viewOf(one.State(), p.model.p).same(before.market) || !viewOf(other.State(), p.model.p).same(before.market) || other.Used(5000) {
			t.Fatalf("P18.1: %d months: a copy is not independent", months)
		}
		p.check()
		for i := range int64(20) {
			p.ask(int(i*i+1)%sessions, cancel(i*i+1))
			p.ask(3, timed(day(1000+i, int(i%3), sides[i%2], 50, 3), api.Now))
			p.ask(4, day(2000+i, int(i%3), sides[i%2], 0, 3))
		}
		if !viewOf(other.State(), p.model.p).same(before.market) || other.Used(1000) || other.Used(2000) {
			t.Fatalf("P18.1: %d months: a copy follows the Gate", months)
		}
		p.check()
		p.then()
	}
}

// TestMarketOfAnother: the IDs that a copy has used are nothing to the Gate, and no session owns them (P18.1).
func TestMarketOfAnother(t *testing.T) {
	p := newPair(t, product(2))
	p.put(2, day(1, 0, api.Buy, 0, 5))
	m := p.gate.Market()
	m.Do(day(7, 0, api.Sell, 0, 5))
	m.Do(day(8, 0, api.Sell, 0, 5))
	if session, ok := p.gate.Owner(7); session != 0 || ok || p.gate.Open(2) != 1 || p.gate.Open(0) != 0 {
		t.Errorf("P18.1: Owner(7): %d, %t", session, ok)
	}
	p.refuses(0, cancel(8), api.ErrNone)
	p.want(6, day(7, 0, api.Sell, 0, 5), "6: ok 7 0 2 0 5 5 0", "2: trade 1 0 1 0 5 0 0", "6: trade 7 0 2 0 5 0 0")
	if m.Find(1); m.Count() != 1 {
		t.Errorf("P18.1: the copy has %d orders", m.Count())
	}
}

// TestMarketHasTheIDs: a copy knows each ID that was accepted, whether the order waits or has gone in whichever way, and no other one (P18.1).
func TestMarketHasTheIDs(t *testing.T) {
	p := newPair(t, product(3))
	p.put(0, day(1, 0, api.Buy, 0, 5))
	p.put(1, day(2, 0, api.Sell, 0, 2))
	p.put(1, timed(day(3, 0, api.Sell, 200, 2), api.Now))
	p.put(7, day(lastID, 5, api.Sell, 20, 2))
	p.put(7, cancel(lastID))
	p.put(6, day(4, 1, api.Sell, 200, largest))
	p.put(6, reduce(4, largest))
	p.refuses(0, day(5, 0, api.Buy, 1, 5), api.ErrTick)
	p.refuses(0, day(1, 0, api.Buy, 0, 5), api.ErrTaken)
	p.check()
	m := p.gate.Market()
	for _, id := range []int64{1, 2, 3, 4, lastID} {
		if got := m.Do(timed(day(id, 2, api.Buy, 0, 1), api.Now)); !m.Used(id) || !slices.Equal(got, []api.Report{{Kind: api.Rejected, ID: id, Why: api.ErrTaken}}) {
			t.Errorf("P18.1: Market: the ID %d is free: %v", id, got)
		}
	}
	for _, id := range []int64{0, -1, 5, 6, 1 << 32, 257, lastID - 1, lastID + 1} {
		if m.Used(id) {
			t.Errorf("P18.1: Market: the ID %d is taken", id)
		}
	}
	// Many that have gone, of each instrument.
	for i := range int64(400) {
		p.put(int(i%sessions), timed(day(1000+i, int(i%6), sides[i%2], 50, 1), api.Now))
	}
	p.check()
	m = p.gate.Market()
	for id := int64(990); id < 1410; id++ {
		if m.Used(id) != (id >= 1000 && id < 1400) {
			t.Fatalf("P18.1: Market: Used(%d): %t", id, m.Used(id))
		}
	}
}

// topsOf returns the number of the top orders.
func topsOf(p api.Product, m *market.Market) int {
	n, s := 0, m.State()
	for inst := range refdata.Count(p) {
		for _, o := range s.Orders(inst) {
			if o.Top {
				n++
			}
		}
	}
	return n
}

// TestMarketHasTheTops: a copy has the top orders of the sides that have one, and none of the others, whether the top order has gone or was replaced (P18.1).
func TestMarketHasTheTops(t *testing.T) {
	for _, months := range []int{2, 4} {
		for _, replaced := range []bool{false, true} {
			for way := range 4 {
				p := newPair(t, ruled(months, api.Share))
				p.mess(months)
				for inst := range refdata.Count(p.model.p) {
					for i, side := range sides {
						id := int64(8*inst + 4*i + 1)
						if way>>i&1 == 0 {
							continue
						}
						c := cancel(id)
						if replaced {
							// At its price and behind the other one, or behind all others.
							c = replace(id, apart(months, inst, side)+[]int64{0, 5, 10}[inst%3]*int64(2*i-1), 7)
						}
						p.put(int(id)%sessions, c)
					}
				}
				if got, want := topsOf(p.model.p, p.gate.Market()), refdata.Count(p.model.p)*[]int{2, 1, 1, 0}[way]; got != want {
					t.Errorf("P18.1: %d months: Market: %d top orders, want %d", months, got, want)
				}
				p.check()
				p.then()
			}
		}
	}
}

// TestMarketOfOneSide: each row of four orders for one side with up to three prices, of which the top one goes or is replaced, and then the others go one by one (P18.1).
func TestMarketOfOneSide(t *testing.T) {
	for n := range int64(3 * 3 * 3 * 3 * 2 * 3) {
		side, way, by := sides[n%2], n/2%3, int64(-5)
		if side == api.Sell {
			by = 5
		}
		p := newPair(t, ruled(2, api.Share))
		for i, at := range []int64{n / 6 % 3, n / 18 % 3, n / 54 % 3, n / 162 % 3} {
			p.put(i, day(int64(i+1), 2, side, at*by, 1+n>>i%2*2))
		}
		for _, order := range p.gate.Market().State().Orders(2) {
			owner, _ := p.gate.Owner(order.ID)
			switch {
			case !order.Top:
			case way == 0:
				p.put(owner, cancel(order.ID))
			case way == 1: // to the end of its queue
				p.put(owner, replace(order.ID, order.Price, order.Qty+1))
			default: // to the end of another one
				p.put(owner, replace(order.ID, 2*by, 1))
			}
		}
		p.check()
		p.then()
		for i := range 4 {
			p.ask(i, cancel(int64(i+1)))
			p.check()
		}
	}
}

// TestMarketOfLoneOrders: each instrument and side has one order, which is not the top one, since that has gone (P18.1).
func TestMarketOfLoneOrders(t *testing.T) {
	for _, months := range []int{2, 3, 6} {
		p := newPair(t, ruled(months, api.Share))
		p.lone(months)
		p.then()
		if n := topsOf(p.model.p, p.gate.Market()); n != 0 {
			t.Errorf("P18.1: %d months: Market: %d top orders", months, n)
		}
		// Others come behind them, until there is no more room for the sessions.
		id := int64(1000)
		for i := range room - p.gate.Market().Count() {
			id++
			inst, side := i%(months*(months+1)/2), sides[i%2]
			p.put(i%sessions, day(id, inst, side, apart(months, inst, side), 5))
		}
		p.refuses(0, day(9000, 0, api.Buy, 0, 1), api.ErrFull)
		p.check()
		p.then()
		if n := topsOf(p.model.p, p.gate.Market()); n != 0 {
			t.Errorf("P18.1: %d months: Market: %d top orders", months, n)
		}
	}
}

// lone gives each side an order that is alone and not the top one.
func (p *pair) lone(months int) {
	p.t.Helper()
	id := int64(0)
	for inst := range months * (months + 1) / 2 {
		for _, side := range sides {
			id += 2
			price := apart(months, inst, side)
			p.put(int(id)%sessions, day(id, inst, side, price, 3))
			p.put(int(id)%sessions, day(id-1, inst, side, price, 4))
			p.put(int(id)%sessions, cancel(id))
		}
	}
	p.check()
}

// TestMarketThatIsFull: a copy of a market in which no room is left, and each side has orders none of which is the top one (P18.1).
func TestMarketThatIsFull(t *testing.T) {
	for _, months := range []int{2, 4} {
		for _, qty := range []int64{1, 2, largest} {
			p := newPair(t, ruled(months, api.Share))
			var firsts []int64
			for id := int64(1); id <= room; id++ {
				inst, side := int(id-1)/2%(months*(months+1)/2), sides[id%2]
				p.put(int(id)%sessions, day(id, inst, side, apart(months, inst, side), qty))
				if !slices.ContainsFunc(firsts, func(first int64) bool { return same(p, first, id) }) {
					firsts = append(firsts, id)
				}
			}
			for _, id := range firsts {
				// They go behind the others of their side, or to the best place and back again.
				_, o, _ := p.model.market.Find(id)
				if o.Qty == largest {
					p.put(int(id)%sessions, reduce(id, 1))
				}
				p.put(int(id)%sessions, replace(id, o.Price, min(o.Qty+1, largest)))
			}
			if n := topsOf(p.model.p, p.gate.Market()); n != 0 {
				t.Errorf("P18.1: %d months: Market: %d top orders", months, n)
			}
			p.check()
			p.then()
			if err := p.gate.Market().Do(day(9000, 0, api.Buy, 0, 1)); fmt.Sprint(err) != fmt.Sprint([]api.Report{{Kind: api.Rejected, ID: 9000, Why: api.ErrFull}}) {
				t.Errorf("P18.1: Market: %v", err)
			}
		}
	}
}

// same reports whether two orders are of one side of an instrument.
func same(p *pair, one, other int64) bool {
	inst, a, _ := p.model.market.Find(one)
	otherInst, b, _ := p.model.market.Find(other)
	return inst == otherInst && a.Side == b.Side
}

// TestMarketAtTheEnds: the ends of prices, quantities and IDs, in products whose band lies above 0, below it and at the ends of the prices (P18.1).
func TestMarketAtTheEnds(t *testing.T) {
	for _, band := range []struct{ low, high, wide, tick int64 }{
		{-api.MaxPrice, api.MaxPrice, 2 * api.MaxPrice, 1000}, {7, 14, 0, 7}, {-14, -7, 7, 7}, {api.MaxPrice - 1, api.MaxPrice, 1, 1}, {0, 1000, 1000, 1000},
	} {
		given := ruled(2, api.Share)
		given.Low, given.High, given.Wide, given.Tick, given.Settle = band.low, band.high, band.wide, band.tick, []int64{band.low, band.high}
		p := newPair(t, given)
		p.put(0, day(1, 0, api.Buy, band.low, largest))
		p.put(1, day(lastID, 0, api.Buy, band.low, largest))
		p.put(2, day(2, 0, api.Sell, band.high, largest))
		p.put(2, day(3, 0, api.Sell, band.high, largest))
		p.put(3, day(4, 1, api.Buy, band.low, 1))
		p.put(3, timed(day(5, 1, api.Buy, band.low, 1), api.Now))
		p.put(4, day(6, 2, api.Sell, band.wide, 1))
		p.check()
		p.then()
		p.put(0, cancel(1))
		p.put(2, reduce(2, 1))
		p.put(2, replace(2, band.high, largest))
		p.put(3, cancel(4))
		p.check()
		p.then()
		for _, order := range p.gate.Market().State().Orders(0) {
			if order.Top {
				t.Errorf("P18.1: Market: a top order has come up: %v", order)
			}
		}
	}
}

// TestMarketKeepsTheQueues: the orders of a copy come in the order in which they wait, not in that of their IDs or of their coming (P18.1).
func TestMarketKeepsTheQueues(t *testing.T) {
	p := newPair(t, product(2))
	for _, id := range []int64{30, 10, 40, 20} {
		p.put(int(id/10), day(id, 0, api.Buy, 10, 5))
	}
	p.put(1, replace(10, 10, 6))
	p.put(2, day(5, 0, api.Buy, 15, 1))
	var got []int64
	for _, o := range p.gate.Market().State().Orders(0) {
		got = append(got, o.ID)
	}
	if !slices.Equal(got, []int64{5, 30, 40, 20, 10}) {
		t.Errorf("P18.1: Market: the orders %v", got)
	}
	if got, want := p.gate.Market().State().Orders(0)[0], (book.Order{ID: 5, Side: api.Buy, Price: 15, Qty: 1, Top: true}); got != want {
		t.Errorf("P18.1: Market: %v, want %v", got, want)
	}
	p.check()
	p.then()
}
