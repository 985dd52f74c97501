package market_test

import (
	"fmt"
	"slices"
	"testing"

	"cornhill/api"
	"cornhill/book"
	"cornhill/match"
	"cornhill/refdata"
)

// mess returns orders of each instrument and side that do not meet, with several levels and several orders on a level.
func mess(months int) []o {
	var l []o
	for inst := range months * (months + 1) / 2 {
		for _, side := range sides {
			by, at := int64(-5), int64(0)
			if side == api.Sell {
				by, at = 5, 40
			}
			if inst >= months {
				at -= 20
			}
			for i := range int64(4) {
				l = append(l, o{inst, side, at + i/2*by, i + 2})
			}
		}
	}
	return l
}

// TestStateIsACopy: what is done to it does not touch the Market or another copy, and what is done to the Market does not touch it (P17.4).
func TestStateIsACopy(t *testing.T) {
	for _, months := range []int{2, 3, 6} {
		p := with(t, ruled(months, api.Mixed), mess(months)...)
		before := viewOf(p.market.State(), p.model.p)
		one, other := p.market.State(), p.market.State()
		for inst := range refdata.Count(p.model.p) {
			one.Run(inst, api.Buy, 200, 7)
			one.Run(inst, api.Sell, -100, 5)
			one.Add(inst, int64(5000+inst), api.Buy, 10, 5)
			one.Take(int64(8*inst+1), 1)
		}
		if viewOf(one, p.model.p).same(before) || !viewOf(other, p.model.p).same(before) || !viewOf(p.market.State(), p.model.p).same(before) {
			t.Fatalf("P17.4: %d months: a copy is not independent", months)
		}
		p.check()
		for i := range int64(20) {
			p.do(cancel(i*i + 1))
			p.do(timed(day(1000+i, int(i%3), sides[i%2], 50, 3), api.Now))
			p.do(day(2000+i, int(i%3), sides[i%2], 0, 3))
		}
		if !viewOf(other, p.model.p).same(before) {
			t.Fatalf("P17.4: %d months: a copy follows the Market", months)
		}
		p.check()
	}
}

// sameThen asks whether two States tell the same, now and through calls that tell what can't be seen: which order is the top one, and who came first.
func sameThen(t *testing.T, why string, p api.Product, one, other *match.State) {
	t.Helper()
	for i := range 3 {
		if a, b := viewOf(one, p), viewOf(other, p); !a.same(b) {
			t.Fatalf("P17.4: %s: %v, want %v", why, a, b)
		}
		for inst := range refdata.Count(p) {
			for _, side := range sides {
				id := int64(9000 + 100*i + 2*inst + side)
				one.Add(inst, id, side, int64(5*i), 4)
				other.Add(inst, id, side, int64(5*i), 4)
				limit := map[int]int64{api.Buy: 200, api.Sell: -100}[side]
				a, b := fmt.Sprint(one.Run(inst, side, limit, 5)), fmt.Sprint(other.Run(inst, side, limit, 5))
				if a != b {
					t.Fatalf("P17.4: %s: Run: %s, want %s", why, a, b)
				}
			}
		}
	}
}

// TestStateHasTheTops: a copy has the top orders of the sides that have one, and none of the others (P17.4).
func TestStateHasTheTops(t *testing.T) {
	for _, months := range []int{2, 3, 5} {
		for way := range 4 {
			p := with(t, ruled(months, api.Share), mess(months)...)
			for i := range p.market.Count() / 8 {
				// The top order of Buy goes, that of Sell, both, or none. The first one of each eight is that of Buy.
				if way&1 == 1 {
					p.put(cancel(int64(8*i + 1)))
				}
				if way&2 == 2 {
					p.put(cancel(int64(8*i + 5)))
				}
			}
			tops := 0
			for inst := range refdata.Count(p.model.p) {
				for _, order := range p.market.State().Orders(inst) {
					if order.Top {
						tops++
					}
				}
			}
			if want := refdata.Count(p.model.p) * []int{2, 1, 1, 0}[way]; tops != want {
				t.Errorf("P17.4: %d months: %d orders are on top, want %d", months, tops, want)
			}
			p.check()
			sameThen(t, fmt.Sprint(months, " months, way ", way), p.model.p, p.market.State(), p.model.copy())
		}
	}
}

// TestStateOfAFullMarket: a copy has room for MaxOrders orders, also where sides have no top order and where a side has one order alone (P17.4).
func TestStateOfAFullMarket(t *testing.T) {
	p := newPair(t, ruled(6, api.Share))
	id := int64(0)
	for inst := range refdata.Count(p.model.p) {
		for _, side := range sides {
			// Two orders a side, of which the top one goes. Buy and Sell are as far apart as may be.
			id += 2
			price := map[int]int64{api.Buy: -50, api.Sell: 50}[side]
			if inst < 6 {
				price = map[int]int64{api.Buy: -100, api.Sell: 200}[side]
			}
			p.put(day(id-1, inst, side, price, 5))
			p.put(day(id, inst, side, price, 6))
			p.put(cancel(id - 1))
		}
	}
	p.check()
	for p.market.Count() < most {
		id++
		p.put(day(id, 0, api.Buy, -100, 7))
	}
	p.check()
	s := p.market.State()
	if s.Count() != most {
		t.Fatalf("P17.4: %d orders, want %d", s.Count(), most)
	}
	for inst := range refdata.Count(p.model.p) {
		if slices.ContainsFunc(s.Orders(inst), func(o book.Order) bool { return o.Top }) {
			t.Errorf("P17.4: a top order has come up: %v", s.Orders(inst))
		}
	}
	if err := s.Add(0, id+1, api.Buy, 0, 1); err != api.ErrFull {
		t.Errorf("P17.4: Add: %d, want %d", int(err), int(api.ErrFull))
	}
	sameThen(t, "a full market", p.model.p, s, p.model.copy())
}

// TestFindAndCount: just what match.State tells (P17.4).
func TestFindAndCount(t *testing.T) {
	p := with(t, product(3), mess(3)...)
	for i := range int64(60) {
		p.do(reduce(i, i%4))
		p.do(timed(day(1000+i, int(i%6), sides[i%2], 40, 3), api.Now))
		s := p.market.State()
		if p.market.Count() != s.Count() {
			t.Fatalf("P17.4: %s: Count: %d, want %d", p.last(), p.market.Count(), s.Count())
		}
		for id := int64(-2); id < 60; id++ {
			if got, want := fmt.Sprint(p.market.Find(id)), fmt.Sprint(s.Find(id)); got != want {
				t.Fatalf("P17.4: %s: Find(%d): %s, want %s", p.last(), id, got, want)
			}
		}
	}
}

// TestUsed: IDs that were accepted, refused, and never seen (P17.4).
func TestUsed(t *testing.T) {
	p := newPair(t, product(2))
	used := func(id int64, want bool) {
		t.Helper()
		if got := p.market.Used(id); got != want {
			t.Errorf("P17.4: %s: Used(%d): %t", p.last(), id, got)
		}
	}
	for _, id := range []int64{0, 1, 7, lastID, lastID + 1, -1, lowest, highest} {
		used(id, false)
	}
	p.do(day(0, 0, api.Buy, 5, 1))
	p.do(day(-1, 0, api.Buy, 5, 1))
	p.do(day(lastID+1, 0, api.Buy, 5, 1))
	p.do(day(7, 0, api.Buy, 1, 1))
	p.do(cancel(8))
	p.do(reduce(8, 1))
	p.do(replace(8, 5, 1))
	p.put(day(lastID, 0, api.Buy, 5, 1))
	p.put(day(1, 0, api.Buy, 5, 1))
	for _, id := range []int64{0, -1, lastID + 1, 7, 8, lowest, highest, 1 << 32, 1<<32 + 1, 257} {
		used(id, false)
	}
	used(1, true)
	used(lastID, true)
	p.put(cancel(1))
	used(1, true)
	for id := int64(10); id < 3000; id++ {
		p.put(timed(day(id, 0, api.Sell, 200, 1), api.Now))
	}
	for id := int64(8); id < 3010; id++ {
		used(id, id >= 10 && id < 3000)
	}
}
