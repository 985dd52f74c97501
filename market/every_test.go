package market_test

import (
	"testing"

	"cornhill/api"
	"cornhill/refdata"
)

// tiny is a product with two months in which few prices may be: 0, 5, 10 of months and -5, 0, 5 of the spread.
func tiny() api.Product {
	p := product(2)
	p.Low, p.High, p.Wide, p.Settle = 0, 10, 5, []int64{0, 5}
	return p
}

// tinyOrders are all orders of 1 or 2 that tiny may have.
func tinyOrders() []o {
	var l []o
	for n := range int64(3 * 2 * 3 * 2) {
		order := o{int(n % 3), sides[n/3%2], n / 6 % 3 * 5, n/18 + 1}
		if order.inst == 2 {
			order.price -= 5
		}
		l = append(l, order)
	}
	return l
}

// TestEveryThreeOrders: each row of two small orders, and behind it one that differs from row to row, for each time, and then each way to change one of them (P17.1, P17.2, P17.3, P17.5).
func TestEveryThreeOrders(t *testing.T) {
	all := tinyOrders()
	for n, first := range all {
		for m, second := range all {
			p := newPair(t, tiny())
			p.do(day(1, first.inst, first.side, first.price, first.qty))
			p.do(day(2, second.inst, second.side, second.price, second.qty))
			third := all[(n+7*m)%len(all)]
			p.do(atLeast(timed(day(3, third.inst, third.side, third.price, third.qty+1), api.Day+(n+m)%3), int64(n/3%2)))
			p.do(day(4, third.inst, third.side, third.price, 3))
			p.do(replace(int64(n%2+1), int64(m%4)*5-5, int64(m%3+1)))
			p.do(day(5, (third.inst+1)%3, third.side, third.price, 2))
			p.do([]api.Command{cancel(1), reduce(1, 1), reduce(4, 2), cancel(2)}[(n+m)%4])
			p.do(replace(4, third.price, int64(n%3+1)))
			p.check()
		}
	}
}

// products are of each number of months and each rule, with several terms, and bands that quotes leave now and then, for which there is little room.
func products() []api.Product {
	var l []api.Product
	for months := 2; months <= api.MaxExp; months++ {
		for _, rule := range rules {
			for i := range int64(3) {
				p := ruled(months, rule)
				p.Top, p.Least, p.Part = 3*i, i+1, 45*i
				switch i {
				case 1:
					p.Low, p.High, p.Wide, p.Settle = 0, 40, 10, []int64{0, 10, 20, 40, 35, 5}[:months:months]
				case 2:
					p.Low, p.High, p.Wide, p.Settle = 0, 15, 5, []int64{0, 10, 15, 15, 5, 5}[:months:months]
				}
				l = append(l, p)
			}
		}
	}
	return l
}

// drawer draws commands for a product by a rule.
type drawer struct {
	chance
	p    api.Product
	next int64
}

// draw returns a command: more often one that is right than one that isn't.
func (d *drawer) draw() api.Command {
	switch n := d.below(20); {
	case n < 12:
		d.next++
		return d.drawNew(d.next)
	case n < 13:
		return d.drawNew(d.old()) // mostly one that is taken
	case n < 14:
		return cancel(d.old())
	case n < 16:
		return reduce(d.old(), 1+d.below(6))
	case n < 19:
		return replace(d.old(), d.price(int(d.below(int64(refdata.Count(d.p)))), 0), 1+d.below(9))
	}
	return d.drawWrong()
}

// drawWrong returns a command that mostly has a fault.
func (d *drawer) drawWrong() api.Command {
	d.next++
	c := d.drawNew(d.next)
	switch d.below(7) {
	case 0:
		c.Kind = int(d.of(0, 5))
	case 1:
		c.Kind = int(d.of(api.Cancel, api.Reduce, api.Replace))
	case 2:
		c.Qty = d.of(0, largest, largest+1)
	case 3:
		c.Price += d.of(1, -1, 300, 3000000)
	case 4:
		c.Inst += int(d.of(-30, 30, 300))
	case 5:
		c.Time = int(d.of(0, 4))
	case 6:
		c.ID = d.of(0, lastID+1)
	}
	return c
}

// old is an ID, more often than not one of the newest.
func (d *drawer) old() int64 {
	return max(0, d.next-d.below(1+d.of(5, 15, d.next)))
}

// drawNew returns a command of Kind New.
func (d *drawer) drawNew(id int64) api.Command {
	inst, side := int(d.below(int64(refdata.Count(d.p)))), sides[d.below(2)]
	c := day(id, inst, side, d.price(inst, side), d.of(1, 2, 3, 5, 9, 9, 30))
	if d.below(10) == 0 {
		c.Least = d.below(c.Qty + 1)
	}
	if d.below(5) == 0 {
		c.Time = int(d.of(api.Now, api.Whole))
	}
	return c
}

// price is one that the instrument may have, near the middle of the band, or somewhat towards the end where an order of the side does not trade.
func (d *drawer) price(inst, side int) int64 {
	low, high, middle := d.p.Low, d.p.High, min(15, d.p.High/10*5)
	if inst >= len(d.p.Months) {
		low, high, middle = -d.p.Wide, d.p.Wide, 0
	}
	price := middle + d.of(-15, -10, -5, -5, 0, 0, 0, 5, 5, 10, 15)
	switch side {
	case api.Buy:
		price -= 5
	case api.Sell:
		price += 5
	}
	return max(low, min(high, price))
}

// seen counts what became of the drawn commands, so that a row in which nothing happens is found out.
type seen struct {
	why                                [50]int
	kinds                              [6]int
	implied, spreads, beyond, replaced int
}

// count counts the reports of a command.
func (s *seen) count(p api.Product, c api.Command, l []api.Report) {
	s.why[l[0].Why]++
	if l[0].Why == api.ErrBand && c.Kind == api.New && refdata.Price(p, c.Inst, c.Price) == api.OK {
		s.beyond++
	}
	if c.Kind == api.Replace && len(l) > 2 {
		s.replaced++
	}
	for i, r := range l {
		s.kinds[r.Kind]++
		if r.Kind != api.Traded {
			continue
		}
		if r.Inst >= len(p.Months) {
			s.spreads++
		}
		if i > 0 && l[i-1].Kind == api.Traded && l[i-1].ID != r.ID && l[i-1].Inst != r.Inst {
			s.implied++
		}
	}
}

// TestCommandsByARule: long rows of commands, and behind each of them no book is crossed, and no implied quote is as good as an order of the other side (P17.1, P17.2, P17.3, P17.5).
func TestCommandsByARule(t *testing.T) {
	var s seen
	for i, given := range products() {
		p, d := newPair(t, given), drawer{chance: chance(i), p: given}
		for n := range 120 {
			c := d.draw()
			l := p.do(c)
			s.count(given, c, l)
			if err := crossed(given, p.model.state); err != "" {
				t.Fatalf("P17.5: %s: %s", p.last(), err)
			}
			if n%12 == 0 {
				p.check()
			}
		}
		p.check()
		sameThen(t, p.last(), given, p.market.State(), p.model.copy())
	}
	for err := range api.ErrOld {
		switch err {
		case api.OK, api.ErrArg, api.ErrInst, api.ErrTick, api.ErrBand, api.ErrQty, api.ErrTaken, api.ErrNone, api.ErrTime, api.ErrLeast, api.ErrKind:
			if s.why[err] < 10 {
				t.Errorf("only %d reports have the error %d", s.why[err], int(err))
			}
		}
	}
	for kind := api.Accepted; kind <= api.Reduced; kind++ {
		if s.kinds[kind] < 100 {
			t.Errorf("only %d reports are of the Kind %d", s.kinds[kind], kind)
		}
	}
	if s.implied < 100 || s.spreads < 100 || s.replaced < 50 {
		t.Errorf("too little has happened: %+v", s)
	}
}

// TestFewOrdersByARule: markets of a few orders for two months and their spread near the ends of the band, most of one side, so that quotes often lie beyond it (P17.1, P17.3, P17.5).
func TestFewOrdersByARule(t *testing.T) {
	var s seen
	d := drawer{chance: 5}
	for _, given := range products()[:18] { // those of two and of three months
		d.p = given
		for range 50 {
			p, most := newPair(t, given), sides[d.below(2)]
			spread := len(given.Months) + int(d.below(int64(refdata.Count(given)-len(given.Months))))
			near, far, _ := refdata.Legs(given, spread)
			for id := range int64(8) {
				inst, side, low, high := []int{near, far, spread}[d.below(3)], most, given.Low, given.High
				if inst == spread {
					low, high = -given.Wide, given.Wide
				}
				if d.below(4) == 0 {
					side = otherOf(most)
				}
				c := day(id+1, inst, side, d.of(low, low, low+given.Tick, high, high, high-given.Tick, 5), 1+d.below(4))
				s.count(given, c, p.do(c))
				p.do(replace(d.below(id+2), c.Price, 1+d.below(4)))
			}
			p.check()
		}
	}
	if s.beyond < 50 {
		t.Errorf("only %d orders would meet a quote beyond the band", s.beyond)
	}
}

// TestFullMarketsByARule: rows of commands for markets that are full or nearly so (P17.1, P17.3, P17.5).
func TestFullMarketsByARule(t *testing.T) {
	for i, months := range []int{2, 3} {
		given := ruled(months, rules[i])
		p, d := fill(t, given, most-1), drawer{chance: chance(i), p: given, next: most}
		full := 0
		for range 150 {
			l := p.do(d.draw())
			if l[0].Why == api.ErrFull {
				full++
			}
		}
		p.check()
		if full < 10 {
			t.Errorf("only %d orders found no room", full)
		}
	}
}
