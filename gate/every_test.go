package gate_test

import (
	"testing"

	"cornhill/api"
	"cornhill/gate"
	"cornhill/refdata"
)

// drawer draws commands and bytes of sessions by a rule.
type drawer struct {
	chance
	p    api.Product
	next int64
	// few is how many sessions ask.
	few int64
}

// session is one that there is, or now and then one that there isn't.
func (d *drawer) session() int {
	if d.below(40) == 0 {
		return int(d.of(-1, sessions, sessions+1, highest, lowest))
	}
	return int(d.below(d.few))
}

// draw returns a session and a command: mostly one that the session may give.
func (d *drawer) draw(m *model) (int, api.Command) {
	session := d.session()
	n := d.below(20)
	if n < 11 {
		d.next++
		return session, d.drawNew(d.next)
	}
	id := d.below(d.next + 3)
	if len(m.owned) > 0 && d.below(8) > 0 {
		// One of the newest, and mostly the session that owns it.
		o := m.owned[int64(len(m.owned))-1-d.below(min(int64(len(m.owned)), d.of(8, 20, 400)))]
		id = o.id
		if d.below(5) > 0 {
			session = o.session
		}
	}
	switch {
	case n < 12:
		return session, d.drawNew(id)
	case n < 14:
		return session, cancel(id)
	case n < 16:
		return session, reduce(id, d.below(7))
	}
	return session, replace(id, d.price(int(d.below(int64(refdata.Count(d.p)))), int(d.of(0, api.Buy, api.Sell))), 1+d.below(9))
}

// drawNew returns a command of Kind New, which is refused now and then.
func (d *drawer) drawNew(id int64) api.Command {
	inst, side := int(d.below(int64(refdata.Count(d.p)))), sides[d.below(2)]
	c := day(id, inst, side, d.price(inst, side), d.of(1, 2, 3, 5, 9, 9, 30))
	switch d.below(20) {
	case 0, 1:
		c.Least = d.below(c.Qty + 1)
	case 2, 3, 4:
		c.Time = int(d.of(api.Now, api.Now, api.Whole))
	case 5:
		c.Label = "a row"
	case 6:
		c.Price += d.of(1, 300)
	case 7:
		c.Inst += int(d.of(0, 30))
	case 8:
		c.Side, c.Time, c.Qty, c.Least, c.ID = int(d.of(1, 2, 0)), int(d.of(1, 2, 4)), d.of(5, 5, 0), d.of(0, 0, 6), d.of(c.ID, c.ID, 0, lastID+1)
	}
	return c
}

// price is one that the instrument may have, near the middle of the band, or somewhat towards the end where an order of the side does not trade.
func (d *drawer) price(inst, side int) int64 {
	low, high, middle := d.p.Low, d.p.High, min(15, d.p.High/10*5)
	if inst >= len(d.p.Months) {
		low, high, middle = -d.p.Wide, d.p.Wide, 0
	}
	price := middle + d.of(-15, -10, -5, -5, 0, 0, 0, 5, 5, 10, 15)
	switch side {
	case api.Buy:
		price -= 5
	case api.Sell:
		price += 5
	}
	return max(low, min(high, price))
}

// spoilt are the bytes with a fault, which most are not told from those of another command.
func (d *drawer) spoilt(b []byte) []byte {
	switch at := d.below(int64(len(b))); d.below(4) {
	case 0:
		return b[:at]
	case 1:
		return append(b, byte(at))
	case 2:
		b[at] ^= 1 << d.below(8)
		return b
	}
	b[0] = byte(d.below(6))
	return b
}

// seen counts what became of what was drawn, so that a row in which nothing happens is found out.
type seen struct {
	why                      [50]int
	kinds                    [6]int
	own, others, taken, foes int
}

// count counts the Outs of a command.
func (s *seen) count(session int, m *model, l []gate.Out) {
	first := l[0].Report
	s.why[first.Why]++
	if owner, _ := m.owner(first.ID); owner != session {
		switch first.Why {
		case api.ErrTaken:
			s.taken++
		case api.ErrNone:
			s.foes++
		}
	}
	for _, o := range l {
		s.kinds[o.Report.Kind]++
		switch {
		case o.Report.Kind != api.Traded:
		case o.Session != session:
			s.others++
		case o.Report.ID != first.ID:
			s.own++
		}
	}
}

// products are of several numbers of months and each rule, some with bands that quotes leave now and then.
func products() []api.Product {
	var l []api.Product
	for _, months := range []int{2, 3, 6} {
		for i, rule := range rules {
			p := ruled(months, rule)
			p.Top, p.Least, p.Part = 3*int64(i), int64(i)+1, 45*int64(i)
			if i == 2 {
				p.Low, p.High, p.Wide, p.Settle = 0, 40, 10, []int64{0, 10, 20, 40, 35, 5}[:months:months]
			}
			l = append(l, p)
		}
	}
	return l
}

// TestRowsByARule: many rows of bytes of many sessions, and behind them the Gate's market tells just what a market tells that was given the same commands, but for those that the Gate refuses (P18.1).
func TestRowsByARule(t *testing.T) {
	var s seen
	for i, given := range products() {
		p, d := newPair(t, given), drawer{chance: chance(i), p: given, few: sessions}
		for n := range 220 {
			session, c := d.draw(p.model)
			if d.below(15) == 0 {
				p.send(session, d.spoilt(bytesOf(c)))
			} else {
				s.count(session, p.model, p.ask(session, c))
			}
			if n%10 == 0 {
				p.check()
			}
			if n%40 == 0 {
				p.then()
			}
		}
		p.check()
		p.then()
	}
	for _, err := range []api.Errno{api.OK, api.ErrArg, api.ErrInst, api.ErrSide, api.ErrTick, api.ErrBand, api.ErrQty, api.ErrTaken, api.ErrNone, api.ErrTime, api.ErrLeast} {
		if s.why[err] < 5 {
			t.Errorf("only %d reports have the error %d", s.why[err], int(err))
		}
	}
	for kind := api.Accepted; kind <= api.Reduced; kind++ {
		if s.kinds[kind] < 50 {
			t.Errorf("only %d reports are of the Kind %d", s.kinds[kind], kind)
		}
	}
	if s.own < 50 || s.others < 100 || s.taken < 10 || s.foes < 20 {
		t.Errorf("too little has happened: %+v", s)
	}
}

// TestCrowdsByARule: rows in which a few sessions have nearly as many orders as they may, and the market too (P18.1).
func TestCrowdsByARule(t *testing.T) {
	var s seen
	for i, months := range []int{2, 3} {
		given := ruled(months, rules[i+1])
		p, d := newPair(t, given), drawer{chance: chance(i), p: given, few: 6, next: 5000}
		for session, number := range []int{most, most - 1, most, room - 3*most} {
			p.crowd(session, number, int64(1000*session))
		}
		for n := range 250 {
			session, c := d.draw(p.model)
			s.count(session, p.model, p.ask(session, c))
			if n%25 == 0 {
				p.check()
				p.then()
			}
		}
		p.check()
	}
	if s.why[api.ErrLimit] < 20 || s.why[api.ErrFull] < 5 || s.why[api.OK] < 100 || s.others < 20 {
		t.Errorf("too little has happened: %+v", s)
	}
}

// TestEveryTurnedBit: the bytes of a command of each Kind, cut off, lengthened and with each bit turned, and each of them does to the Gate what its command does, or nothing (P18.1).
func TestEveryTurnedBit(t *testing.T) {
	p := newPair(t, product(2))
	p.crowd(0, 9, 100)
	p.put(1, day(1, 0, api.Sell, 10, 5))
	for _, c := range []api.Command{labelled(day(9, 0, api.Buy, 10, 1), "a"), cancel(101), reduce(102, 1), replace(103, -100, 9)} {
		b := bytesOf(c)
		for i := range b {
			p.send(0, b[:i])
			p.send(0, append(b[:i:i], b[i+1:]...))
			for bit := range 8 {
				turned := append([]byte(nil), b...)
				turned[i] ^= 1 << bit
				p.send(bit, turned)
			}
		}
		p.send(0, append(b, 0))
		p.check()
		p.send(0, b)
		p.check()
	}
	p.then()
}
