package match_test

import (
	"slices"

	"cornhill/alloc"
	"cornhill/api"
	"cornhill/book"
	"cornhill/implied"
	"cornhill/match"
	"cornhill/refdata"
)

// standing is an order of a model.
type standing struct {
	inst int
	book.Order
}

// model does what the chapter says with one list of all orders, in the order of their arrival.
type model struct {
	p      api.Product
	orders []standing
}

// offer is a price of a model: its legs are one, itself, if it is real.
type offer struct {
	price, qty int64
	legs       []implied.Leg
}

// otherOf is the other side.
func otherOf(side int) int { return api.Buy + api.Sell - side }

// better says which price of a side comes first.
func better(side int, price, other int64) bool {
	return side == api.Buy && price > other || side == api.Sell && price < other
}

// find returns the place of an order in the list, or -1.
func (m *model) find(id int64) int {
	return slices.IndexFunc(m.orders, func(o standing) bool { return o.ID == id })
}

func (m *model) add(inst int, id int64, side int, price, qty int64) api.Errno {
	err := refdata.Price(m.p, inst, price)
	switch {
	case err == api.ErrInst:
		return err
	case m.find(id) >= 0:
		return api.ErrTaken
	case len(m.orders) == api.MaxOrders:
		return api.ErrFull
	case err != api.OK:
		return err
	case side != api.Buy && side != api.Sell:
		return api.ErrSide
	case qty < 1 || qty > api.MaxQty:
		return api.ErrQty
	}
	m.append(standing{inst, book.Order{ID: id, Side: side, Price: price, Qty: qty}})
	return api.OK
}

// append lets a right order stand, as the top one of its side if it is better than all of them.
func (m *model) append(o standing) {
	all := m.side(o.inst, o.Side)
	o.Top = len(all) == 0 || better(o.Side, o.Price, all[0].Price)
	for i, old := range m.orders {
		if o.Top && old.inst == o.inst && old.Side == o.Side {
			m.orders[i].Top = false
		}
	}
	m.orders = append(m.orders, o)
}

func (m *model) take(id, qty int64) api.Errno {
	at := m.find(id)
	switch {
	case at < 0:
		return api.ErrNone
	case qty < 1 || qty > m.orders[at].Qty:
		return api.ErrQty
	}
	m.orders[at].Qty -= qty
	m.orders = slices.DeleteFunc(m.orders, func(o standing) bool { return o.Qty == 0 })
	return api.OK
}

// side returns the orders of a side, the best price first.
func (m *model) side(inst, side int) []book.Order {
	var l []book.Order
	for _, o := range m.orders {
		if o.inst == inst && o.Side == side {
			l = append(l, o.Order)
		}
	}
	slices.SortStableFunc(l, func(a, b book.Order) int {
		switch {
		case better(side, a.Price, b.Price):
			return -1
		case a.Price == b.Price:
			return 0
		}
		return 1
	})
	return l
}

func (m *model) ladder(inst, side int) []book.Level {
	var l []book.Level
	for _, o := range m.side(inst, side) {
		if len(l) == 0 || l[len(l)-1].Price != o.Price {
			l = append(l, book.Level{Price: o.Price})
		}
		l[len(l)-1].Qty += o.Qty
		l[len(l)-1].Count++
	}
	return l
}

func (m *model) tops() []implied.Top {
	tops := make([]implied.Top, len(instruments(len(m.p.Months))))
	for inst := range tops {
		for at := range 2 {
			if l := m.ladder(inst, api.Buy+at); len(l) > 0 {
				tops[inst].Has[at], tops[inst].Price[at], tops[inst].Qty[at] = true, l[0].Price, l[0].Qty
			}
		}
	}
	return tops
}

// instruments are what one gets of each month who gets one of each instrument: the months first, then the spreads.
func instruments(months int) [][6]int {
	var l [][6]int
	for m := range months {
		var v [6]int
		v[m] = 1
		l = append(l, v)
	}
	for near := range months {
		for far := near + 1; far < months; far++ {
			var v [6]int
			v[near], v[far] = 1, -1
			l = append(l, v)
		}
	}
	return l
}

// legs are the legs by which a side of an instrument can be made of two others, at least one of them a month: those that together are the same of each month. A spread stands first, or the near month; later months stand before earlier ones.
func (m *model) legs(inst, side int) [][]implied.Leg {
	months, all := len(m.p.Months), instruments(len(m.p.Months))
	first, seconds := months, slices.Concat(seq(inst+1, months), seq(0, inst))
	if inst >= months {
		first, seconds = 0, seq(0, months)
	}
	var l [][]implied.Leg
	for _, second := range seconds {
		for a := first; a < len(all) && (inst < months || a < second); a++ {
			for sides := range 4 {
				legs := []implied.Leg{{Inst: a, Side: api.Buy + sides/2}, {Inst: second, Side: api.Buy + sides%2}}
				if together(all, legs) == together(all, []implied.Leg{{Inst: inst, Side: side}}) {
					l = append(l, legs)
				}
			}
		}
	}
	return l
}

// seq returns the numbers from a on below b.
func seq(a, b int) []int {
	var l []int
	for i := a; i < b; i++ {
		l = append(l, i)
	}
	return l
}

// together is what one gets of each month who buys the legs of Buy and sells those of Sell.
func together(all [][6]int, legs []implied.Leg) [6]int {
	var sum [6]int
	for _, leg := range legs {
		for m, n := range all[leg.Inst] {
			if leg.Side == api.Sell {
				n = -n
			}
			sum[m] += n
		}
	}
	return sum
}

// offers are all present prices of a side: the best real one first, then those that are implied and may be.
func (m *model) offers(inst, side int) []offer {
	tops := m.tops()
	var l []offer
	for _, legs := range append([][]implied.Leg{{{Inst: inst, Side: side}}}, m.legs(inst, side)...) {
		o, ok := offer{qty: 1 << 62, legs: legs}, true
		for _, leg := range legs {
			top, at := tops[leg.Inst], leg.Side-1
			ok = ok && top.Has[at]
			o.qty = min(o.qty, top.Qty[at])
			if leg.Side == side {
				o.price += top.Price[at]
			} else {
				o.price -= top.Price[at]
			}
		}
		if ok && refdata.Price(m.p, inst, o.price) == api.OK {
			l = append(l, o)
		}
	}
	return l
}

// best returns the first one of the best prices of a side.
func (m *model) best(inst, side int) (offer, bool) {
	l := m.offers(inst, side)
	if len(l) == 0 {
		return offer{}, false
	}
	best := l[0]
	for _, o := range l {
		if better(side, o.price, best.price) {
			best = o
		}
	}
	return best, true
}

// asks reports whether an order may be matched at all.
func (m *model) asks(inst, side int, qty int64) bool {
	return inst >= 0 && inst < len(instruments(len(m.p.Months))) && (side == api.Buy || side == api.Sell) && qty >= 1 && qty <= api.MaxQty
}

func (m *model) run(inst, side int, price, qty int64) ([]match.Step, int64) {
	if !m.asks(inst, side, qty) {
		return nil, qty
	}
	var steps []match.Step
	for qty > 0 {
		o, ok := m.best(inst, otherOf(side))
		if !ok || side == api.Buy && o.price > price || side == api.Sell && o.price < price {
			break
		}
		step := match.Step{Price: o.price, Qty: min(qty, o.qty), Implied: len(o.legs) == 2}
		for _, leg := range o.legs {
			step.Fills = append(step.Fills, m.fill(leg, step.Qty)...)
		}
		qty -= step.Qty
		steps = append(steps, step)
	}
	return steps, qty
}

// fill takes qty from the best level of a leg.
func (m *model) fill(leg implied.Leg, qty int64) []match.Fill {
	orders := m.side(leg.Inst, leg.Side)
	orders = slices.DeleteFunc(orders, func(o book.Order) bool { return o.Price != orders[0].Price })
	var l []match.Fill
	for i, share := range alloc.Share(m.p, orders, qty) {
		o := orders[i]
		if m.take(o.ID, share) == api.OK {
			l = append(l, match.Fill{ID: o.ID, Inst: leg.Inst, Side: leg.Side, Price: o.Price, Qty: share, Left: o.Qty - share})
		}
	}
	return l
}
