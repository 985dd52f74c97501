package market

import (
	"slices"

	"cornhill/api"
	"cornhill/implied"
	"cornhill/refdata"
)

// order is an order that a command is about: one that comes, or one that waits.
type order struct {
	id         int64
	inst, side int
	price, qty int64
}

// report returns a report about the order.
func (o order) report(kind int, price, qty, left int64) api.Report {
	return api.Report{Kind: kind, ID: o.id, Inst: o.inst, Side: o.side, Price: price, Qty: qty, Left: left}
}

// find returns the order with this ID that waits.
func (m *Market) find(id int64) (order, bool) {
	inst, o, ok := m.state.Find(id)
	return order{id, inst, o.Side, o.Price, o.Qty}, ok
}

// enter performs a command of Kind New.
func (m *Market) enter(c api.Command) ([]api.Report, api.Errno) {
	o := order{c.ID, c.Inst, c.Side, c.Price, c.Qty}
	if err := m.refusal(o, c); err != api.OK {
		return nil, err
	}
	return m.process(o, c.Time), api.OK
}

// refusal returns the first reason for which the order of a command of Kind New may not enter.
func (m *Market) refusal(o order, c api.Command) api.Errno {
	if err := refdata.Price(m.product, o.inst, o.price); err != api.OK {
		return err
	}
	switch least := required(c); {
	case m.Used(o.id):
		return api.ErrTaken
	case m.Count() >= api.MaxOrders:
		return api.ErrFull
	case m.state.Could(o.inst, o.side, o.price, least) < least:
		return api.ErrLeast
	case c.Time == api.Day && m.barred(o):
		return api.ErrBand
	}
	return api.OK
}

// required returns how much of an order must trade at once.
func required(c api.Command) int64 {
	if c.Time == api.Whole {
		return c.Qty
	}
	return c.Least
}

// barred reports whether something would be left of a Day order that an implied quote beyond the band is as good as.
//
// The quotes are those ahead of the Run, as the ones that matter are the same behind it: they lie beyond the better end of the band, so the Run takes nothing of them, and no quote of an instrument shares a leg with another one or gets better by a Run. Nor is an old order of the same instrument and side in the way, since the other side's prices and quotes don't hang on it.
func (m *Market) barred(o order) bool {
	if m.state.Could(o.inst, o.side, o.price, o.qty) == o.qty {
		return false
	}
	quotes := implied.All(m.product, m.state.Tops(), o.inst, other(o.side))
	return slices.ContainsFunc(quotes, func(q implied.Quote) bool {
		return o.accepts(q.Price) && refdata.Price(m.product, o.inst, q.Price) != api.OK
	})
}

// accepts reports whether the order could trade at the price.
func (o order) accepts(price int64) bool {
	if o.side == api.Buy {
		return price <= o.price
	}
	return price >= o.price
}

// other returns the other side.
func other(side int) int {
	if side == api.Buy {
		return api.Sell
	}
	return api.Buy
}

// process accepts an order, trades it, and lets the rest wait if it is one for the day.
func (m *Market) process(o order, time int) []api.Report {
	m.used[o.id] = struct{}{}
	reports := []api.Report{o.report(api.Accepted, o.price, o.qty, o.qty)}
	steps, rest := m.state.Run(o.inst, o.side, o.price, o.qty)
	left := o.qty
	for _, step := range steps {
		left -= step.Qty
		reports = append(reports, m.trades(o, step, left)...)
	}
	switch {
	case rest == 0:
		return reports
	case time == api.Day:
		// The refusals leave no reason for which a book might not take it.
		m.state.Add(o.inst, o.id, o.side, o.price, rest)
		return reports
	}
	return append(reports, o.report(api.Cancelled, o.price, rest, 0))
}

// remove takes the order out of its book.
func (m *Market) remove(o order) []api.Report {
	m.state.Take(o.id, o.qty)
	return []api.Report{o.report(api.Cancelled, o.price, o.qty, 0)}
}

// reduce takes so much off the order, or all that it has.
func (m *Market) reduce(o order, by int64) []api.Report {
	if by >= o.qty {
		return m.remove(o)
	}
	return m.lessen(o, by)
}

// lessen takes less than it has off the order, which keeps its position. To take 0 is refused by the State and changes nothing, as it should.
func (m *Market) lessen(o order, by int64) []api.Report {
	m.state.Take(o.id, by)
	return []api.Report{o.report(api.Reduced, o.price, by, o.qty-by)}
}

// replace gives the order another price and quantity. It keeps its position only if it becomes no greater at the same price.
func (m *Market) replace(old order, price, qty int64) ([]api.Report, api.Errno) {
	if err := refdata.Price(m.product, old.inst, price); err != api.OK {
		return nil, err
	}
	if price == old.price && qty <= old.qty {
		return m.lessen(old, old.qty-qty), api.OK
	}
	o := order{old.id, old.inst, old.side, price, qty}
	// The document asks for this, though such a quote would be as good as the old order, and where orders wait there is none that is (P17.5).
	if m.barred(o) {
		return nil, api.ErrBand
	}
	return append(m.remove(old), m.process(o, api.Day)...), api.OK
}
