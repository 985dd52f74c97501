package gate

import (
	"slices"

	"cornhill/api"
	"cornhill/book"
	"cornhill/market"
	"cornhill/refdata"
)

// queue is the orders of one side of an instrument, the best price first.
type queue struct {
	inst   int
	orders []book.Order
}

// Market returns an independent copy of the present market.
//
// A market can be given orders by commands alone. Those that wait do not meet, so nothing trades while they enter one by one.
func (g *Gate) Market() *market.Market {
	// The product was accepted once, so it isn't refused.
	m, _ := market.New(g.product)
	lone, others := g.queues()
	gone := g.gone()
	// The IDs that nobody needs here are used up first, while there is nothing to trade with.
	for _, id := range gone[len(lone):] {
		m.Do(api.Command{Kind: api.New, ID: id, Side: api.Buy, Price: g.product.Low, Qty: 1, Time: api.Now})
	}
	// These come ahead of the others as long as there is room for the orders that have gone.
	for i, q := range lone {
		q.follow(m, gone[i])
	}
	for _, q := range others {
		q.enter(m)
	}
	return m
}

// gone returns the IDs that were accepted and are in no book any more, sorted so that a copy is made in the same way each time.
func (g *Gate) gone() []int64 {
	var l []int64
	for id := range g.owners {
		if _, waits := g.waiting[id]; !waits {
			l = append(l, id)
		}
	}
	slices.Sort(l)
	return l
}

// queues returns the orders that wait. Those of a side that is one order, and not the top one, stand apart: only behind an order that has gone can it be that.
func (g *Gate) queues() (lone, others []queue) {
	state := g.market.State()
	for inst := range refdata.Count(g.product) {
		for _, q := range queuesOf(inst, state.Orders(inst)) {
			if len(q.orders) == 1 && !q.orders[0].Top {
				lone = append(lone, q)
			} else {
				others = append(others, q)
			}
		}
	}
	return lone, others
}

// queuesOf returns the sides of an instrument that have orders.
func queuesOf(inst int, orders []book.Order) []queue {
	var l []queue
	for len(orders) > 0 {
		side := orders[0].Side
		end := slices.IndexFunc(orders, func(o book.Order) bool { return o.Side != side })
		if end < 0 {
			end = len(orders)
		}
		l = append(l, queue{inst, orders[:end]})
		orders = orders[end:]
	}
	return l
}

// enter enters the orders. The first one becomes the top order of the side if nothing stands ahead of it.
func (q queue) enter(m *market.Market) {
	if q.orders[0].Top {
		q.add(m, q.orders...)
		return
	}
	// The last order stands in ahead of the first one. Since it becomes greater than the 1 that it has there, it is then removed, and comes again behind all others.
	before, last := q.orders[:len(q.orders)-1], q.orders[len(q.orders)-1]
	q.standIn(m, last.ID)
	q.add(m, before...)
	m.Do(api.Command{Kind: api.Replace, ID: last.ID, Price: last.Price, Qty: max(last.Qty, 2)})
	if last.Qty == 1 {
		m.Do(api.Command{Kind: api.Reduce, ID: last.ID, Qty: 1})
	}
}

// follow enters the orders behind one that has gone, which goes again.
func (q queue) follow(m *market.Market, gone int64) {
	q.standIn(m, gone)
	q.add(m, q.orders...)
	m.Do(api.Command{Kind: api.Cancel, ID: gone})
}

// standIn enters an order of 1 with this ID where the first order will be, so that it becomes the top order in its place.
func (q queue) standIn(m *market.Market, id int64) {
	first := q.orders[0]
	q.add(m, book.Order{ID: id, Side: first.Side, Price: first.Price, Qty: 1})
}

// add enters orders as they are.
func (q queue) add(m *market.Market, orders ...book.Order) {
	for _, o := range orders {
		m.Do(api.Command{Kind: api.New, ID: o.ID, Inst: q.inst, Side: o.Side, Price: o.Price, Qty: o.Qty, Time: api.Day})
	}
}
