package market

import (
	"cornhill/book"
	"cornhill/match"
	"cornhill/refdata"
)

// placeholder is an ID that no command may have, so no order has it.
const placeholder = 0

// State returns an independent copy of the orders that wait.
func (m *Market) State() *match.State {
	// The product was accepted once, and all orders have found room once, so nothing is refused.
	s, _ := match.New(m.product)
	rest := make([][]book.Order, refdata.Count(m.product))
	// The first orders come ahead of all others, while there is room for a placeholder.
	for inst := range rest {
		var firsts []book.Order
		firsts, rest[inst] = parted(m.state.Orders(inst))
		for _, o := range firsts {
			addFirst(s, inst, o)
		}
	}
	for inst, orders := range rest {
		for _, o := range orders {
			add(s, inst, o)
		}
	}
	return s
}

// parted returns the first order of each side, and the other orders.
func parted(orders []book.Order) (firsts, rest []book.Order) {
	side := 0
	for _, o := range orders {
		if o.Side != side {
			firsts = append(firsts, o)
		} else {
			rest = append(rest, o)
		}
		side = o.Side
	}
	return firsts, rest
}

// addFirst adds the first order of a side. As such it would be the top order, so if it isn't, another one stands ahead of it till then.
func addFirst(s *match.State, inst int, o book.Order) {
	if o.Top {
		add(s, inst, o)
		return
	}
	add(s, inst, book.Order{ID: placeholder, Side: o.Side, Price: o.Price, Qty: 1})
	add(s, inst, o)
	s.Take(placeholder, 1)
}

// add adds an order to a book.
func add(s *match.State, inst int, o book.Order) {
	s.Add(inst, o.ID, o.Side, o.Price, o.Qty)
}
