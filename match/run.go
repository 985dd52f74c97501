package match

import (
	"cornhill/alloc"
	"cornhill/api"
	"cornhill/book"
	"cornhill/implied"
)

// Fill is what a Step takes from an order in a book: its own price, how much is taken, and how much it has left.
type Fill struct {
	ID               int64
	Inst, Side       int
	Price, Qty, Left int64
}

// Step is a trade of the incoming order at one price, with those whose orders provide it.
type Step struct {
	Price, Qty int64
	Implied    bool
	Fills      []Fill
}

// order is an incoming order: what is left of it, and the limit of its price.
type order struct {
	inst, side  int
	price, left int64
}

// offer is a price that the best levels of the legs provide: of one leg for a real price, of two for an implied one.
type offer struct {
	price, qty int64
	implied    bool
	legs       []implied.Leg
}

// ladders has the levels of each instrument, those of Buy at index 0 and those of Sell at index 1.
type ladders [][2][]book.Level

// Run matches an order with the orders in the books, and returns its Steps and what is left of qty.
func (s *State) Run(inst, side int, price, qty int64) ([]Step, int64) {
	if !s.right(inst, side, qty) {
		return nil, qty
	}
	in := order{inst, side, price, qty}
	var steps []Step
	for in.left > 0 {
		o, ok := next(s.product, s.Tops(), in)
		if !ok {
			break
		}
		step := s.perform(o, min(in.left, o.qty))
		steps = append(steps, step)
		in.left -= step.Qty
	}
	return steps, in.left
}

// Could returns how much of qty the same call of Run would trade. Which orders of a level would get it makes no difference to that, so levels are all that it looks at.
func (s *State) Could(inst, side int, price, qty int64) int64 {
	if !s.right(inst, side, qty) {
		return 0
	}
	in := order{inst, side, price, qty}
	l := s.ladders()
	for in.left > 0 {
		o, ok := next(s.product, l.tops(), in)
		if !ok {
			break
		}
		traded := min(in.left, o.qty)
		l.take(o, traded)
		in.left -= traded
	}
	return qty - in.left
}

// right reports whether there can be such an order.
func (s *State) right(inst, side int, qty int64) bool {
	return s.has(inst) && (side == api.Buy || side == api.Sell) && qty >= 1 && qty <= api.MaxQty
}

// next returns what the order trades with next, or false if there is no price that satisfies its limit. A price that would be better on the order's own side is beyond the limit.
func next(p api.Product, tops []implied.Top, in order) (offer, bool) {
	o, ok := best(p, tops, in.inst, other(in.side))
	if !ok || better(in.side, o.price, in.price) {
		return offer{}, false
	}
	return o, true
}

// best returns the better one of the real and the implied price of the side, and the real one if both are equal.
func best(p api.Product, tops []implied.Top, inst, side int) (offer, bool) {
	at := index(side)
	price, qty, ok := tops[inst].Price[at], tops[inst].Qty[at], tops[inst].Has[at]
	quote, quoted := implied.Best(implied.Quotes(p, tops, inst, side), side)
	if quoted && (!ok || better(side, quote.Price, price)) {
		return offer{quote.Price, quote.Qty, true, quote.Legs[:]}, true
	}
	return offer{price, qty, false, []implied.Leg{{Inst: inst, Side: side}}}, ok
}

// perform takes qty from the best level of each leg of the offer.
func (s *State) perform(o offer, qty int64) Step {
	step := Step{Price: o.price, Qty: qty, Implied: o.implied}
	for _, leg := range o.legs {
		step.Fills = append(step.Fills, s.fill(leg, qty)...)
	}
	return step
}

// fill takes qty from the orders of the best level of the leg, by the rule of the product.
func (s *State) fill(leg implied.Leg, qty int64) []Fill {
	b := s.books[leg.Inst]
	level, _ := b.Best(leg.Side)
	orders := b.At(leg.Side, level.Price)
	var fills []Fill
	for i, share := range alloc.Share(s.product, orders, qty) {
		if share > 0 {
			o := orders[i]
			// No share is more than its order has, so the book can't refuse it.
			b.Fill(o.ID, share)
			fills = append(fills, Fill{o.ID, leg.Inst, leg.Side, o.Price, share, o.Qty - share})
		}
	}
	return fills
}

// ladders returns the levels of the books.
func (s *State) ladders() ladders {
	l := make(ladders, len(s.books))
	for inst, b := range s.books {
		l[inst] = [2][]book.Level{b.Ladder(api.Buy), b.Ladder(api.Sell)}
	}
	return l
}

// tops returns the best prices of each instrument.
func (l ladders) tops() []implied.Top {
	tops := make([]implied.Top, len(l))
	for inst, sides := range l {
		for at, levels := range sides {
			if len(levels) > 0 {
				tops[inst].Has[at], tops[inst].Price[at], tops[inst].Qty[at] = true, levels[0].Price, levels[0].Qty
			}
		}
	}
	return tops
}

// take takes qty from the best level of each leg of the offer.
func (l ladders) take(o offer, qty int64) {
	for _, leg := range o.legs {
		levels := &l[leg.Inst][index(leg.Side)]
		(*levels)[0].Qty -= qty
		if (*levels)[0].Qty == 0 {
			*levels = (*levels)[1:]
		}
	}
}

// index returns the index at which a Top holds the side.
func index(side int) int {
	return side - api.Buy
}

// other returns the other side.
func other(side int) int {
	if side == api.Buy {
		return api.Sell
	}
	return api.Buy
}

// better reports whether a price of the side is better than another one.
func better(side int, price, old int64) bool {
	if side == api.Buy {
		return price > old
	}
	return price < old
}
