package feed_test

import (
	"slices"

	"cornhill/api"
	"cornhill/book"
	"cornhill/feed"
	"cornhill/match"
)

// give is what one lot of an instrument gives of each month: 1 and -1 for the near and the far month of a spread.
type give [api.MaxExp]int

// looker makes Views by what instruments give: an implied quote is two others, each bought or sold, that give the same together.
type looker struct {
	p     api.Product
	gives []give
}

func newLooker(p api.Product) looker {
	l := looker{p: p}
	for m := range p.Months {
		var g give
		g[m] = 1
		l.gives = append(l.gives, g)
	}
	for near := range p.Months {
		for far := near + 1; far < len(p.Months); far++ {
			var g give
			g[near], g[far] = 1, -1
			l.gives = append(l.gives, g)
		}
	}
	return l
}

// view is the View of a state, from its orders alone.
func (l looker) view(s *match.State) feed.View {
	var v feed.View
	for inst := range l.gives {
		var both [2]feed.Side
		for _, side := range sides {
			both[side-1].Levels = levelsOf(s.Orders(inst), side)
		}
		v.Sides = append(v.Sides, both)
	}
	for inst := range l.gives {
		for at := range 2 {
			v.Sides[inst][at].Implied, v.Sides[inst][at].Has = l.implied(v, inst, at)
		}
	}
	return v
}

// levelsOf sums up the orders of a side, the best price first.
func levelsOf(orders []book.Order, side int) []book.Level {
	var l []book.Level
	for _, o := range orders {
		if o.Side != side {
			continue
		}
		at := slices.IndexFunc(l, func(x book.Level) bool { return x.Price == o.Price })
		if at < 0 {
			l, at = append(l, book.Level{Price: o.Price}), len(l)
		}
		l[at].Qty += o.Qty
		l[at].Count++
	}
	slices.SortFunc(l, func(a, b book.Level) int {
		return int(a.Price-b.Price) * (2*side - 3)
	})
	return l
}

// implied is the best quote for a side that the levels of two others make.
func (l looker) implied(v feed.View, inst, at int) (book.Level, bool) {
	var best book.Level
	for a := range l.gives {
		for b := range a {
			if a == inst || b == inst || !l.may(inst, a, b) {
				continue
			}
			for _, signs := range [][2]int{{1, 1}, {1, -1}, {-1, 1}} {
				price, qty, ok := l.pair(v, inst, at, [2]int{a, b}, signs)
				switch {
				case !ok:
				case best.Count == 0 || price != best.Price && (price > best.Price) == (at == 0):
					best = book.Level{Price: price, Qty: qty, Count: 1}
				case price == best.Price:
					best.Qty, best.Count = max(best.Qty, qty), best.Count+1
				}
			}
		}
	}
	return best, best.Count > 0
}

// may reports whether quotes of the instrument are made of these: a month of a month and a spread, a spread of two months.
func (l looker) may(inst, a, b int) bool {
	months := 0
	for _, i := range []int{a, b} {
		if i < len(l.p.Months) {
			months++
		}
	}
	return inst < len(l.p.Months) && months == 1 || inst >= len(l.p.Months) && months == 2
}

// pair is the price and the quantity of one quote, if there is one and its price is in the instrument's band.
func (l looker) pair(v feed.View, inst, at int, insts, signs [2]int) (int64, int64, bool) {
	var g give
	price, qty := int64(0), int64(highest)
	for n, i := range insts {
		for m := range g {
			g[m] += signs[n] * l.gives[i][m]
		}
		// What is bought of the quote is sold of a leg that it has with the other sign.
		side := at
		if signs[n] < 0 {
			side = 1 - at
		}
		levels := v.Sides[i][side].Levels
		if len(levels) == 0 {
			return 0, 0, false
		}
		price, qty = price+int64(signs[n])*levels[0].Price, min(qty, levels[0].Qty)
	}
	low, high := l.p.Low, l.p.High
	if inst >= len(l.p.Months) {
		low, high = -l.p.Wide, l.p.Wide
	}
	return price, qty, g == l.gives[inst] && price >= low && price <= high && price%l.p.Tick == 0
}

// diffModel asks for each price that there is, the best one first, what each View has there.
func diffModel(a, b feed.View, seq int64) []api.Msg {
	if len(a.Sides) != len(b.Sides) {
		return nil
	}
	var l []api.Msg
	tell := func(m api.Msg) {
		seq++
		m.Seq = seq
		l = append(l, m)
	}
	for inst := range a.Sides {
		for _, side := range sides {
			x, y := a.Sides[inst][side-1], b.Sides[inst][side-1]
			var prices []int64
			for _, l := range slices.Concat(x.Levels, y.Levels) {
				prices = append(prices, l.Price)
			}
			slices.Sort(prices)
			prices = slices.Compact(prices)
			if side == api.Buy {
				slices.Reverse(prices)
			}
			for _, price := range prices {
				qty, count := at(x.Levels, price)
				nowQty, nowCount := at(y.Levels, price)
				if qty != nowQty || count != nowCount {
					tell(level(inst, side, price, nowQty, nowCount))
				}
			}
			if x.Implied != y.Implied || x.Has != y.Has {
				now := book.Level{}
				if y.Has {
					now = y.Implied
				}
				tell(quote(inst, side, now.Price, now.Qty, now.Count))
			}
		}
	}
	return l
}

// at is the quantity and the count of the level with that price.
func at(levels []book.Level, price int64) (int64, int64) {
	for _, l := range levels {
		if l.Price == price {
			return l.Qty, l.Count
		}
	}
	return 0, 0
}

// where is a level, or the implied quote, of a side.
type where struct {
	inst, side int
	price      int64
	implied    bool
}

// facts are what a View tells, by where.
type facts map[where]book.Level

func factsOf(v feed.View) facts {
	f := facts{}
	for inst, both := range v.Sides {
		for _, side := range sides {
			s := both[side-1]
			for _, l := range s.Levels {
				f[where{inst, side, l.Price, false}] = l
			}
			if s.Has {
				f[where{inst, side, 0, true}] = s.Implied
			}
		}
	}
	return f
}

// after are those behind a message.
func (f facts) after(m api.Msg) facts {
	w := where{m.Inst, m.Side, m.Price, m.Implied}
	if m.Implied {
		w.price = 0
	}
	if m.Qty == 0 {
		delete(f, w)
	} else {
		f[w] = book.Level{Price: m.Price, Qty: m.Qty, Count: m.Count}
	}
	return f
}

// view is the View, with so many instruments, that tells them.
func (f facts) view(count int) feed.View {
	v := feed.View{Sides: make([][2]feed.Side, count)}
	for w, l := range f {
		s := &v.Sides[w.inst][w.side-1]
		if w.implied {
			s.Implied, s.Has = l, true
			continue
		}
		s.Levels = append(s.Levels, l)
	}
	for inst := range v.Sides {
		for at := range 2 {
			slices.SortFunc(v.Sides[inst][at].Levels, func(a, b book.Level) int {
				if (a.Price > b.Price) == (at == 0) {
					return -1
				}
				return 1
			})
		}
	}
	return v
}

// applyErr is the first error that applies.
func applyErr(v feed.View, m api.Msg) api.Errno {
	switch {
	case !(0 <= m.Inst && m.Inst < len(v.Sides)):
		return api.ErrInst
	case m.Side != 1 && m.Side != 2:
		return api.ErrSide
	case m.Qty < 0, m.Count < 0, m.Qty == 0 && m.Count > 0, m.Count == 0 && m.Qty > 0:
		return api.ErrQty
	}
	return api.OK
}
