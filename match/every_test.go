package match_test

import (
	"testing"

	"cornhill/api"
	"cornhill/implied"
	"cornhill/match"
	"cornhill/refdata"
)

// tiny is a product with two months in which few prices may be: 0, 5, 10 of months and -5, 0, 5 of the spread.
func tiny() api.Product {
	p := product(2)
	p.Low, p.High, p.Wide, p.Settle = 0, 10, 5, []int64{0, 5}
	return p
}

// tinyOrders are all orders of 1 or 2 that tiny may have.
func tinyOrders() []o {
	var l []o
	for n := range int64(3 * 2 * 3 * 2) {
		order := o{int(n % 3), sides[n/3%2], n / 6 % 3 * 5, n/18 + 1}
		if order.inst == 2 {
			order.price -= 5
		}
		l = append(l, order)
	}
	return l
}

// TestEveryTwoOrders: each pair of small orders, and each small order that comes (P16.2, P16.3, P16.4).
func TestEveryTwoOrders(t *testing.T) {
	all := tinyOrders()
	for n, first := range all {
		for m, second := range all {
			p := with(t, tiny(), first, second)
			for inst := range 3 {
				for _, side := range sides {
					for limit := int64(-10); limit <= 15; limit += 5 {
						for _, qty := range []int64{1, 2, 5} {
							p.could(inst, side, limit, qty)
						}
					}
				}
			}
			in := all[(n+7*m)%len(all)]
			p.run(in.inst, in.side, in.price, 1+int64(n+m)%3)
			p.run(in.inst, otherOf(in.side), in.price, 1)
			p.run((in.inst+1)%3, in.side, limitOf(in.side), 3)
		}
	}
}

// TestEveryRunOfFewOrders: each small order that comes to each set of some small ones (P16.2, P16.3, P16.4).
func TestEveryRunOfFewOrders(t *testing.T) {
	all := tinyOrders()
	for chosen := range 1 << 6 {
		for inst := range 3 {
			for _, side := range sides {
				var orders []o
				for i := range 6 {
					if chosen>>i&1 == 1 {
						// Each of the instruments and sides once, at prices that differ from set to set.
						orders = append(orders, all[i+6*(chosen*(i+1)%3)+18*(chosen/3%2)])
					}
				}
				for limit := int64(-5); limit <= 10; limit += 5 {
					p := with(t, tiny(), orders...)
					p.run(inst, side, limit, 3)
					p.run(inst, side, limitOf(side), 3)
				}
			}
		}
	}
}

// step makes one call by a rule, and more often one that is right than one that isn't.
func (p *pair) step(c *chance, next *int64) {
	p.t.Helper()
	months := len(p.model.p.Months)
	inst, side := int(c.below(int64(refdata.Count(p.model.p)))), sides[c.below(2)]
	low, high := int64(-10), int64(25)
	if inst >= months {
		low, high = -20, 15
	}
	price := low + c.below((high-low)/5+1)*5
	switch n := c.below(20); {
	case n < 11:
		*next++
		p.add(inst, *next, side, price, 1+c.below(9))
	case n < 13:
		p.take(1+c.below(*next+1), 1+c.below(4))
	case n < 14:
		p.add(inst-1+int(c.below(3)), 1+c.below(*next+3), int(c.below(4)), price+c.below(2), c.below(3))
	default:
		limit := price + 5 - c.below(11)
		if c.below(4) == 0 {
			limit = limitOf(side)
		}
		p.run(inst, side, limit, c.of([]int64{1, 2, 3, 5, 9, 30, 200, largest}))
	}
}

// products are of each number of months and each rule, with several terms.
func products() []api.Product {
	var l []api.Product
	for months := 2; months <= api.MaxExp; months++ {
		for _, rule := range rules {
			for i := range int64(3) {
				p := ruled(months, rule)
				p.Top, p.Least, p.Part = 3*i, i+1, 45*i
				l = append(l, p)
			}
		}
	}
	return l
}

// TestCallsByARule: long rows of calls, in books that may be crossed (P16.1, P16.2, P16.3, P16.4).
func TestCallsByARule(t *testing.T) {
	c := chance(1)
	for _, product := range products() {
		for range 2 {
			p, next := newPair(t, product), int64(0)
			for i := range 150 {
				p.step(&c, &next)
				if i%30 == 0 {
					p.check()
				}
			}
			p.check()
		}
	}
}

// TestMarketsByARule: each order is matched first, and then stands with what is left. So no book is ever crossed, and no implied quote is as good as an order of the other side (P16.4, W2).
func TestMarketsByARule(t *testing.T) {
	c := chance(2)
	for _, product := range products() {
		p := newPair(t, product)
		count := int64(refdata.Count(product))
		for id := range int64(100) {
			inst, side := int(c.below(count)), sides[c.below(2)]
			price := c.below(9) * 5
			if inst >= len(product.Months) {
				price -= 20
			}
			_, left := p.run(inst, side, price, 1+c.below(12))
			if left > 0 {
				p.add(inst, id, side, price, left)
			}
			if i := c.below(id + 1); i%5 == 0 && p.model.find(i) >= 0 {
				p.takeAll(i)
			}
			checkApart(t, p)
		}
		p.check()
	}
}

// checkApart asks whether a real price meets a real or an implied one of the other side.
func checkApart(t *testing.T, p *pair) {
	t.Helper()
	tops := p.state.Tops()
	for inst, top := range tops {
		bid, bought := implied.Best(implied.Quotes(p.model.p, tops, inst, api.Buy), api.Buy)
		ask, sold := implied.Best(implied.Quotes(p.model.p, tops, inst, api.Sell), api.Sell)
		switch {
		case top.Has[0] && top.Has[1] && top.Price[0] >= top.Price[1]:
			t.Fatalf("W2: %v: the book of %d is crossed: %v", p.last(), inst, top)
		case top.Has[0] && sold && top.Price[0] >= ask.Price:
			t.Fatalf("W2: %v: Sell of %d is implied by %v, and %v stands", p.last(), inst, ask, top)
		case top.Has[1] && bought && top.Price[1] <= bid.Price:
			t.Fatalf("W2: %v: Buy of %d is implied by %v, and %v stands", p.last(), inst, bid, top)
		}
	}
}

// TestQuantities: what orders lose is what the Fills tell, each leg gives as much as its Step, and each Fill is of the order that it names (P16.2, W2).
func TestQuantities(t *testing.T) {
	c := chance(3)
	for _, product := range products() {
		p, next := newPair(t, product), int64(0)
		for range 60 {
			p.step(&c, &next)
		}
		for range 20 {
			before := map[int64]standing{}
			for _, o := range p.model.orders {
				before[o.ID] = o
			}
			inst, side := int(c.below(int64(refdata.Count(product)))), sides[c.below(2)]
			steps, left := p.run(inst, side, limitOf(side), 1+c.below(25))
			for _, step := range steps {
				checkStep(t, p, step, before)
			}
			if left > 0 && len(p.state.Ladder(inst, otherOf(side))) > 0 {
				t.Fatalf("P16.4: %v: %d are left", p.last(), left)
			}
			for id, o := range before {
				_, now, _ := p.state.Find(id)
				if now.Qty != o.Qty {
					t.Fatalf("P16.2: %v: the order %d has %d left, and %d by the Fills", p.last(), id, now.Qty, o.Qty)
				}
			}
		}
	}
}

// checkStep takes the Fills from the orders that there were.
func checkStep(t *testing.T, p *pair, step match.Step, before map[int64]standing) {
	t.Helper()
	sums := map[int]int64{}
	for _, f := range step.Fills {
		o := before[f.ID]
		if f.Qty < 1 || f.Qty > o.Qty || f.Left != o.Qty-f.Qty || f.Inst != o.inst || f.Side != o.Side || f.Price != o.Price {
			t.Fatalf("P16.2: %v: %v of the order %v", p.last(), f, o)
		}
		sums[f.Inst] += f.Qty
		o.Qty -= f.Qty
		before[f.ID] = o
	}
	for inst, sum := range sums {
		if sum != step.Qty {
			t.Fatalf("P16.2: %v: %d gives %d of %v", p.last(), inst, sum, step)
		}
	}
	if len(sums) == 2 != step.Implied || len(sums) == 0 {
		t.Fatalf("P16.2: %v: %v", p.last(), step)
	}
}
