package book_test

import (
	"fmt"
	"math"
	"slices"
	"testing"

	"cornhill/api"
	"cornhill/book"
)

// most is the greatest number of orders of a book (MaxOrders).
const most = 250

// bothSides are Buy and Sell.
var bothSides = []int{1, 2}

// noSides are numbers that are no side.
var noSides = []int{0, 3, 4, -1, -2, -3, 257, 258, 1<<32 + 1, 1<<32 + 2, -1<<32 + 1, math.MinInt, math.MinInt + 1, math.MaxInt}

// better says which price of a side comes first.
func better(side int, price, other int64) bool {
	if side == 1 {
		return price > other
	}
	return price < other
}

// model does what the chapter says with one list of all orders, in the order of their arrival.
type model struct {
	orders []book.Order
}

// find returns the place of an order in the list, or -1.
func (m *model) find(id int64) int {
	return slices.IndexFunc(m.orders, func(o book.Order) bool { return o.ID == id })
}

func (m *model) add(id int64, side int, price, qty int64) api.Errno {
	switch {
	case side != 1 && side != 2:
		return api.ErrSide
	case qty < 1 || qty > 1000000:
		return api.ErrQty
	case m.find(id) >= 0:
		return api.ErrTaken
	case len(m.orders) == most:
		return api.ErrFull
	}
	top := true
	for _, o := range m.orders {
		top = top && (o.Side != side || better(side, price, o.Price))
	}
	for i := range m.orders {
		if m.orders[i].Side == side && top {
			m.orders[i].Top = false
		}
	}
	m.orders = append(m.orders, book.Order{ID: id, Side: side, Price: price, Qty: qty, Top: top})
	return api.OK
}

func (m *model) fill(id, qty int64) api.Errno {
	at := m.find(id)
	switch {
	case at < 0:
		return api.ErrNone
	case qty < 1 || qty > m.orders[at].Qty:
		return api.ErrQty
	case qty < m.orders[at].Qty:
		m.orders[at].Qty -= qty
	default:
		m.orders = slices.Delete(m.orders, at, at+1)
	}
	return api.OK
}

// side returns the orders of a side as Orders tells them.
func (m *model) side(side int) []book.Order {
	var l []book.Order
	for _, o := range m.orders {
		if o.Side == side {
			l = append(l, o)
		}
	}
	slices.SortStableFunc(l, func(a, b book.Order) int {
		switch {
		case better(side, a.Price, b.Price):
			return -1
		case better(side, b.Price, a.Price):
			return 1
		}
		return 0
	})
	return l
}

func (m *model) all() []book.Order {
	return slices.Concat(m.side(1), m.side(2))
}

// at returns the orders of a side at each of its prices.
func (m *model) at(side int) map[int64][]book.Order {
	all := map[int64][]book.Order{}
	for _, o := range m.orders {
		if o.Side == side {
			all[o.Price] = append(all[o.Price], o)
		}
	}
	return all
}

func (m *model) ladder(side int) []book.Level {
	var l []book.Level
	for _, o := range m.side(side) {
		if len(l) == 0 || l[len(l)-1].Price != o.Price {
			l = append(l, book.Level{Price: o.Price})
		}
		l[len(l)-1].Qty += o.Qty
		l[len(l)-1].Count++
	}
	return l
}

// pair is a book, and the model to which all of its calls go too.
type pair struct {
	t     *testing.T
	book  *book.Book
	model model
	// calls are those that were made, written out for who reads of a fault.
	calls []string
	// ids and prices are those that the calls have named.
	ids, prices []int64
}

func newPair(t *testing.T) *pair {
	t.Helper()
	b := book.New()
	if b == nil {
		t.Fatal("P9.1: New: no book")
	}
	return &pair{t: t, book: b}
}

// last are the newest calls.
func (p *pair) last() []string {
	return p.calls[max(0, len(p.calls)-20):]
}

func (p *pair) add(id int64, side int, price, qty int64) api.Errno {
	p.t.Helper()
	p.calls = append(p.calls, fmt.Sprintf("Add(%d, %d, %d, %d)", id, side, price, qty))
	p.ids, p.prices = append(p.ids, id), append(p.prices, price)
	err := p.book.Add(id, side, price, qty)
	if want := p.model.add(id, side, price, qty); err != want {
		p.t.Fatalf("P9.1: %v: %d, want %d", p.last(), int(err), int(want))
	}
	return err
}

func (p *pair) fill(id, qty int64) api.Errno {
	p.t.Helper()
	p.calls = append(p.calls, fmt.Sprintf("Fill(%d, %d)", id, qty))
	p.ids = append(p.ids, id)
	err := p.book.Fill(id, qty)
	if want := p.model.fill(id, qty); err != want {
		p.t.Fatalf("P9.1: %v: %d, want %d", p.last(), int(err), int(want))
	}
	return err
}

// fillAll fills what there is of an order.
func (p *pair) fillAll(id int64) {
	p.t.Helper()
	at := p.model.find(id)
	if at < 0 {
		p.t.Fatalf("the test removes the order %d, which does not stand", id)
	}
	p.fill(id, p.model.orders[at].Qty)
}

// tops are the IDs of the top orders that Find tells of, among the IDs that the calls have named.
func (p *pair) tops() []int64 {
	var l []int64
	for _, id := range distinct(p.ids) {
		if o, ok := p.book.Find(id); ok && o.Top {
			l = append(l, id)
		}
	}
	return l
}

// distinct returns each of the numbers once, in ascending order.
func distinct(l []int64) []int64 {
	l = slices.Clone(l)
	slices.Sort(l)
	return slices.Compact(l)
}

// check asks every question: of each side and of numbers that are none, of each ID and each price that was named, and of others.
func (p *pair) check() {
	p.t.Helper()
	if got, want := p.book.Orders(), p.model.all(); !slices.Equal(got, want) {
		p.t.Fatalf("P9.2: %v: Orders: %v, want %v", p.last(), got, want)
	}
	if got, want := p.book.Count(), len(p.model.orders); got != want {
		p.t.Fatalf("P9.2: %v: Count: %d, want %d", p.last(), got, want)
	}
	for _, id := range distinct(append([]int64{0, -1, 1 << 32, math.MinInt64, math.MaxInt64}, p.ids...)) {
		p.checkFind(id)
	}
	prices := []int64{0, math.MinInt64, math.MinInt64 + 1, math.MaxInt64 - 1, math.MaxInt64}
	for _, price := range p.prices {
		prices = append(prices, price-1, price, price+1)
	}
	prices = distinct(prices)
	for _, side := range bothSides {
		p.checkSide(side, prices)
	}
	for _, side := range noSides {
		p.checkSide(side, prices[:min(len(prices), 9)])
	}
}

func (p *pair) checkFind(id int64) {
	p.t.Helper()
	var want book.Order
	at := p.model.find(id)
	if at >= 0 {
		want = p.model.orders[at]
	}
	if got, ok := p.book.Find(id); got != want || ok != (at >= 0) {
		p.t.Fatalf("P9.1: %v: Find(%d): %v, %t, want %v, %t", p.last(), id, got, ok, want, at >= 0)
	}
}

func (p *pair) checkSide(side int, prices []int64) {
	p.t.Helper()
	ladder := p.model.ladder(side)
	if got := p.book.Ladder(side); !slices.Equal(got, ladder) {
		p.t.Fatalf("P9.2: %v: Ladder(%d): %v, want %v", p.last(), side, got, ladder)
	}
	var best book.Level
	if len(ladder) > 0 {
		best = ladder[0]
	}
	if got, ok := p.book.Best(side); got != best || ok != (len(ladder) > 0) {
		p.t.Fatalf("P9.2: %v: Best(%d): %v, %t, want %v, %t", p.last(), side, got, ok, best, len(ladder) > 0)
	}
	at := p.model.at(side)
	for _, price := range prices {
		if got, want := p.book.At(side, price), at[price]; !slices.Equal(got, want) {
			p.t.Fatalf("P9.2: %v: At(%d, %d): %v, want %v", p.last(), side, price, got, want)
		}
	}
}
