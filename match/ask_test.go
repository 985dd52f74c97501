package match_test

import (
	"fmt"
	"math"
	"slices"
	"testing"

	"cornhill/api"
	"cornhill/book"
	"cornhill/implied"
	"cornhill/match"
	"cornhill/refdata"
)

const (
	lowest  = math.MinInt64
	highest = math.MaxInt64
	// largest is the greatest quantity (MaxQty).
	largest = 1000000
	// most is the greatest number of orders (MaxOrders).
	most = 250
)

// sides are those that there are.
var sides = []int{api.Buy, api.Sell}

// rules are those that there are.
var rules = []int{api.First, api.Share, api.Mixed}

// noSides are numbers that are none. The last ones are right in their lower half or their last byte.
var noSides = []int{0, 3, -1, -2, 4, lowest, highest, 1<<32 + 1, 1<<32 + 2, -1<<32 + 1, 257, 258}

// noQuantities are quantities that no order has.
var noQuantities = []int64{0, -1, -2, -largest, lowest, lowest + 1, largest + 1, largest + 2, 1 << 32, 1<<32 + 1, highest - 1, highest}

// noInsts are numbers that no instrument of a product with so many months has.
func noInsts(months int) []int {
	count := months * (months + 1) / 2
	return []int{-1, -2, -count, count, count + 1, 2 * count, 21 + count, lowest, lowest + 1, highest - 1, highest, 1 << 32, 1<<32 + 1, -1 << 32, 256, 1 << 16}
}

// product is a valid one with so many months.
func product(months int) api.Product {
	return api.Product{
		Code: "CL", Months: []int{0, 11, 12, 312, 323, 1199}[:months:months], Tick: 5, Low: -100, High: 200, Wide: 50,
		Rule: api.First, Top: 3, Least: 2, Part: 40, Settle: []int64{-100, 0, 35, 200, 5, -5}[:months:months],
	}
}

// ruled is a valid one with so many months and that rule.
func ruled(months, rule int) api.Product {
	p := product(months)
	p.Rule = rule
	return p
}

// pair is a State, and the model to which all of its calls go too.
type pair struct {
	t     *testing.T
	state *match.State
	model model
	// calls are those that were made, written out for who reads of a fault.
	calls []string
	// ids are those that the calls have named.
	ids []int64
}

func newPair(t *testing.T, p api.Product) *pair {
	t.Helper()
	s, err := match.New(p)
	if err != api.OK || s == nil {
		t.Fatalf("P16.1: New(%+v): %v, %d", p, s, int(err))
	}
	return &pair{t: t, state: s, model: model{p: p}}
}

// o is an order that a test puts into a book.
type o struct {
	inst, side int
	price, qty int64
}

// with returns a pair with these orders, which have the IDs from 1 on.
func with(t *testing.T, p api.Product, orders ...o) *pair {
	t.Helper()
	s := newPair(t, p)
	for i, o := range orders {
		s.put(o.inst, int64(i+1), o.side, o.price, o.qty)
	}
	return s
}

// last are the newest calls.
func (p *pair) last() []string {
	return p.calls[max(0, len(p.calls)-20):]
}

func (p *pair) add(inst int, id int64, side int, price, qty int64) api.Errno {
	p.t.Helper()
	p.calls = append(p.calls, fmt.Sprintf("Add(%d, %d, %d, %d, %d)", inst, id, side, price, qty))
	p.ids = append(p.ids, id)
	err := p.state.Add(inst, id, side, price, qty)
	if want := p.model.add(inst, id, side, price, qty); err != want {
		p.t.Fatalf("P16.1: %d months, %v: %d, want %d", len(p.model.p.Months), p.last(), int(err), int(want))
	}
	return err
}

// put adds an order that can't be refused.
func (p *pair) put(inst int, id int64, side int, price, qty int64) {
	p.t.Helper()
	if err := p.add(inst, id, side, price, qty); err != api.OK {
		p.t.Fatalf("P16.1: %v: %d", p.last(), int(err))
	}
}

func (p *pair) take(id, qty int64) api.Errno {
	p.t.Helper()
	p.calls = append(p.calls, fmt.Sprintf("Take(%d, %d)", id, qty))
	p.ids = append(p.ids, id)
	err := p.state.Take(id, qty)
	if want := p.model.take(id, qty); err != want {
		p.t.Fatalf("P16.1: %v: %d, want %d", p.last(), int(err), int(want))
	}
	return err
}

// takeAll takes what there is of an order.
func (p *pair) takeAll(id int64) {
	p.t.Helper()
	at := p.model.find(id)
	if at < 0 {
		p.t.Fatalf("the test takes the order %d, which does not stand", id)
	}
	p.take(id, p.model.orders[at].Qty)
}

// could asks how much would be traded, and compares it with what the model would trade.
func (p *pair) could(inst, side int, price, qty int64) int64 {
	p.t.Helper()
	then := model{p.model.p, slices.Clone(p.model.orders)}
	steps, _ := then.run(inst, side, price, qty)
	var want int64
	for _, step := range steps {
		want += step.Qty
	}
	got := p.state.Could(inst, side, price, qty)
	if got != want {
		p.t.Fatalf("P16.3: %v: Could(%d, %d, %d, %d): %d, want %d", p.last(), inst, side, price, qty, got, want)
	}
	return got
}

// run asks Could, and then Run, and looks at what it answers from each side.
func (p *pair) run(inst, side int, price, qty int64) ([]match.Step, int64) {
	p.t.Helper()
	could, before := p.could(inst, side, price, qty), p.state.Count()
	p.calls = append(p.calls, fmt.Sprintf("Run(%d, %d, %d, %d)", inst, side, price, qty))
	steps, left := p.state.Run(inst, side, price, qty)
	wantSteps, wantLeft := p.model.run(inst, side, price, qty)
	if !sameSteps(steps, wantSteps) || left != wantLeft {
		p.t.Fatalf("P16.2: %v: %v, %d, want %v, %d", p.last(), steps, left, wantSteps, wantLeft)
	}
	if asked := p.model.asks(inst, side, qty); asked && could != qty-left || !asked && could != 0 {
		p.t.Fatalf("P16.3: %v: %d are left, but Could: %d", p.last(), left, could)
	}
	if used := before - p.state.Count(); len(steps) > used+1 {
		p.t.Fatalf("W5: %v: %d Steps, but only %d orders are used up", p.last(), len(steps), used)
	}
	p.checkLeft(inst, side, price, left)
	return steps, left
}

// checkLeft asks whether what is left could trade still.
func (p *pair) checkLeft(inst, side int, price, left int64) {
	p.t.Helper()
	if left <= 0 {
		return
	}
	satisfies := func(offered int64) bool { return !better(side, offered, price) }
	for _, l := range p.state.Ladder(inst, otherOf(side)) {
		if p.model.asks(inst, side, left) && satisfies(l.Price) {
			p.t.Fatalf("P16.4: %v: %d are left, and %v stands", p.last(), left, l)
		}
	}
	for _, q := range implied.Quotes(p.model.p, p.state.Tops(), inst, otherOf(side)) {
		if p.model.asks(inst, side, left) && satisfies(q.Price) {
			p.t.Fatalf("P16.4: %v: %d are left, and %v is implied", p.last(), left, q)
		}
	}
}

func sameSteps(a, b []match.Step) bool {
	return slices.EqualFunc(a, b, func(a, b match.Step) bool {
		return a.Price == b.Price && a.Qty == b.Qty && a.Implied == b.Implied && slices.Equal(a.Fills, b.Fills)
	})
}

// wantRun runs an order, and compares what it answers with what the test has worked out: {Price Qty Implied [{ID Inst Side Price Qty Left} ..]} of each Step, and what is left.
func (p *pair) wantRun(inst, side int, price, qty int64, want string) {
	p.t.Helper()
	steps, left := p.run(inst, side, price, qty)
	if got := fmt.Sprint(steps, left); got != want {
		p.t.Errorf("P16.2: %v: %s, want %s", p.last(), got, want)
	}
	p.check()
}

// check asks every question: of each instrument and side and of numbers that are none, and of each ID that was named and of others.
func (p *pair) check() {
	p.t.Helper()
	if got, want := p.state.Count(), len(p.model.orders); got != want {
		p.t.Fatalf("P16.1: %v: Count: %d, want %d", p.last(), got, want)
	}
	if got, want := p.state.Tops(), p.model.tops(); !slices.Equal(got, want) {
		p.t.Fatalf("P16.1: %v: Tops: %v, want %v", p.last(), got, want)
	}
	for inst := range instruments(len(p.model.p.Months)) {
		p.checkInst(inst)
	}
	for _, inst := range noInsts(len(p.model.p.Months)) {
		p.checkInst(inst)
	}
	for _, id := range distinct(append([]int64{0, -1, 1 << 32, lowest, highest}, p.ids...)) {
		p.checkFind(id)
	}
}

// checkInst asks for the orders and the ladders of an instrument, also of one that there isn't, for which the model has none either.
func (p *pair) checkInst(inst int) {
	p.t.Helper()
	want := slices.Concat(p.model.side(inst, api.Buy), p.model.side(inst, api.Sell))
	if got := p.state.Orders(inst); !slices.Equal(got, want) {
		p.t.Fatalf("P16.1: %v: Orders(%d): %v, want %v", p.last(), inst, got, want)
	}
	for _, side := range sides {
		if got, want := p.state.Ladder(inst, side), p.model.ladder(inst, side); !slices.Equal(got, want) {
			p.t.Fatalf("P16.1: %v: Ladder(%d, %d): %v, want %v", p.last(), inst, side, got, want)
		}
	}
	for _, side := range noSides {
		if got := p.state.Ladder(inst, side); len(got) != 0 {
			p.t.Fatalf("P16.1: %v: Ladder(%d, %d): %v, want none", p.last(), inst, side, got)
		}
	}
}

func (p *pair) checkFind(id int64) {
	p.t.Helper()
	var want standing
	at := p.model.find(id)
	if at >= 0 {
		want = p.model.orders[at]
	}
	if inst, got, ok := p.state.Find(id); inst != want.inst || got != want.Order || ok != (at >= 0) {
		p.t.Fatalf("P16.1: %v: Find(%d): %d, %v, %t, want %d, %v, %t", p.last(), id, inst, got, ok, want.inst, want.Order, at >= 0)
	}
}

// view is all that a State tells of its orders.
type view struct {
	count  int
	tops   []implied.Top
	orders [][]book.Order
	levels [][]book.Level
}

func viewOf(s *match.State, p api.Product) view {
	v := view{count: s.Count(), tops: s.Tops()}
	for inst := range refdata.Count(p) {
		v.orders = append(v.orders, s.Orders(inst))
		v.levels = append(v.levels, s.Ladder(inst, api.Buy), s.Ladder(inst, api.Sell))
	}
	return v
}

func (v view) same(w view) bool {
	return v.count == w.count && slices.Equal(v.tops, w.tops) &&
		slices.EqualFunc(v.orders, w.orders, slices.Equal[[]book.Order]) && slices.EqualFunc(v.levels, w.levels, slices.Equal[[]book.Level])
}

// distinct returns each of the numbers once, in ascending order.
func distinct(l []int64) []int64 {
	l = slices.Clone(l)
	slices.Sort(l)
	return slices.Compact(l)
}

// chance gives numbers by a rule, the same ones for each run.
type chance uint64

// below returns a number from 0 to n-1.
func (c *chance) below(n int64) int64 {
	*c = *c*6364136223846793005 + 1442695040888963407
	return int64(uint64(*c) >> 33 % uint64(n))
}

// of returns one of the numbers of l.
func (c *chance) of(l []int64) int64 { return l[c.below(int64(len(l)))] }
