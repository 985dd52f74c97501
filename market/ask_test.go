package market_test

import (
	"fmt"
	"math"
	"slices"
	"strings"
	"testing"

	"cornhill/api"
	"cornhill/book"
	"cornhill/implied"
	"cornhill/market"
	"cornhill/match"
	"cornhill/refdata"
	"cornhill/report"
)

const (
	lowest  = math.MinInt64
	highest = math.MaxInt64
	// largest is the greatest quantity (MaxQty), and so is most of orders (MaxOrders), and lastID of IDs (MaxID).
	largest = 1000000
	most    = 250
	lastID  = 1099511627776
)

// sides are those that there are.
var sides = []int{api.Buy, api.Sell}

// rules are those that there are.
var rules = []int{api.First, api.Share, api.Mixed}

// product is a valid one with so many months.
func product(months int) api.Product {
	return api.Product{
		Code: "CL", Months: []int{0, 11, 12, 312, 323, 1199}[:months:months], Tick: 5, Low: -100, High: 200, Wide: 50,
		Rule: api.First, Top: 3, Least: 2, Part: 40, Settle: []int64{-100, 0, 35, 200, 5, -5}[:months:months],
	}
}

// ruled is a valid one with so many months and that rule.
func ruled(months, rule int) api.Product {
	p := product(months)
	p.Rule = rule
	return p
}

// day is a command of Kind New for the day.
func day(id int64, inst, side int, price, qty int64) api.Command {
	return api.Command{Kind: api.New, ID: id, Inst: inst, Side: side, Price: price, Qty: qty, Time: api.Day}
}

// timed is a command of Kind New like c, for another time.
func timed(c api.Command, time int) api.Command {
	c.Time = time
	return c
}

// atLeast is a command of Kind New like c, of which so much must trade.
func atLeast(c api.Command, least int64) api.Command {
	c.Least = least
	return c
}

func cancel(id int64) api.Command { return api.Command{Kind: api.Cancel, ID: id} }

func reduce(id, qty int64) api.Command { return api.Command{Kind: api.Reduce, ID: id, Qty: qty} }

func replace(id, price, qty int64) api.Command {
	return api.Command{Kind: api.Replace, ID: id, Price: price, Qty: qty}
}

// pair is a Market, and the model to which all of its commands go too.
type pair struct {
	t      *testing.T
	market *market.Market
	model  *model
	ledger ledger
	// commands are those that were given, for who reads of a fault.
	commands []api.Command
}

func newPair(t *testing.T, p api.Product) *pair {
	t.Helper()
	m, err := market.New(p)
	if err != api.OK || m == nil {
		t.Fatalf("P17.1: New(%+v): %v, %d", p, m, int(err))
	}
	return &pair{t: t, market: m, model: newModel(p), ledger: ledger{}}
}

// o is an order for the day.
type o struct {
	inst, side int
	price, qty int64
}

// with returns a pair with these orders, which have the IDs from 1 on.
func with(t *testing.T, p api.Product, orders ...o) *pair {
	t.Helper()
	m := newPair(t, p)
	for i, o := range orders {
		m.put(day(int64(i+1), o.inst, o.side, o.price, o.qty))
	}
	return m
}

// last are the newest commands.
func (p *pair) last() string {
	return fmt.Sprint(len(p.commands), " commands: ", p.commands[max(0, len(p.commands)-25):])
}

// do gives both a command, and asks whether they tell the same of it.
func (p *pair) do(c api.Command) []api.Report {
	p.t.Helper()
	p.commands = append(p.commands, c)
	before := p.model.state.Count()
	got, want := p.market.Do(c), p.model.do(c)
	if !slices.Equal(got, want) {
		p.t.Fatalf("P17: %s: %s, want %s", p.last(), texts(got), texts(want))
	}
	if steps, gone := stepsOf(c, got), before-p.model.state.Count(); steps > gone+1 {
		p.t.Fatalf("W5: %s: %d Steps, but only %d orders are used up", p.last(), steps, gone)
	}
	if err := p.ledger.add(p.model.p, got); err != "" {
		p.t.Fatalf("W2: %s: %s: %s", p.last(), err, texts(got))
	}
	if got, want := p.market.Count(), p.model.state.Count(); got != want {
		p.t.Fatalf("P17.4: %s: Count: %d, want %d", p.last(), got, want)
	}
	p.checkID(c.ID)
	return got
}

// stepsOf returns the number of the Steps of a command, for each of which the order itself is told of once.
func stepsOf(c api.Command, l []api.Report) int {
	steps, inst := 0, 0
	for _, r := range l {
		if r.Kind == api.Accepted {
			inst = r.Inst
		}
		if r.Kind == api.Traded && r.ID == c.ID && r.Inst == inst {
			steps++
		}
	}
	return steps
}

// put gives a command that can't be refused.
func (p *pair) put(c api.Command) {
	p.t.Helper()
	if l := p.do(c); l[0].Kind == api.Rejected {
		p.t.Fatalf("P17.1: %s: %s", p.last(), texts(l))
	}
}

// texts are the reports as text, with all their fields: the Kind, ID, Inst, Side, Price, Qty, Left and Why.
func texts(l []api.Report) string {
	var s []string
	for _, r := range l {
		s = append(s, report.Text(r))
	}
	return strings.Join(s, "; ")
}

// tells gives a command, and compares what is told with what the test has worked out.
func (p *pair) tells(c api.Command, reports ...string) {
	p.t.Helper()
	if got, want := texts(p.do(c)), strings.Join(reports, "; "); got != want {
		p.t.Errorf("P17: %s: %s, want %s", p.last(), got, want)
	}
}

// want does the same, and asks every question behind it.
func (p *pair) want(c api.Command, reports ...string) {
	p.t.Helper()
	p.tells(c, reports...)
	p.check()
}

// refuses gives a command that is refused for this reason, which is told in one report and changes nothing.
func (p *pair) refuses(promise string, c api.Command, err api.Errno) {
	p.t.Helper()
	before, used := viewOf(p.market.State(), p.model.p), p.market.Used(c.ID)
	got := p.do(c)
	if want := []api.Report{{Kind: api.Rejected, ID: c.ID, Why: err}}; !slices.Equal(got, want) {
		p.t.Fatalf("%s: %s: %s, want %s", promise, p.last(), texts(got), texts(want))
	}
	if now := viewOf(p.market.State(), p.model.p); !now.same(before) || p.market.Used(c.ID) != used || p.market.Count() != before.count {
		p.t.Fatalf("R3: %s: it has changed %v to %v", p.last(), before, now)
	}
}

// check asks every question, and whether the books are as they must be.
func (p *pair) check() {
	p.t.Helper()
	state := p.market.State()
	got, want := viewOf(state, p.model.p), viewOf(p.model.state, p.model.p)
	if !got.same(want) {
		p.t.Fatalf("P17.4: %s: State: %v, want %v", p.last(), got, want)
	}
	for _, id := range p.ids() {
		p.checkID(id)
	}
	if err := p.ledger.compare(want); err != "" {
		p.t.Fatalf("P17.5: %s: %s", p.last(), err)
	}
	if err := crossed(p.model.p, state); err != "" {
		p.t.Fatalf("P17.5: %s: %s", p.last(), err)
	}
}

// ids are those of the commands, and others.
func (p *pair) ids() []int64 {
	l := []int64{0, -1, 1, lowest, highest, lastID, lastID + 1, 1 << 32}
	for _, c := range p.commands {
		l = append(l, c.ID)
	}
	slices.Sort(l)
	return slices.Compact(l)
}

// checkID asks for an order, and whether it was accepted once.
func (p *pair) checkID(id int64) {
	p.t.Helper()
	inst, got, ok := p.market.Find(id)
	if wantInst, want, wantOK := p.model.state.Find(id); inst != wantInst || got != want || ok != wantOK {
		p.t.Fatalf("P17.4: %s: Find(%d): %d, %v, %t, want %d, %v, %t", p.last(), id, inst, got, ok, wantInst, want, wantOK)
	}
	if got, want := p.market.Used(id), p.model.used[id] > 0; got != want {
		p.t.Fatalf("P17.4: %s: Used(%d): %t, want %t", p.last(), id, got, want)
	}
}

// view is all that a State tells of its orders.
type view struct {
	count  int
	tops   []implied.Top
	orders [][]book.Order
	levels [][]book.Level
}

func viewOf(s *match.State, p api.Product) view {
	v := view{count: s.Count(), tops: s.Tops()}
	for inst := range refdata.Count(p) {
		v.orders = append(v.orders, s.Orders(inst))
		v.levels = append(v.levels, s.Ladder(inst, api.Buy), s.Ladder(inst, api.Sell))
	}
	return v
}

func (v view) same(w view) bool {
	return v.count == w.count && slices.Equal(v.tops, w.tops) &&
		slices.EqualFunc(v.orders, w.orders, slices.Equal[[]book.Order]) && slices.EqualFunc(v.levels, w.levels, slices.Equal[[]book.Level])
}

// chance gives numbers by a rule, the same ones for each run.
type chance uint64

// below returns a number from 0 to n-1.
func (c *chance) below(n int64) int64 {
	*c = *c*6364136223846793005 + 1442695040888963407
	return int64(uint64(*c) >> 33 % uint64(n))
}

// of returns one of the numbers of l.
func (c *chance) of(l ...int64) int64 { return l[c.below(int64(len(l)))] }
