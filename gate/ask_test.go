package gate_test

import (
	"encoding/binary"
	"fmt"
	"math"
	"slices"
	"strings"
	"testing"

	"cornhill/api"
	"cornhill/book"
	"cornhill/gate"
	"cornhill/implied"
	"cornhill/match"
	"cornhill/refdata"
	"cornhill/report"
)

const (
	lowest  = math.MinInt64
	highest = math.MaxInt64
	// largest is the greatest quantity (MaxQty), and so are room of orders (MaxOrders), most of those of a session (MaxOpen), lastID of IDs (MaxID) and sessions of sessions (MaxSess).
	largest  = 1000000
	room     = 250
	most     = 64
	lastID   = 1099511627776
	sessions = 8
)

// sides are those that there are.
var sides = []int{api.Buy, api.Sell}

// rules are those that there are.
var rules = []int{api.First, api.Share, api.Mixed}

// noSessions are numbers that no session has.
var noSessions = []int{-1, sessions, -2, 9, 63, 64, 255, 256, 257, 1 << 32, -sessions, lowest, highest}

// product is a valid one with so many months.
func product(months int) api.Product {
	return api.Product{
		Code: "CL", Months: []int{0, 11, 12, 312, 323, 1199}[:months:months], Tick: 5, Low: -100, High: 200, Wide: 50,
		Rule: api.First, Top: 3, Least: 2, Part: 40, Settle: []int64{-100, 0, 35, 200, 5, -5}[:months:months],
	}
}

// ruled is a valid one with so many months and that rule.
func ruled(months, rule int) api.Product {
	p := product(months)
	p.Rule = rule
	return p
}

// day is a command of Kind New for the day.
func day(id int64, inst, side int, price, qty int64) api.Command {
	return api.Command{Kind: api.New, ID: id, Inst: inst, Side: side, Price: price, Qty: qty, Time: api.Day}
}

// timed is a command of Kind New like c, for another time.
func timed(c api.Command, time int) api.Command {
	c.Time = time
	return c
}

// atLeast is a command of Kind New like c, of which so much must trade.
func atLeast(c api.Command, least int64) api.Command {
	c.Least = least
	return c
}

// labelled is a command of Kind New like c, with a label.
func labelled(c api.Command, label string) api.Command {
	c.Label = label
	return c
}

func cancel(id int64) api.Command { return api.Command{Kind: api.Cancel, ID: id} }

func reduce(id, qty int64) api.Command { return api.Command{Kind: api.Reduce, ID: id, Qty: qty} }

func replace(id, price, qty int64) api.Command {
	return api.Command{Kind: api.Replace, ID: id, Price: price, Qty: qty}
}

// bytesOf returns the bytes of a command by the chapter of commands, whether it is valid or not.
func bytesOf(c api.Command) []byte {
	b := []byte{byte(c.Kind)}
	long := func(n int64) { b = binary.LittleEndian.AppendUint64(b, uint64(n)) }
	long(c.ID)
	switch c.Kind {
	case api.New:
		b = append(b, byte(c.Inst), byte(c.Side), byte(c.Time))
		long(c.Price)
		long(c.Qty)
		long(c.Least)
		b = append(append(b, byte(len(c.Label))), c.Label...)
	case api.Reduce:
		long(c.Qty)
	case api.Replace:
		long(c.Price)
		long(c.Qty)
	}
	return b
}

// pair is a Gate, and the model to which all that is given to it goes too.
type pair struct {
	t     *testing.T
	gate  *gate.Gate
	model *model
	// asked is what was given, for who reads of a fault, and ids are the IDs in it.
	asked []string
	ids   []int64
}

func newPair(t *testing.T, p api.Product) *pair {
	t.Helper()
	g, err := gate.New(p)
	if err != api.OK || g == nil {
		t.Fatalf("P18.1: New(%+v): %v, %d", p, g, int(err))
	}
	return &pair{t: t, gate: g, model: newModel(p), ids: []int64{0, -1, 1, lowest, highest, lastID, lastID + 1, 1 << 32}}
}

// last is what was given last.
func (p *pair) last() string {
	return fmt.Sprint(len(p.asked), " asked: ", strings.Join(p.asked[max(0, len(p.asked)-25):], ", "))
}

// send gives both the bytes, and asks whether they tell the same of it.
func (p *pair) send(session int, b []byte) []gate.Out {
	p.t.Helper()
	p.asked = append(p.asked, fmt.Sprintf("%d: % x", session, b))
	return p.both(session, b)
}

// ask gives both a command.
func (p *pair) ask(session int, c api.Command) []gate.Out {
	p.t.Helper()
	p.asked = append(p.asked, fmt.Sprint(session, ": ", c))
	p.ids = append(p.ids, c.ID)
	return p.both(session, bytesOf(c))
}

func (p *pair) both(session int, b []byte) []gate.Out {
	p.t.Helper()
	got, want := p.gate.Do(session, b), p.model.do(session, b)
	if !slices.Equal(got, want) {
		p.t.Fatalf("P18.1: %s: %s, want %s", p.last(), texts(got), texts(want))
	}
	p.checkSessions()
	for _, o := range got {
		p.checkOwner(o.Report.ID)
	}
	return got
}

// put gives a command that can't be refused.
func (p *pair) put(session int, c api.Command) {
	p.t.Helper()
	if l := p.ask(session, c); l[0].Report.Kind == api.Rejected {
		p.t.Fatalf("P18.1: %s: %s", p.last(), texts(l))
	}
}

// texts are the Outs as text: the session, and the Kind, ID, Inst, Side, Price, Qty, Left and Why of the report.
func texts(l []gate.Out) string {
	var s []string
	for _, o := range l {
		s = append(s, fmt.Sprint(o.Session, ": ", report.Text(o.Report)))
	}
	return strings.Join(s, "; ")
}

// tells gives a command, and compares what is told with what the test has worked out.
func (p *pair) tells(session int, c api.Command, outs ...string) {
	p.t.Helper()
	if got, want := texts(p.ask(session, c)), strings.Join(outs, "; "); got != want {
		p.t.Errorf("P18.1: %s: %s, want %s", p.last(), got, want)
	}
}

// want does the same, and asks every question behind it.
func (p *pair) want(session int, c api.Command, outs ...string) {
	p.t.Helper()
	p.tells(session, c, outs...)
	p.check()
}

// refuses gives a command that is refused for this reason, which is told to the session in one report and changes nothing.
func (p *pair) refuses(session int, c api.Command, err api.Errno) {
	p.t.Helper()
	before := p.sight(c.ID)
	got := p.ask(session, c)
	if want := []gate.Out{{Session: session, Report: api.Report{Kind: api.Rejected, ID: c.ID, Why: err}}}; !slices.Equal(got, want) {
		p.t.Fatalf("P18.1: %s: %s, want %s", p.last(), texts(got), texts(want))
	}
	p.unchanged(before, c.ID)
}

// refusesBytes gives bytes that Check doesn't accept, of which no ID is told.
func (p *pair) refusesBytes(session int, b []byte, err api.Errno) {
	p.t.Helper()
	before := p.sight()
	if got := p.gate.Check(session, b); got != err {
		p.t.Fatalf("P18.1: %s: Check(%d, % x): %d, want %d", p.last(), session, b, int(got), int(err))
	}
	p.unchanged(before)
	got := p.send(session, b)
	if want := []gate.Out{{Session: session, Report: api.Report{Kind: api.Rejected, Why: err}}}; !slices.Equal(got, want) {
		p.t.Fatalf("P18.1: %s: %s, want %s", p.last(), texts(got), texts(want))
	}
	p.unchanged(before)
}

// sight is all that a Gate tells: of its market, of IDs and of sessions.
type sight struct {
	market view
	others string
}

// sight asks of all IDs that were given, and of these.
func (p *pair) sight(ids ...int64) sight {
	m := p.gate.Market()
	var s []string
	for _, id := range append(slices.Clone(p.ids), ids...) {
		owner, ok := p.gate.Owner(id)
		s = append(s, fmt.Sprint(id, owner, ok, m.Used(id)))
	}
	// An ID is given again and again.
	slices.Sort(s)
	s = slices.Compact(s)
	for session := range sessions {
		s = append(s, fmt.Sprint(p.gate.Open(session)))
	}
	return sight{viewOf(m.State(), p.model.p), strings.Join(s, "; ")}
}

// unchanged asks whether the Gate still tells what it told before.
func (p *pair) unchanged(before sight, ids ...int64) {
	p.t.Helper()
	if now := p.sight(ids...); !now.market.same(before.market) || now.others != before.others {
		p.t.Fatalf("R3: %s: it has changed %v to %v", p.last(), before, now)
	}
}

// check asks every question.
func (p *pair) check() {
	p.t.Helper()
	m, want := p.gate.Market(), p.model.market
	if m == nil {
		p.t.Fatalf("P18.1: %s: there is no Market", p.last())
	}
	if one, other := viewOf(m.State(), p.model.p), viewOf(want.State(), p.model.p); !one.same(other) {
		p.t.Fatalf("P18.1: %s: Market: %v, want %v", p.last(), one, other)
	}
	if m.Count() != want.Count() {
		p.t.Fatalf("P18.1: %s: Market: Count: %d, want %d", p.last(), m.Count(), want.Count())
	}
	for _, id := range p.ids {
		p.checkOwner(id)
		if got, want := fmt.Sprint(m.Find(id)), fmt.Sprint(want.Find(id)); got != want {
			p.t.Fatalf("P18.1: %s: Market: Find(%d): %s, want %s", p.last(), id, got, want)
		}
		if got, want := m.Used(id), want.Used(id); got != want {
			p.t.Fatalf("P18.1: %s: Market: Used(%d): %t, want %t", p.last(), id, got, want)
		}
	}
	p.checkSessions()
}

// checkOwner asks whose order it is.
func (p *pair) checkOwner(id int64) {
	p.t.Helper()
	got, ok := p.gate.Owner(id)
	if want, wantOK := p.model.owner(id); got != want || ok != wantOK {
		p.t.Fatalf("P18.1: %s: Owner(%d): %d, %t, want %d, %t", p.last(), id, got, ok, want, wantOK)
	}
}

// checkSessions asks for the number of each session's orders.
func (p *pair) checkSessions() {
	p.t.Helper()
	for session, want := range p.model.opens() {
		if got := p.gate.Open(session); got != want {
			p.t.Fatalf("P18.1: %s: Open(%d): %d, want %d", p.last(), session, got, want)
		}
	}
	for _, session := range noSessions {
		if got := p.gate.Open(session); got != 0 {
			p.t.Fatalf("P18.1: %s: Open(%d): %d", p.last(), session, got)
		}
	}
}

// view is all that a State tells of its orders.
type view struct {
	count  int
	tops   []implied.Top
	orders [][]book.Order
	levels [][]book.Level
}

func viewOf(s *match.State, p api.Product) view {
	v := view{count: s.Count(), tops: s.Tops()}
	for inst := range refdata.Count(p) {
		v.orders = append(v.orders, s.Orders(inst))
		v.levels = append(v.levels, s.Ladder(inst, api.Buy), s.Ladder(inst, api.Sell))
	}
	return v
}

func (v view) same(w view) bool {
	return v.count == w.count && slices.Equal(v.tops, w.tops) &&
		slices.EqualFunc(v.orders, w.orders, slices.Equal[[]book.Order]) && slices.EqualFunc(v.levels, w.levels, slices.Equal[[]book.Level])
}

// chance gives numbers by a rule, the same ones for each run.
type chance uint64

// below returns a number from 0 to n-1.
func (c *chance) below(n int64) int64 {
	*c = *c*6364136223846793005 + 1442695040888963407
	return int64(uint64(*c) >> 33 % uint64(n))
}

// of returns one of the numbers of l.
func (c *chance) of(l ...int64) int64 { return l[c.below(int64(len(l)))] }
