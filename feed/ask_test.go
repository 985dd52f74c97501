package feed_test

import (
	"fmt"
	"math"
	"slices"
	"testing"

	"cornhill/api"
	"cornhill/book"
	"cornhill/feed"
	"cornhill/match"
)

const (
	lowest  = math.MinInt64
	highest = math.MaxInt64
)

// sides are those that there are.
var sides = []int{api.Buy, api.Sell}

// rules are those that there are.
var rules = []int{api.First, api.Share, api.Mixed}

// noSides are numbers that are none. The last ones are right in their lower half or their last byte.
var noSides = []int{0, 3, -1, -2, 4, lowest, highest, 1<<32 + 1, 1<<32 + 2, -1<<32 + 1, 257, 258}

// noInsts are numbers that no instrument of a View with so many has.
func noInsts(count int) []int {
	return []int{-1, -2, -count - 1, count, count + 1, 2*count + 1, lowest, lowest + 1, highest - 1, highest, 1 << 32, -1 << 32, 1 << 16}
}

// product is a valid one with so many months.
func product(months int) api.Product {
	return api.Product{
		Code: "CL", Months: []int{0, 11, 12, 312, 323, 1199}[:months:months], Tick: 5, Low: -100, High: 200, Wide: 50,
		Rule: api.First, Top: 3, Least: 2, Part: 40, Settle: []int64{-100, 0, 35, 200, 5, -5}[:months:months],
	}
}

// ruled is a valid one with so many months and that rule.
func ruled(months, rule int) api.Product {
	p := product(months)
	p.Rule = rule
	return p
}

// o is an order that a test puts into a book.
type o struct {
	inst, side int
	price, qty int64
}

// state is one with these orders, which have the IDs from 1 on.
func state(t *testing.T, p api.Product, orders ...o) *match.State {
	t.Helper()
	s, err := match.New(p)
	if err != api.OK {
		t.Fatalf("the test's product: %d", int(err))
	}
	for i, o := range orders {
		if err := s.Add(o.inst, int64(i+1), o.side, o.price, o.qty); err != api.OK {
			t.Fatalf("the test's order %v: %d", o, int(err))
		}
	}
	return s
}

// part is what a View has for a side of an instrument: its levels as price, quantity, count, one after the other, and its implied quote likewise.
type part struct {
	inst, side int
	levels     []int64
	implied    []int64
}

// viewOf is a View with so many instruments and these parts.
func viewOf(count int, parts ...part) feed.View {
	v := feed.View{Sides: make([][2]feed.Side, count)}
	for _, p := range parts {
		s := &v.Sides[p.inst][p.side-1]
		for l := range slices.Chunk(p.levels, 3) {
			s.Levels = append(s.Levels, book.Level{Price: l[0], Qty: l[1], Count: l[2]})
		}
		if p.implied != nil {
			s.Implied, s.Has = book.Level{Price: p.implied[0], Qty: p.implied[1], Count: p.implied[2]}, true
		}
	}
	return v
}

// level is a message of a level.
func level(inst, side int, price, qty, count int64) api.Msg {
	return api.Msg{Inst: inst, Side: side, Price: price, Qty: qty, Count: count}
}

// quote is a message of an implied quote.
func quote(inst, side int, price, qty, count int64) api.Msg {
	return api.Msg{Inst: inst, Side: side, Price: price, Qty: qty, Count: count, Implied: true}
}

// cloned is a View like v that shares nothing with it.
func cloned(v feed.View) feed.View {
	w := feed.View{Sides: slices.Clone(v.Sides)}
	for i := range w.Sides {
		for at := range w.Sides[i] {
			w.Sides[i][at].Levels = slices.Clone(w.Sides[i][at].Levels)
		}
	}
	return w
}

// equal compares what two Views print, since Same is what is tested.
func equal(a, b feed.View) bool {
	return fmt.Sprint(a) == fmt.Sprint(b)
}

// wantSame asks Same in both ways, and compares it with what the test knows.
func wantSame(t *testing.T, a, b feed.View, want bool) {
	t.Helper()
	if feed.Same(a, b) != want || feed.Same(b, a) != want {
		t.Fatalf("P19.1: Same(%v, %v): %t and %t, want %t", a, b, feed.Same(a, b), feed.Same(b, a), want)
	}
}

// diff asks Diff, and compares it with the model.
func diff(t *testing.T, a, b feed.View, seq int64) []api.Msg {
	t.Helper()
	got, want := feed.Diff(a, b, seq), diffModel(a, b, seq)
	if !slices.Equal(got, want) {
		t.Fatalf("P19.2: Diff(%v, %v, %d): %v, want %v", a, b, seq, got, want)
	}
	return got
}

// wantDiff compares it with what the test has worked out: {Seq Inst Side Price Qty Count Implied} of each message.
func wantDiff(t *testing.T, a, b feed.View, seq int64, want string) {
	t.Helper()
	if got := fmt.Sprint(diff(t, a, b, seq)); got != want {
		t.Errorf("P19.2: Diff(%v, %v, %d): %s, want %s", a, b, seq, got, want)
	}
}

// apply asks Apply, and compares it with the model. The View that is handed in stays as it was.
func apply(t *testing.T, v feed.View, m api.Msg) feed.View {
	t.Helper()
	before := fmt.Sprint(v)
	got, err := feed.Apply(v, m)
	if fmt.Sprint(v) != before {
		t.Fatalf("R2: Apply(.., %v) has changed %s to %v", m, before, v)
	}
	if wantErr := applyErr(v, m); err != wantErr || err != api.OK && len(got.Sides) != 0 {
		t.Fatalf("P19.2: Apply(%v, %v): %v, %d, want %d", v, m, got, int(err), int(wantErr))
	}
	if err != api.OK {
		return got
	}
	if want := factsOf(v).after(m).view(len(v.Sides)); !equal(got, want) {
		t.Fatalf("P19.2: Apply(%v, %v): %v, want %v", v, m, got, want)
	}
	return got
}

// wantErr asks for a message that can't be applied.
func wantErr(t *testing.T, v feed.View, m api.Msg, want api.Errno) {
	t.Helper()
	apply(t, v, m)
	if _, err := feed.Apply(v, m); err != want {
		t.Errorf("P19.2: Apply(%v, %v): %d, want %d", v, m, int(err), int(want))
	}
}

// wantView compares the View after a message with what the test has worked out.
func wantView(t *testing.T, v feed.View, m api.Msg, want feed.View) {
	t.Helper()
	if got := apply(t, v, m); !equal(got, want) {
		t.Errorf("P19.2: Apply(%v, %v): %v, want %v", v, m, got, want)
	}
}

// leads asks whether the messages from a to b, applied one after the other, give b.
func leads(t *testing.T, a, b feed.View, seq int64) []api.Msg {
	t.Helper()
	l := diff(t, a, b, seq)
	now := a
	for _, m := range l {
		v, err := feed.Apply(now, m)
		if err != api.OK {
			t.Fatalf("P19.4: Apply(%v, %v): %d", now, m, int(err))
		}
		now = v
	}
	if !feed.Same(now, b) || !equal(now, b) {
		t.Fatalf("P19.4: from %v to %v: %v leads to %v", a, b, l, now)
	}
	return l
}

// chance gives numbers by a rule, the same ones for each run.
type chance uint64

// below returns a number from 0 to n-1.
func (c *chance) below(n int64) int64 {
	*c = *c*6364136223846793005 + 1442695040888963407
	return int64(uint64(*c) >> 33 % uint64(n))
}

// of returns one of the numbers of l.
func (c *chance) of(l ...int64) int64 { return l[c.below(int64(len(l)))] }
