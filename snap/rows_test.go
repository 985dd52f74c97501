package snap_test

import (
	"testing"

	"cornhill/api"
	"cornhill/feed"
	"cornhill/market"
	"cornhill/match"
	"cornhill/refdata"
	"cornhill/snap"
)

// rules are those that there are.
var rules = []int{api.First, api.Share, api.Mixed}

// product is a valid one with so many months and that rule.
func product(months, rule int) api.Product {
	return api.Product{
		Code: "CL", Months: []int{0, 11, 12, 312, 323, 1199}[:months:months], Tick: 5, Low: -100, High: 200, Wide: 50,
		Rule: rule, Top: 3, Least: 2, Part: 40, Settle: []int64{-100, 0, 35, 200, 5, -5}[:months:months],
	}
}

// draw is a command: mostly a new order, else one for an order that was accepted not long ago.
func (c *chance) draw(p api.Product, id int64) api.Command {
	inst := int(c.below(int64(refdata.Count(p))))
	price := c.below(13) * 5
	if inst >= len(p.Months) {
		price -= 30
	}
	cmd := api.Command{Kind: api.New, ID: id, Inst: inst, Side: int(c.of(1, 2)), Price: price, Qty: 1 + c.below(9), Time: int(c.of(1, 1, 1, 1, 1, 2, 3))}
	if kind := c.below(10); kind < 3 {
		cmd = api.Command{Kind: api.Cancel + int(kind), ID: id - 1 - c.below(40), Price: price, Qty: 1 + c.below(9)}
	}
	return cmd
}

// comesBack asks for the snapshot of a View, and for the View of the snapshot.
func comesBack(t *testing.T, v feed.View, seq int64) feed.View {
	t.Helper()
	if !snap.Right(v) {
		t.Fatalf("P20.1: Right(%s): false", text(v))
	}
	b, err := snap.Encode(v, seq)
	if err != api.OK {
		t.Fatalf("P20.1: Encode(%s, %d): %d", text(v), seq, int(err))
	}
	got, gotSeq, err := snap.Decode(b)
	if err != api.OK || gotSeq != seq || !feed.Same(got, v) {
		t.Fatalf("P20.1: Decode(Encode(%s, %d)): %s, %d, %d", text(v), seq, text(got), gotSeq, int(err))
	}
	wantBytes(t, v, seq)
	return got
}

// TestRows: behind drawn commands each View is valid and its snapshot comes back, and the messages behind a snapshot lead from it to each later View (P20.1, W4, W5).
func TestRows(t *testing.T) {
	seed := chance(1)
	for months := 2; months <= api.MaxExp; months++ {
		for _, rule := range rules {
			p := product(months, rule)
			m, _ := market.New(p)
			last := feed.Look(p, m.State())
			back := comesBack(t, last, 0)
			levels, quotes, seq := 0, 0, int64(0)
			for id := range int64(110) {
				m.Do(seed.draw(p, 100+id))
				now := feed.Look(p, m.State())
				for _, msg := range feed.Diff(last, now, seq) {
					seq = msg.Seq
					next, err := feed.Apply(back, msg)
					if err != api.OK {
						t.Fatalf("W4: Apply(%v, %v): %d", back, msg, int(err))
					}
					back = comesBack(t, next, seq)
				}
				if !feed.Same(back, now) {
					t.Fatalf("W4: the messages behind a snapshot lead to %v, want %v", back, now)
				}
				comesBack(t, now, seq)
				l, q := size(now)
				levels, quotes, last = max(levels, l), max(quotes, q), now
			}
			if levels < 8 || quotes < 2 {
				t.Fatalf("the test draws too little: %d months, rule %d: %d levels, %d quotes", months, rule, levels, quotes)
			}
		}
	}
}

// size counts the levels and the implied quotes of a View.
func size(v feed.View) (int, int) {
	levels, quotes := 0, 0
	for _, both := range v.Sides {
		for _, s := range both {
			levels += len(s.Levels)
			if s.Has {
				quotes++
			}
		}
	}
	return levels, quotes
}

// TestFullBooks: as many orders as there may be, all on one side at prices of their own, or spread over all sides (P20.1).
func TestFullBooks(t *testing.T) {
	wide := product(2, api.First)
	wide.Tick, wide.Low, wide.High, wide.Settle = 1, -1000, 1000, []int64{0, 0}
	everyLevel := func(inst, side int) {
		s, _ := match.New(wide)
		for i := range int64(api.MaxOrders) {
			price := i
			if inst == 2 {
				price = i%100 - 50
			}
			if err := s.Add(inst, i+1, side, price, api.MaxQty); err != api.OK {
				t.Fatalf("the test's order %d: %d", i, int(err))
			}
		}
		v := comesBack(t, feed.Look(wide, s), 1<<40)
		if levels, _ := size(v); levels != 250 && inst < 2 || levels != 100 && inst == 2 {
			t.Errorf("the test's View has %d levels", levels)
		}
	}
	everywhere(everyLevel)
	for _, rule := range rules {
		p := product(6, rule)
		s, _ := match.New(p)
		for i := range int64(api.MaxOrders) {
			inst := int(i) % refdata.Count(p)
			if err := s.Add(inst, i+1, sides[i/21%2], i*7%60*5%50, api.MaxQty); err != api.OK {
				t.Fatalf("the test's order %d: %d", i, int(err))
			}
		}
		comesBack(t, feed.Look(p, s), -1)
	}
}

// TestEmptyBooks: a View without orders, and one of no state (P20.1).
func TestEmptyBooks(t *testing.T) {
	for months := 2; months <= api.MaxExp; months++ {
		p := product(months, api.First)
		s, _ := match.New(p)
		if got := comesBack(t, feed.Look(p, s), 0); len(got.Sides) != refdata.Count(p) {
			t.Errorf("P20.1: the View of an empty state comes back as %v", got)
		}
		comesBack(t, feed.Look(p, nil), 0)
	}
	comesBack(t, feed.Look(api.Product{}, nil), 0)
}

// TestDrawnViews: Views that no state need have, put together of messages (P20.1).
func TestDrawnViews(t *testing.T) {
	seed := chance(2)
	for range 1500 {
		count := 1 + int(seed.below(5))
		v := viewOf(count)
		for range seed.below(40) {
			m := api.Msg{Inst: int(seed.below(int64(count))), Side: int(seed.of(1, 2)), Price: seed.below(21) - 10, Qty: 1 + seed.below(3), Count: 1 + seed.below(2), Implied: seed.below(6) == 0}
			v, _ = feed.Apply(v, m)
		}
		comesBack(t, v, seed.of(numbers...))
	}
}

// TestDrawnSides: Views of drawn sides, valid ones and others (P20.1).
func TestDrawnSides(t *testing.T) {
	seed := chance(4)
	right, wrong := 0, 0
	for range 20000 {
		v := viewOf(1 + int(seed.below(3)))
		for inst := range v.Sides {
			for at, side := range sides {
				s := &v.Sides[inst][at]
				s.Levels = ladder(side, int(seed.below(5)))
				if s.Has = seed.below(2) == 0; s.Has {
					s.Implied.Price, s.Implied.Qty, s.Implied.Count = seed.below(9)-4, 1+seed.below(9), 1+seed.below(9)
				}
			}
		}
		if seed.below(2) == 0 {
			s := &v.Sides[seed.below(int64(len(v.Sides)))][seed.below(2)]
			l := &s.Implied
			if len(s.Levels) > 0 && seed.below(3) > 0 {
				l = &s.Levels[seed.below(int64(len(s.Levels)))]
			}
			*numbersOf(l)[seed.below(3)] = seed.below(31) - 15
		}
		if rightModel(v) {
			right++
		} else {
			wrong++
		}
		wantRight(t, v, rightModel(v))
	}
	if right < 5000 || wrong < 5000 {
		t.Errorf("the test draws too little: %d right, %d wrong", right, wrong)
	}
}
