package feed_test

import (
	"testing"

	"cornhill/api"
	"cornhill/feed"
	"cornhill/market"
	"cornhill/refdata"
)

// draw is a command: mostly a new order, else one for an order that was accepted not long ago.
func (c *chance) draw(p api.Product, id int64) api.Command {
	inst := int(c.below(int64(refdata.Count(p))))
	price := c.below(13) * 5
	if inst >= len(p.Months) {
		price -= 30
	}
	cmd := api.Command{Kind: api.New, ID: id, Inst: inst, Side: int(c.of(1, 2)), Price: price, Qty: 1 + c.below(9), Time: int(c.of(1, 1, 1, 1, 1, 2, 3))}
	if kind := c.below(10); kind < 3 {
		cmd = api.Command{Kind: api.Cancel + int(kind), ID: id - 1 - c.below(40), Price: price, Qty: 1 + c.below(9)}
	}
	return cmd
}

// tally counts what the messages told.
type tally struct{ messages, news, gone, changed, quotes, noQuotes int }

func (n *tally) count(a feed.View, l []api.Msg) {
	for _, m := range l {
		n.messages++
		qty, _ := at(a.Sides[m.Inst][m.Side-1].Levels, m.Price)
		switch {
		case m.Implied && m.Qty == 0:
			n.noQuotes++
		case m.Implied:
			n.quotes++
		case m.Qty == 0:
			n.gone++
		case qty == 0:
			n.news++
		default:
			n.changed++
		}
	}
}

// TestRows: behind drawn commands the messages lead from each View to the next one, from earlier ones, and back (P19.1, P19.4).
func TestRows(t *testing.T) {
	seed := chance(1)
	for months := 2; months <= api.MaxExp; months++ {
		for _, rule := range rules {
			p := ruled(months, rule)
			m, _ := market.New(p)
			model := newLooker(p)
			views := []feed.View{feed.Look(p, m.State())}
			var n tally
			for id := range int64(110) {
				m.Do(seed.draw(p, 100+id))
				s := m.State()
				now, last := feed.Look(p, s), views[len(views)-1]
				if want := model.view(s); !equal(now, want) {
					t.Fatalf("P19.1: Look: %v, want %v", now, want)
				}
				n.count(last, leads(t, last, now, id))
				leads(t, now, last, -id)
				old := views[seed.below(int64(len(views)))]
				leads(t, old, now, 1<<40)
				leads(t, now, old, lowest)
				if same := len(feed.Diff(last, now, 0)) == 0; same != feed.Same(last, now) {
					t.Fatalf("P19.2: Same(%v, %v): %t", last, now, !same)
				}
				views = append(views, now)
			}
			if n.news < 30 || n.gone < 10 || n.changed < 8 || n.quotes < 30 || n.noQuotes < 2 {
				t.Fatalf("the test draws too little: %d months, rule %d: %+v", months, rule, n)
			}
		}
	}
}

// drawn is a View that no state need have: levels and quotes by chance.
func (c *chance) drawn(count int) feed.View {
	v := viewOf(count)
	for range c.below(40) {
		m := level(int(c.below(int64(count))), int(c.of(1, 2)), c.below(21)-10, 1+c.below(3), 1+c.below(2))
		m.Implied = c.below(6) == 0
		v, _ = feed.Apply(v, m)
	}
	return v
}

// TestDrawnViews: messages lead from any View whose levels are in order to any other one, and every message of Diff can be written (P19.3, P19.4).
func TestDrawnViews(t *testing.T) {
	seed := chance(2)
	for range 1500 {
		count := 1 + int(seed.below(4))
		a, b := seed.drawn(count), seed.drawn(count)
		for _, m := range leads(t, a, b, seed.below(1000)-500) {
			wantBytes(t, m)
		}
	}
}
