package feed_test

import (
	"fmt"
	"testing"

	"cornhill/api"
	"cornhill/book"
	"cornhill/feed"
)

// spoil writes into all of a list, and into the room behind it.
func spoil[T any](l []T, value T) {
	l = l[:cap(l)]
	for i := range l {
		l[i] = value
	}
}

// junk is what tests write over what they own.
var junk = book.Level{Price: -77, Qty: -77, Count: -77}

// spoilView writes over all of a View.
func spoilView(v feed.View) {
	for _, both := range v.Sides {
		for _, s := range both {
			spoil(s.Levels, junk)
		}
	}
	spoil(v.Sides, [2]feed.Side{{Implied: junk, Has: true}, {Implied: junk, Has: true}})
}

// roomy is a View like v with room behind each of its lists, in which something stands.
func roomy(v feed.View) feed.View {
	w := feed.View{Sides: make([][2]feed.Side, len(v.Sides), len(v.Sides)+2)}
	copy(w.Sides, v.Sides)
	for inst := range w.Sides {
		for at := range 2 {
			s := &w.Sides[inst][at]
			l := make([]book.Level, len(s.Levels), len(s.Levels)+3)
			spoil(l, junk)
			copy(l, s.Levels)
			s.Levels = l
		}
	}
	for i := range 2 {
		w.Sides[:cap(w.Sides)][len(w.Sides)+i] = [2]feed.Side{{Levels: []book.Level{junk}, Implied: junk}, {Has: true}}
	}
	return w
}

// all prints a View and the room behind each of its lists.
func all(v feed.View) string {
	text := fmt.Sprint(v, v.Sides[:cap(v.Sides)])
	for _, both := range v.Sides {
		for _, s := range both {
			text += fmt.Sprint(s.Levels[:cap(s.Levels)])
		}
	}
	return text
}

// apartLists asks whether no two lists of a View share memory: each of them is written over, with the room behind it, and the others stay.
func apartLists(t *testing.T, v feed.View) {
	t.Helper()
	for inst := range v.Sides {
		for at := range 2 {
			before := cloned(v)
			l := v.Sides[inst][at].Levels
			spoil(l, junk)
			copy(before.Sides[inst][at].Levels, l)
			if !equal(v, before) {
				t.Fatalf("R2: the levels of %d, %d share memory with others: %v", inst, at+1, v)
			}
		}
	}
}

// TestArgumentsStay: the Views that are handed in, and the room behind their lists, which is not read (R2, R5).
func TestArgumentsStay(t *testing.T) {
	a, b := roomy(sample()), roomy(sample())
	b.Sides[0][0].Levels[1].Qty++
	b.Sides[1][1].Levels = b.Sides[1][1].Levels[:2]
	b.Sides[2][0].Has = false
	// Levels that aren't in order are put in order, but not in the caller's list.
	l := b.Sides[2][1].Levels
	l[0], l[2] = l[2], l[0]
	beforeA, beforeB := all(a), all(b)
	stay := func(call string) {
		t.Helper()
		if all(a) != beforeA || all(b) != beforeB {
			t.Fatalf("R2: %s has changed a View to %s or %s", call, all(a), all(b))
		}
	}
	feed.Same(a, b)
	stay("Same")
	if got, want := fmt.Sprint(feed.Diff(a, b, 4)), "[{5 0 1 5 4 2 false} {6 1 2 25 0 0 false} {7 2 1 0 0 0 true}]"; got != want {
		t.Errorf("R5: Diff: %s, want %s", got, want)
	}
	stay("Diff")
	feed.Diff(b, a, 4)
	stay("Diff")
	for inst := range 3 {
		for _, side := range sides {
			for price := int64(-15); price <= 45; price += 5 {
				for _, qty := range []int64{0, 9} {
					for _, m := range []api.Msg{level(inst, side, price, qty, qty), quote(inst, side, price, qty, qty), level(inst, side, price, qty, -1)} {
						feed.Apply(a, m)
						feed.Apply(b, m)
						stay(fmt.Sprint("Apply of ", m))
					}
				}
			}
		}
	}
}

// TestViewsAreTheCallers: who writes into a View that was returned changes neither the state nor other Views, and no two of its lists share memory (R2).
func TestViewsAreTheCallers(t *testing.T) {
	p := product(3)
	s := state(t, p, o{0, 2, 20, 5}, o{0, 2, 25, 1}, o{0, 1, 10, 4}, o{1, 1, 5, 2}, o{1, 2, 15, 7}, o{3, 1, -5, 6}, o{3, 2, 30, 2}, o{5, 1, 10, 2}, o{5, 1, 5, 2})
	a, b := feed.Look(p, s), feed.Look(p, s)
	want := fmt.Sprint(b)
	apartLists(t, a)
	spoilView(a)
	if fmt.Sprint(b) != want || fmt.Sprint(look(t, p, s)) != want {
		t.Fatalf("R2: a View shares memory with another one, or with the state: %v", b)
	}
}

// TestAppliedApart: the View after a message shares nothing with the one before it, also where the message changes nothing (R2).
func TestAppliedApart(t *testing.T) {
	for _, m := range []api.Msg{level(0, 1, 5, 9, 9), level(0, 1, 7, 9, 9), level(0, 1, 5, 0, 0), level(0, 1, 7, 0, 0), quote(1, 2, 7, 9, 9), quote(1, 2, 0, 0, 0), level(2, 2, 90, 1, 1)} {
		v := roomy(sample())
		before := all(v)
		one, _ := feed.Apply(v, m)
		other, _ := feed.Apply(v, m)
		want := fmt.Sprint(other)
		apartLists(t, one)
		spoilView(one)
		if all(v) != before || fmt.Sprint(other) != want {
			t.Fatalf("R2: Apply(.., %v) shares memory with its View or with another answer", m)
		}
		spoilView(v)
		if fmt.Sprint(other) != want {
			t.Fatalf("R2: Apply(.., %v) retains its View", m)
		}
	}
}

// TestMessagesAreTheCallers: who writes into them changes no other ones (R2).
func TestMessagesAreTheCallers(t *testing.T) {
	a, b := viewOf(3), sample()
	one, other := feed.Diff(a, b, 0), feed.Diff(a, b, 0)
	want := fmt.Sprint(other)
	spoil(one, api.Msg{Seq: -7})
	if fmt.Sprint(other) != want || !equal(b, sample()) {
		t.Errorf("R2: the messages of two calls share memory")
	}
}

// TestProductStays: Look doesn't write into the product's lists, nor into the room behind them (R2).
func TestProductStays(t *testing.T) {
	p := product(3)
	p.Months = append(p.Months, 7, 7, 7)[:3]
	p.Settle = append(p.Settle, 7, 7, 7)[:3]
	before := fmt.Sprint(p, p.Months[:6], p.Settle[:6])
	s := state(t, p, o{0, 2, 20, 5}, o{3, 2, 25, 1})
	v := feed.Look(p, s)
	want := fmt.Sprint(v)
	if fmt.Sprint(p, p.Months[:6], p.Settle[:6]) != before {
		t.Errorf("R2: Look has changed the product to %v", p)
	}
	spoil(p.Months, -1)
	spoil(p.Settle, -1)
	if fmt.Sprint(v) != want {
		t.Errorf("R2: a View changes with the product")
	}
}
