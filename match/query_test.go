package match_test

import (
	"fmt"
	"testing"

	"cornhill/api"
	"cornhill/book"
	"cornhill/implied"
	"cornhill/refdata"
)

// wantTake takes from an order, which may be refused.
func (p *pair) wantTake(id, qty int64, want api.Errno) {
	p.t.Helper()
	if err := p.take(id, qty); err != want {
		p.t.Errorf("P16.1: %v: %d, want %d", p.last(), int(err), int(want))
	}
	p.check()
}

// TestTakeParts: a part, the rest, and nothing behind it, in each book (P16.1).
func TestTakeParts(t *testing.T) {
	for months := 2; months <= api.MaxExp; months++ {
		p := newPair(t, product(months))
		count := refdata.Count(p.model.p)
		for inst := range count {
			p.put(inst, int64(2*inst), api.Buy, 5, 10)
			p.put(inst, int64(2*inst+1), api.Sell, 5, 10)
		}
		for id := range int64(2 * count) {
			p.wantTake(id, 3, api.OK)
			if _, o, ok := p.state.Find(id); !ok || o.Qty != 7 {
				t.Errorf("P16.1: %v: Find(%d): %v, %t, want 7 left", p.last(), id, o, ok)
			}
			p.wantTake(id, 8, api.ErrQty)
			p.wantTake(id, 7, api.OK)
			p.wantTake(id, 1, api.ErrNone)
		}
		if n := p.state.Count(); n != 0 {
			t.Errorf("P16.1: Count: %d, want 0", n)
		}
	}
}

// TestTakeErrors: ErrNone for an ID that none has, whatever the quantity is, and the book's ErrQty (P16.1).
func TestTakeErrors(t *testing.T) {
	p := with(t, product(3), o{0, 1, 5, 5}, o{5, 2, 5, 1}, o{4, 1, 5, largest})
	for _, qty := range noQuantities {
		for _, id := range []int64{0, 4, -1, 1<<32 + 1, lowest, highest} {
			p.wantTake(id, qty, api.ErrNone)
			p.wantTake(id, 1, api.ErrNone)
		}
		for id := range int64(3) {
			p.wantTake(id+1, qty, api.ErrQty)
		}
	}
	p.wantTake(1, 6, api.ErrQty)
	p.wantTake(2, 2, api.ErrQty)
	p.wantTake(3, largest, api.OK)
	p.wantTake(3, 0, api.ErrNone)
	p.wantTake(2, 1, api.OK)
	p.wantTake(1, 5, api.OK)
}

// TestTakeKeepsThePlace: what is left of an order is allocated to where it stood, and as the top order that it was (P16.1).
func TestTakeKeepsThePlace(t *testing.T) {
	p := with(t, product(2), o{0, 2, 10, 5}, o{0, 2, 10, 5}, o{0, 2, 10, 5})
	p.wantTake(1, 4, api.OK)
	p.wantTake(2, 3, api.OK)
	p.wantRun(0, api.Buy, 10, 5, "[{10 5 false [{1 0 2 10 1 0} {2 0 2 10 2 0} {3 0 2 10 2 3}]}] 0")
	q := with(t, ruled(2, api.Share), o{0, 2, 10, 5}, o{0, 2, 10, 5})
	q.wantTake(1, 1, api.OK)
	q.wantRun(0, api.Buy, 10, 3, "[{10 3 false [{1 0 2 10 3 1}]}] 0")
}

// TestQueries: what stands, told by each of them (P16.1).
func TestQueries(t *testing.T) {
	p := with(t, product(3), o{1, 1, 10, 5}, o{1, 1, 15, 4}, o{1, 1, 10, 3}, o{1, 2, 20, 2}, o{4, 2, -5, 6}, o{4, 2, -5, 1})
	if inst, got, ok := p.state.Find(3); inst != 1 || got != (book.Order{ID: 3, Side: 1, Price: 10, Qty: 3}) || !ok {
		t.Errorf("P16.1: Find(3): %d, %v, %t", inst, got, ok)
	}
	if inst, got, ok := p.state.Find(5); inst != 4 || got != (book.Order{ID: 5, Side: 2, Price: -5, Qty: 6, Top: true}) || !ok {
		t.Errorf("P16.1: Find(5): %d, %v, %t", inst, got, ok)
	}
	for _, id := range []int64{0, 7, -1, 1<<32 + 3, lowest, highest} {
		if inst, got, ok := p.state.Find(id); inst != 0 || got != (book.Order{}) || ok {
			t.Errorf("P16.1: Find(%d): %d, %v, %t, want none", id, inst, got, ok)
		}
	}
	for want, got := range map[string]any{
		"[{15 4 1} {10 8 2}]": p.state.Ladder(1, api.Buy),
		"[{20 2 1}]":          p.state.Ladder(1, api.Sell),
		"[{-5 7 2}]":          p.state.Ladder(4, api.Sell),
		"[{2 1 15 4 true} {1 1 10 5 false} {3 1 10 3 false} {4 2 20 2 true}]": p.state.Orders(1),
		"[{5 2 -5 6 true} {6 2 -5 1 false}]":                                  p.state.Orders(4),
		"6":                                                                   p.state.Count(),
	} {
		if fmt.Sprint(got) != want {
			t.Errorf("P16.1: %v, want %s", got, want)
		}
	}
	if l := p.state.Ladder(4, api.Buy); len(l) != 0 {
		t.Errorf("P16.1: Ladder(4, Buy): %v, want none", l)
	}
	for _, inst := range noInsts(3) {
		for _, side := range []int{api.Buy, api.Sell, 0, 3} {
			if l := p.state.Ladder(inst, side); len(l) != 0 {
				t.Errorf("P16.1: Ladder(%d, %d): %v, want none", inst, side, l)
			}
		}
		if l := p.state.Orders(inst); len(l) != 0 {
			t.Errorf("P16.1: Orders(%d): %v, want none", inst, l)
		}
	}
	for _, side := range noSides {
		if l := p.state.Ladder(1, side); len(l) != 0 {
			t.Errorf("P16.1: Ladder(1, %d): %v, want none", side, l)
		}
	}
}

// TestTops: both sides, one, and none, with the sums of the best levels (P16.1).
func TestTops(t *testing.T) {
	p := with(t, product(3), o{0, 1, 10, 5}, o{0, 1, 15, 4}, o{0, 1, 15, 3}, o{0, 2, 20, 2}, o{2, 2, 200, 6}, o{2, 2, 195, 1}, o{5, 1, -50, largest}, o{5, 1, -50, largest})
	want := []implied.Top{
		{Has: [2]bool{true, true}, Price: [2]int64{15, 20}, Qty: [2]int64{7, 2}},
		{},
		{Has: [2]bool{false, true}, Price: [2]int64{0, 195}, Qty: [2]int64{0, 1}},
		{}, {},
		{Has: [2]bool{true, false}, Price: [2]int64{-50, 0}, Qty: [2]int64{2 * largest, 0}},
	}
	if got := p.state.Tops(); fmt.Sprint(got) != fmt.Sprint(want) {
		t.Errorf("P16.1: Tops: %v, want %v", got, want)
	}
	for _, id := range []int64{2, 3, 4, 6, 7, 8} {
		p.takeAll(id)
		p.check()
	}
	want = []implied.Top{
		{Has: [2]bool{true, false}, Price: [2]int64{10, 0}, Qty: [2]int64{5, 0}},
		{},
		{Has: [2]bool{false, true}, Price: [2]int64{0, 200}, Qty: [2]int64{0, 6}},
		{}, {}, {},
	}
	if got := p.state.Tops(); fmt.Sprint(got) != fmt.Sprint(want) {
		t.Errorf("P16.1: Tops: %v, want %v", got, want)
	}
}
