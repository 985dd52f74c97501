package feed_test

import (
	"fmt"
	"slices"
	"testing"

	"cornhill/api"
	"cornhill/book"
	"cornhill/feed"
	"cornhill/implied"
	"cornhill/match"
	"cornhill/refdata"
)

// look asks Look, and compares it with the model and with what the lower layers tell.
func look(t *testing.T, p api.Product, s *match.State) feed.View {
	t.Helper()
	v := feed.Look(p, s)
	if want := newLooker(p).view(s); !equal(v, want) {
		t.Fatalf("P19.1: Look: %v, want %v", v, want)
	}
	for inst, both := range v.Sides {
		for at, side := range sides {
			price, qty, count, has := implied.Show(implied.Quotes(p, s.Tops(), inst, side), side)
			if got := both[at]; !slices.Equal(got.Levels, s.Ladder(inst, side)) || got.Has != has || got.Implied != (book.Level{Price: price, Qty: qty, Count: count}) {
				t.Fatalf("P19.1: Look: instrument %d, side %d: %v, want %v and %d %d %d %t", inst, side, got, s.Ladder(inst, side), price, qty, count, has)
			}
		}
	}
	return v
}

// wantLook compares the View of these orders with what the test has worked out.
func wantLook(t *testing.T, p api.Product, want feed.View, orders ...o) {
	t.Helper()
	if got := look(t, p, state(t, p, orders...)); !equal(got, want) {
		t.Errorf("P19.1: Look: %v, want %v", got, want)
	}
}

// TestLookEmpty: two sides for each instrument, with nothing on them (P19.1).
func TestLookEmpty(t *testing.T) {
	for months := 2; months <= api.MaxExp; months++ {
		wantLook(t, product(months), viewOf(months*(months+1)/2))
	}
}

// TestLookLevels: the levels of each side of each instrument, the best one first, and an implied quote nowhere, as there is but one side of one instrument (P19.1).
func TestLookLevels(t *testing.T) {
	for months := 2; months <= api.MaxExp; months++ {
		count := refdata.Count(product(months))
		for inst := range count {
			wantLook(t, product(months), viewOf(count, part{inst: inst, side: 1, levels: []int64{20, 7, 1, 15, 9, 3, -10, 1, 1}}),
				o{inst, 1, 15, 4}, o{inst, 1, -10, 1}, o{inst, 1, 15, 3}, o{inst, 1, 20, 7}, o{inst, 1, 15, 2})
			wantLook(t, product(months), viewOf(count, part{inst: inst, side: 2, levels: []int64{-10, 1, 1, 15, 9, 3, 20, 7, 1}}),
				o{inst, 2, 15, 4}, o{inst, 2, -10, 1}, o{inst, 2, 15, 3}, o{inst, 2, 20, 7}, o{inst, 2, 15, 2})
		}
	}
}

// TestLookImplied: each of the implied quotes of two months and their spread (P19.1).
func TestLookImplied(t *testing.T) {
	wantLook(t, product(2), viewOf(3,
		part{0, 1, []int64{10, 4, 1}, []int64{0, 2, 1}},
		part{0, 2, []int64{20, 8, 2, 25, 1, 1}, []int64{45, 2, 1}},
		part{1, 1, []int64{5, 2, 1}, []int64{-20, 2, 1}},
		part{1, 2, []int64{15, 7, 1}, []int64{25, 6, 1}},
		part{2, 1, []int64{-5, 6, 1}, []int64{-5, 4, 1}},
		part{2, 2, []int64{30, 2, 1}, []int64{15, 2, 1}},
	), o{0, 2, 20, 5}, o{0, 2, 25, 1}, o{0, 2, 20, 3}, o{0, 1, 10, 4}, o{1, 1, 5, 2}, o{1, 2, 15, 7}, o{2, 1, -5, 6}, o{2, 2, 30, 2})
}

// TestLookShow: the best price of several quotes, the greatest quantity at it, and how many have it (P19.1).
func TestLookShow(t *testing.T) {
	v := look(t, product(4), state(t, product(4), o{1, 2, 60, 4}, o{2, 2, 55, 9}, o{3, 2, 50, 9}, o{4, 2, 5, 8}, o{5, 2, 10, 3}, o{6, 2, 20, 9}))
	for side, want := range map[int]string{1: "{[] {0 0 0} false}", 2: "{[] {65 4 2} true}"} {
		if got := fmt.Sprint(v.Sides[0][side-1]); got != want {
			t.Errorf("P19.1: Look: %s, want %s", got, want)
		}
	}
	v = look(t, product(4), state(t, product(4), o{1, 1, 60, 4}, o{2, 1, 55, 9}, o{3, 1, 50, 9}, o{4, 1, 5, 8}, o{5, 1, 10, 5}, o{6, 1, 15, 9}))
	for side, want := range map[int]string{1: "{[] {65 9 3} true}", 2: "{[] {0 0 0} false}"} {
		if got := fmt.Sprint(v.Sides[0][side-1]); got != want {
			t.Errorf("P19.1: Look: %s, want %s", got, want)
		}
	}
}

// TestLookBand: a quote at each end of the band is told, and one a tick beyond it is none (P19.1).
func TestLookBand(t *testing.T) {
	p := product(2)
	for _, c := range []struct {
		orders  [2]o
		inst    int
		side    int
		implied []int64
	}{
		{[2]o{{2, 1, 40, 3}, {1, 1, 160, 4}}, 0, 1, []int64{200, 3, 1}},
		{[2]o{{2, 1, 45, 3}, {1, 1, 160, 4}}, 0, 1, nil},
		{[2]o{{2, 2, -40, 3}, {1, 2, -60, 2}}, 0, 2, []int64{-100, 2, 1}},
		{[2]o{{2, 2, -40, 3}, {1, 2, -65, 2}}, 0, 2, nil},
		{[2]o{{2, 2, 50, 3}, {0, 1, -50, 3}}, 1, 1, []int64{-100, 3, 1}},
		{[2]o{{2, 2, 50, 3}, {0, 1, -55, 3}}, 1, 1, nil},
		{[2]o{{2, 1, -50, 3}, {0, 2, 150, 1}}, 1, 2, []int64{200, 1, 1}},
		{[2]o{{2, 1, -50, 3}, {0, 2, 155, 1}}, 1, 2, nil},
		{[2]o{{0, 1, 80, 3}, {1, 2, 30, 4}}, 2, 1, []int64{50, 3, 1}},
		{[2]o{{0, 1, 80, 3}, {1, 2, 25, 4}}, 2, 1, nil},
		{[2]o{{0, 2, 80, 3}, {1, 1, 130, 4}}, 2, 2, []int64{-50, 3, 1}},
		{[2]o{{0, 2, 80, 3}, {1, 1, 135, 4}}, 2, 2, nil},
	} {
		parts := []part{{c.inst, c.side, nil, c.implied}}
		for _, o := range c.orders {
			parts = append(parts, part{inst: o.inst, side: o.side, levels: []int64{o.price, o.qty, 1}})
		}
		wantLook(t, p, viewOf(3, parts...), c.orders[:]...)
	}
}

// TestLookBehindBand: where the best of all quotes is out of its band, the best one that isn't is told (P19.1).
func TestLookBehindBand(t *testing.T) {
	v := look(t, product(3), state(t, product(3), o{3, 1, 50, 3}, o{1, 1, 155, 4}, o{4, 1, 40, 2}, o{2, 1, 150, 4}))
	if got := fmt.Sprint(v.Sides[0][0]); got != "{[] {190 2 1} true}" {
		t.Errorf("P19.1: Look: %s, want {[] {190 2 1} true}", got)
	}
}

// TestLookNothing: no Sides without a state, and none for a product that isn't accepted (P19.1, R1, R3).
func TestLookNothing(t *testing.T) {
	s := state(t, product(3), o{0, 1, 5, 5}, o{3, 1, 5, 5}, o{1, 1, 5, 5})
	products := []api.Product{{}, product(3)}
	for _, change := range []func(p *api.Product){
		func(p *api.Product) { p.Code = "cl" },
		func(p *api.Product) { p.Months = p.Months[:1] },
		func(p *api.Product) { p.Months = []int{12, 11, 312} },
		func(p *api.Product) { p.Tick = 0 },
		func(p *api.Product) { p.Low = 300 },
		func(p *api.Product) { p.Wide = 3 },
		func(p *api.Product) { p.Rule = 4 },
		func(p *api.Product) { p.Top = -1 },
		func(p *api.Product) { p.Least = -1 },
		func(p *api.Product) { p.Part = 101 },
		func(p *api.Product) { p.Settle = p.Settle[:2] },
	} {
		p := product(3)
		change(&p)
		if refdata.Check(p) == api.OK {
			t.Fatalf("the test's product %+v is valid", p)
		}
		products = append(products, p)
	}
	for i, p := range products {
		if v := feed.Look(p, nil); len(v.Sides) != 0 {
			t.Errorf("P19.1: Look(%+v, nil): %v", p, v)
		}
		if v := feed.Look(p, s); i != 1 && len(v.Sides) != 0 {
			t.Errorf("P19.1: Look(%+v, a State): %v", p, v)
		}
	}
	look(t, product(3), s)
}

// TestLookOtherProduct: a product with another number of instruments than the state's has its own number of Sides, and no implied quotes, as there are none by tops of another number (P19.1).
func TestLookOtherProduct(t *testing.T) {
	s := state(t, product(3), o{0, 1, 5, 5}, o{3, 1, 5, 5}, o{1, 1, 5, 5}, o{5, 2, 10, 1})
	for months := 2; months <= api.MaxExp; months++ {
		if months == 3 {
			continue
		}
		v := feed.Look(product(months), s)
		if len(v.Sides) != months*(months+1)/2 {
			t.Fatalf("P19.1: Look with %d months: %v", months, v)
		}
		for inst, both := range v.Sides {
			for at, side := range sides {
				if got := both[at]; !slices.Equal(got.Levels, s.Ladder(inst, side)) || got.Has || got.Implied != (book.Level{}) {
					t.Fatalf("P19.1: Look with %d months: %v", months, v)
				}
			}
		}
	}
}

// TestLookProductOnly: the band is that of the product that is handed in (P19.1).
func TestLookProductOnly(t *testing.T) {
	s := state(t, product(2), o{2, 1, 40, 3}, o{1, 1, 110, 4})
	p := product(2)
	for _, c := range []struct {
		high int64
		want string
	}{{200, "{[] {150 3 1} true}"}, {150, "{[] {150 3 1} true}"}, {145, "{[] {0 0 0} false}"}} {
		p.High, p.Settle = c.high, []int64{0, 0}
		if got := fmt.Sprint(feed.Look(p, s).Sides[0][0]); got != c.want {
			t.Errorf("P19.1: Look with High %d: %s, want %s", c.high, got, c.want)
		}
	}
}

// TestLookStays: a View is of its moment, whatever becomes of the state (P19.1, R2).
func TestLookStays(t *testing.T) {
	p := product(3)
	s := state(t, p)
	var views []feed.View
	var texts []string
	keep := func() {
		v := look(t, p, s)
		views, texts = append(views, v), append(texts, fmt.Sprint(v))
	}
	const added = 60
	keep()
	for i := range int64(added) {
		s.Add(int(i)%6, i+1, sides[i%2], i%7*5, i%5+1)
		keep()
	}
	for i := range int64(20) {
		s.Run(int(i)%6, sides[i%2], []int64{0, 200, -100}[sides[i%2]], 3)
		s.Take(2*i+1, 1)
		keep()
	}
	for i, v := range views {
		if fmt.Sprint(v) != texts[i] {
			t.Fatalf("P19.1: the View %s has become %v", texts[i], v)
		}
		if i > 0 && i <= added && feed.Same(v, views[i-1]) {
			t.Fatalf("P19.1: the order %d is not in the View %v", i, v)
		}
	}
}

// TestLookFull: books with as many orders as there may be (P19.1).
func TestLookFull(t *testing.T) {
	for _, months := range []int{2, 6} {
		p := product(months)
		for _, prices := range []int64{1, 10, 60} {
			s := state(t, p)
			for i := range int64(api.MaxOrders) {
				inst := int(i) % refdata.Count(p)
				if err := s.Add(inst, i, sides[i/int64(refdata.Count(p))%2], i*7%prices*5%50, api.MaxQty); err != api.OK {
					t.Fatalf("the test's order %d: %d", i, int(err))
				}
			}
			look(t, p, s)
		}
	}
}
