package market_test

import (
	"slices"
	"testing"

	"cornhill/api"
	"cornhill/book"
	"cornhill/implied"
	"cornhill/refdata"
)

// spoil writes into all of a list, and into the room behind it.
func spoil[T any](l []T, value T) {
	l = l[:cap(l)]
	for i := range l {
		l[i] = value
	}
}

// TestReportsAreTheCallers: who writes into them changes neither the Market nor what was told before (R2).
func TestReportsAreTheCallers(t *testing.T) {
	p := with(t, product(3), mess(3)...)
	var kept [][]api.Report
	for i := range int64(40) {
		for _, c := range []api.Command{day(1000+i, int(i%6), sides[i%2], 20, 9), replace(i, 5, 7), cancel(i * 2), reduce(i*3, 1), day(0, 0, 1, 0, 1)} {
			kept = append(kept, p.do(c))
		}
	}
	for i, l := range kept {
		var others []api.Report
		for _, other := range kept[i+1:] {
			others = append(others, other...)
		}
		spoil(l, api.Report{Kind: -1, ID: -1, Left: -1})
		var after []api.Report
		for _, other := range kept[i+1:] {
			after = append(after, other...)
		}
		if !slices.Equal(others, after) {
			t.Fatalf("R2: the reports of two commands share memory")
		}
	}
	p.check()
}

// TestQueriesAreTheCallers: who writes into what a copy of the State tells changes nothing (R2).
func TestQueriesAreTheCallers(t *testing.T) {
	p := with(t, product(3), mess(3)...)
	s := p.market.State()
	for inst := range 6 {
		for _, side := range sides {
			spoil(s.Ladder(inst, side), book.Level{Price: 5, Qty: 99, Count: 99})
		}
		spoil(s.Orders(inst), book.Order{ID: 1, Side: 1, Price: 5, Qty: 99, Top: true})
	}
	spoil(s.Tops(), implied.Top{Has: [2]bool{true, true}, Price: [2]int64{5, 5}, Qty: [2]int64{99, 99}})
	p.check()
}

// TestProductIsCopied: a Market goes on with the product that New was given, whatever becomes of its lists (R2).
func TestProductIsCopied(t *testing.T) {
	for months := 2; months <= api.MaxExp; months++ {
		given := product(months)
		p := newPair(t, given)
		p.model = newModel(product(months))
		for i := range given.Months {
			given.Months[i], given.Settle[i] = -i, 1
		}
		for i, order := range mess(months)[:20] {
			p.put(day(int64(i+1), order.inst, order.side, order.price, order.qty))
		}
		// Legs need the settlement prices, and copies the whole product.
		for inst := months; inst < refdata.Count(p.model.p); inst++ {
			p.put(day(int64(1000+inst), inst, api.Sell, 50, 3))
			p.put(timed(day(int64(2000+inst), inst, api.Buy, 50, 3), api.Now))
		}
		p.check()
	}
}

// TestArgumentsAreLeft: the product that New is given stays as it is, with the room behind its lists, whatever is done with the Market (R2, R5).
func TestArgumentsAreLeft(t *testing.T) {
	for _, behind := range []int64{-7, 7, 205} {
		for months := 2; months <= api.MaxExp; months++ {
			given := product(months)
			allMonths, allSettle := append(slices.Clone(given.Months), int(behind), 1199), append(slices.Clone(given.Settle), behind, -behind)
			given.Months, given.Settle = allMonths[:months], allSettle[:months]
			monthsBefore, settleBefore := slices.Clone(allMonths), slices.Clone(allSettle)
			p, d := newPair(t, given), drawer{chance: 7, p: product(months)}
			p.model = newModel(product(months))
			for range 50 {
				p.do(d.draw())
			}
			p.check()
			if !slices.Equal(allMonths, monthsBefore) || !slices.Equal(allSettle, settleBefore) {
				t.Errorf("R2: %d months: the product has changed: %v, %v, were %v, %v", months, allMonths, allSettle, monthsBefore, settleBefore)
			}
		}
	}
}

// TestMarketsApart: what is done with one Market is nothing to another one of the same product, which may use the same IDs (P17.5, R2, R4).
func TestMarketsApart(t *testing.T) {
	given := product(3)
	one, other := with(t, given, mess(3)...), newPair(t, given)
	for i := range int64(30) {
		one.put(timed(day(1000+i, int(i%6), sides[i%2], 20, 5), api.Now))
		one.do(cancel(i))
		other.check()
		other.put(day(i+1, int(i%6), sides[i%2], 5*(i%5), 5))
		other.do(replace(i/2+1, 5, 9))
		one.check()
	}
	third := newPair(t, given)
	third.check()
	third.put(day(1, 0, api.Buy, 5, 5))
}

// TestSameCommandsSameReports: two Markets that are given the same commands, one of them asked for copies in between (R4).
func TestSameCommandsSameReports(t *testing.T) {
	for _, rule := range rules {
		given := ruled(4, rule)
		one, other := newPair(t, given), newPair(t, given)
		d := drawer{chance: 9, p: given}
		for range 150 {
			c := d.draw()
			l := one.do(c)
			one.market.State().Run(int(c.ID%10), api.Buy, 200, 5)
			if m := other.do(c); !slices.Equal(l, m) {
				t.Fatalf("R4: %s: %s, and then %s", one.last(), texts(l), texts(m))
			}
		}
		if a, b := viewOf(one.market.State(), given), viewOf(other.market.State(), given); !a.same(b) {
			t.Errorf("R4: %v, and then %v", a, b)
		}
	}
}
