package implied_test

import (
	"testing"

	"cornhill/api"
	"cornhill/implied"
	"cornhill/refdata"
)

// priced are prices of a product whose months are from -100 to 200, whose spreads are from -50 to 50, and whose tick is 5.
var priced = []struct {
	price         int64
	month, spread bool
}{
	{-100, true, false}, {-105, false, false}, {-99, false, false}, {-101, false, false}, {-95, true, false},
	{200, true, false}, {205, false, false}, {199, false, false}, {201, false, false}, {195, true, false},
	{-50, true, true}, {-55, true, false}, {-49, false, false}, {-51, false, false}, {-45, true, true},
	{50, true, true}, {55, true, false}, {49, false, false}, {51, false, false}, {45, true, true},
	{0, true, true}, {1, false, false}, {4, false, false}, {-1, false, false}, {5, true, true}, {-5, true, true},
	{1 << 32, false, false}, {5 << 32, false, false}, {-5 << 32, false, false}, {lowest, false, false}, {highest, false, false},
}

// TestBand: the ends of the band, a tick beyond, and off the tick, for each kind of quote (P14.1).
func TestBand(t *testing.T) {
	for _, k := range kinds {
		for _, side := range sides {
			for _, c := range priced {
				checkBand(t, k, side, c.price, k.inst < 3 && c.month || k.inst >= 3 && c.spread)
			}
		}
	}
}

// checkBand asks Quotes for a quote of this kind with this price, beside those of the other kinds.
func checkBand(t *testing.T, k kind, side int, price int64, accepted bool) {
	t.Helper()
	// The leg whose price is added has it alone, so that no end is beyond the numbers.
	prices := [2]int64{price, 0}
	if k.first < 0 {
		prices = [2]int64{0, price}
	}
	a := k.ask(side, prices, [2]int64{1, 1})
	q := implied.Quote{Price: price, Qty: 1, Legs: k.legsOn(side)}
	if all := a.all(t); len(all) != k.all || all[k.ahead] != q {
		t.Errorf("P14.1: All for %s on side %d: %v, want %v at %d", k.name, side, all, q, k.ahead)
	}
	found := false
	for _, got := range a.quotes(t) {
		if got.Legs == q.Legs {
			found = got == q
		} else if refdata.Price(a.p, a.inst, got.Price) != api.OK {
			t.Errorf("P14.1: Quotes for %s on side %d: %v is no price", k.name, side, got)
		}
	}
	if found != accepted {
		t.Errorf("P14.1: Quotes for %s on side %d, price %d: %t, want %t", k.name, side, price, found, accepted)
	}
}

// TestSomeAccepted: of the quotes for a month, those whose price is accepted, in the order of All, worked out by hand (P14.1).
func TestSomeAccepted(t *testing.T) {
	tops := make([]implied.Top, 15) // 5 months: the third one, 2, has the spreads 12 and 13 with later months, 6 and 9 with earlier ones
	for i := range tops {
		tops[i] = top(0, 9, 0, 9)
	}
	set := func(later3, later4, earlier0, earlier1 int64) ask {
		tops[3].Price[0], tops[4].Price[0], tops[0].Price[0], tops[1].Price[0] = later3, later4, earlier0, earlier1
		return ask{product(5), tops, 2, buy}
	}
	by3, by4 := [4]int{12, buy, 3, buy}, [4]int{13, buy, 4, buy}
	by0, by1 := [4]int{6, sell, 0, buy}, [4]int{9, sell, 1, buy}
	made := func(price int64, l [4]int) implied.Quote { return quote(price, 9, l[0], l[1], l[2], l[3]) }
	checkQuotes(t, set(200, 195, -100, -95), made(200, by3), made(195, by4), made(-100, by0), made(-95, by1))
	checkQuotes(t, set(205, 195, -100, -95), made(195, by4), made(-100, by0), made(-95, by1))
	checkQuotes(t, set(200, 196, -100, -95), made(200, by3), made(-100, by0), made(-95, by1))
	checkQuotes(t, set(200, 195, -105, -95), made(200, by3), made(195, by4), made(-95, by1))
	checkQuotes(t, set(200, 195, -100, -96), made(200, by3), made(195, by4), made(-100, by0))
	checkQuotes(t, set(205, 195, -105, -95), made(195, by4), made(-95, by1))
	checkQuotes(t, set(200, 205, -100, 205), made(200, by3), made(-100, by0))
	checkQuotes(t, set(205, 205, 205, -95), made(-95, by1))
	checkQuotes(t, set(7, 7, 7, 7))
	checkQuotes(t, set(7, 7, 7, 5), made(5, by1))
	checkQuotes(t, set(5, 7, 7, 7), made(5, by3))
	checkQuotes(t, set(5, 5, 5, 5), made(5, by3), made(5, by4), made(5, by0), made(5, by1))
}

// TestBandOfTheInstrument: what counts is the price of the quote, not those of its legs, and the band of the instrument that is asked, not those of its legs (P14.1).
func TestBandOfTheInstrument(t *testing.T) {
	tops := []implied.Top{top(1001, 2, 1003, 2), top(997, 2, 1001, 2), top(4, 2, 8, 2)}
	p := product(2)
	checkQuotes(t, ask{p, tops, 0, buy})
	checkQuotes(t, ask{p, tops, 2, buy}, quote(0, 2, 0, buy, 1, sell))
	checkQuotes(t, ask{p, tops, 2, sell})
	checkAll(t, ask{p, tops, 2, sell}, quote(6, 2, 0, sell, 1, buy))
	tops = []implied.Top{top(150, 2, 155, 2), top(95, 2, 100, 2), top(60, 2, 65, 2)}
	checkQuotes(t, ask{p, tops, 0, buy}, quote(155, 2, 2, buy, 1, buy))
	checkQuotes(t, ask{p, tops, 0, sell}, quote(165, 2, 2, sell, 1, sell))
	checkQuotes(t, ask{p, tops, 1, buy}, quote(85, 2, 2, sell, 0, buy))
	checkQuotes(t, ask{p, tops, 2, buy}, quote(50, 2, 0, buy, 1, sell))
	checkQuotes(t, ask{p, tops, 2, sell})
	checkAll(t, ask{p, tops, 2, sell}, quote(60, 2, 0, sell, 1, buy))
	p.Wide = 60
	checkQuotes(t, ask{p, tops, 2, sell}, quote(60, 2, 0, sell, 1, buy))
	p.Tick, p.Low, p.High, p.Wide, p.Settle = 1, 1, 84, 0, []int64{1, 84}
	checkQuotes(t, ask{p, tops, 1, buy})
	p.High = 85
	checkQuotes(t, ask{p, tops, 1, buy}, quote(85, 2, 2, sell, 0, buy))
	checkQuotes(t, ask{p, tops, 2, buy})
}

// TestQuantitiesAreNotAsked: Quotes accepts a price whatever the quantity is (P14.1).
func TestQuantitiesAreNotAsked(t *testing.T) {
	for _, k := range kinds {
		for _, qty := range []int64{0, -1, lowest, api.MaxQty + 1, highest} {
			a := k.ask(buy, [2]int64{5, 5}, [2]int64{qty, highest})
			a.tops[k.legs[0]].Qty, a.tops[k.legs[1]].Qty = [2]int64{qty, qty}, [2]int64{highest, highest}
			want := implied.Quote{Price: int64(5*k.first + 5*k.second), Qty: qty, Legs: k.legsOn(buy)}
			found := false
			for _, got := range a.quotes(t) {
				found = found || got == want
			}
			if !found {
				t.Errorf("P14.1: Quotes for %s, quantity %d: %v, want %v among them", k.name, qty, a.quotes(t), want)
			}
		}
	}
}
