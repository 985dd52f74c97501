package market_test

import (
	"fmt"
	"testing"

	"cornhill/api"
)

// spreads are the months of each spread of a product with so many months, in the order of their numbers. The number of the first one is the number of months.
func spreads(months int) [][2]int {
	var l [][2]int
	for near := range months {
		for far := near + 1; far < months; far++ {
			l = append(l, [2]int{near, far})
		}
	}
	return l
}

// eachSpread calls f with each spread and side of products with two to six months.
func eachSpread(f func(p api.Product, inst, near, far, side int)) {
	for months := 2; months <= api.MaxExp; months++ {
		for i, of := range spreads(months) {
			for _, side := range sides {
				f(product(months), months+i, of[0], of[1], side)
			}
		}
	}
}

// trade is the text of a Traded report.
func trade(id int64, inst, side int, price, qty, left int64) string {
	return fmt.Sprintf("trade %d %d %d %d %d %d 0", id, inst, side, price, qty, left)
}

// accepted is the text of an Accepted report.
func accepted(c api.Command) string {
	return fmt.Sprintf("ok %d %d %d %d %d %d 0", c.ID, c.Inst, c.Side, c.Price, c.Qty, c.Qty)
}

// settled are the prices of the months of a spread for a trade at a real price: the far one is the settlement price, as long as the near one is from Low to High.
func settled(p api.Product, far int, price int64) (int64, int64) {
	at := p.Settle[far]
	for at+price > p.High {
		at -= p.Tick
	}
	for at+price < p.Low {
		at += p.Tick
	}
	return at + price, at
}

// TestLegsByHand: a real Step and each kind of implied one, worked out (P17.2).
func TestLegsByHand(t *testing.T) {
	// The settlement prices are -100, 0, 35.
	p := with(t, product(3), o{4, api.Sell, 20, 3}, o{4, api.Sell, 20, 4})
	p.want(day(9, 4, api.Buy, 30, 5), "ok 9 4 1 30 5 5 0",
		"trade 1 4 2 20 3 0 0", "trade 1 0 2 55 3 0 0", "trade 1 2 1 35 3 0 0",
		"trade 2 4 2 20 2 2 0", "trade 2 0 2 55 2 2 0", "trade 2 2 1 35 2 2 0",
		"trade 9 4 1 20 5 0 0", "trade 9 0 1 55 5 0 0", "trade 9 2 2 35 5 0 0")
	p = with(t, product(3), o{3, api.Buy, -20, 3})
	p.want(timed(day(9, 3, api.Sell, -50, 5), api.Now), "ok 9 3 2 -50 5 5 0",
		"trade 1 3 1 -20 3 0 0", "trade 1 0 1 -20 3 0 0", "trade 1 1 2 0 3 0 0",
		"trade 9 3 2 -20 3 2 0", "trade 9 0 2 -20 3 2 0", "trade 9 1 1 0 3 2 0",
		"gone 9 3 2 -50 2 0 0")
	// A near price above High or below Low moves both.
	four := product(4) // the last settlement price is 200
	p = with(t, four, o{9, api.Sell, 15, 3})
	p.want(day(9, 9, api.Buy, 15, 3), "ok 9 9 1 15 3 3 0",
		"trade 1 9 2 15 3 0 0", "trade 1 2 2 200 3 0 0", "trade 1 3 1 185 3 0 0",
		"trade 9 9 1 15 3 0 0", "trade 9 2 1 200 3 0 0", "trade 9 3 2 185 3 0 0")
	four.Settle[3] = -80
	p = with(t, four, o{9, api.Buy, -30, 3})
	p.want(day(9, 9, api.Sell, -30, 3), "ok 9 9 2 -30 3 3 0",
		"trade 1 9 1 -30 3 0 0", "trade 1 2 1 -100 3 0 0", "trade 1 3 2 -70 3 0 0",
		"trade 9 9 2 -30 3 0 0", "trade 9 2 2 -100 3 0 0", "trade 9 3 1 -70 3 0 0")
	// A spread that meets its months takes their prices, in each Step those of its Fills.
	p = with(t, product(3), o{0, api.Sell, 70, 3}, o{2, api.Buy, 60, 1}, o{2, api.Buy, 55, 9})
	p.want(day(9, 4, api.Buy, 20, 5), "ok 9 4 1 20 5 5 0",
		"trade 1 0 2 70 1 2 0", "trade 2 2 1 60 1 0 0", "trade 9 4 1 10 1 4 0", "trade 9 0 1 70 1 4 0", "trade 9 2 2 60 1 4 0",
		"trade 1 0 2 70 2 0 0", "trade 3 2 1 55 2 7 0", "trade 9 4 1 15 2 2 0", "trade 9 0 1 70 2 2 0", "trade 9 2 2 55 2 2 0")
	// An order of the near month that meets the spread and the far month, and one of the far month that meets the near one.
	p = with(t, product(3), o{4, api.Sell, 20, 3}, o{2, api.Sell, 50, 7})
	p.want(day(9, 0, api.Buy, 80, 4), "ok 9 0 1 80 4 4 0",
		"trade 1 4 2 20 3 0 0", "trade 1 0 2 70 3 0 0", "trade 1 2 1 50 3 0 0", "trade 2 2 2 50 3 4 0", "trade 9 0 1 70 3 1 0")
	p = with(t, product(3), o{4, api.Sell, 20, 3}, o{0, api.Buy, 50, 7})
	p.want(day(9, 2, api.Sell, 0, 2), "ok 9 2 2 0 2 2 0",
		"trade 1 4 2 20 2 1 0", "trade 1 0 2 50 2 1 0", "trade 1 2 1 30 2 1 0", "trade 2 0 1 50 2 5 0", "trade 9 2 2 30 2 0 0")
}

// TestLegsOfARealStep: legs.Prices of the price, for each Fill and for the order, whose limit is another one (P17.2).
func TestLegsOfARealStep(t *testing.T) {
	eachSpread(func(given api.Product, inst, near, far, side int) {
		other := otherOf(side)
		for _, price := range []int64{-50, -45, 0, 10, 50} {
			limit := map[int]int64{api.Buy: 50, api.Sell: -50}[side]
			p := with(t, given, o{inst, other, price, 3}, o{inst, other, price, 4})
			c := day(9, inst, side, limit, 6)
			nearPrice, farPrice := settled(given, far, price)
			p.tells(c, accepted(c),
				trade(1, inst, other, price, 3, 0), trade(1, near, other, nearPrice, 3, 0), trade(1, far, side, farPrice, 3, 0),
				trade(2, inst, other, price, 3, 1), trade(2, near, other, nearPrice, 3, 1), trade(2, far, side, farPrice, 3, 1),
				trade(9, inst, side, price, 6, 0), trade(9, near, side, nearPrice, 6, 0), trade(9, far, other, farPrice, 6, 0))
		}
	})
}

// TestLegsOfASpreadThatMeetsMonths: the prices of the Fills (P17.2).
func TestLegsOfASpreadThatMeetsMonths(t *testing.T) {
	eachSpread(func(given api.Product, inst, near, far, side int) {
		other := otherOf(side)
		for _, prices := range [][2]int64{{70, 60}, {-100, -95}, {195, 200}, {5, -20}} {
			price := prices[0] - prices[1]
			p := with(t, given, o{near, other, prices[0], 3}, o{far, side, prices[1], 5})
			c := timed(day(9, inst, side, price, 4), api.Now)
			p.tells(c, accepted(c),
				trade(1, near, other, prices[0], 3, 0), trade(2, far, side, prices[1], 3, 2),
				trade(9, inst, side, price, 3, 1), trade(9, near, side, prices[0], 3, 1), trade(9, far, other, prices[1], 3, 1),
				fmt.Sprintf("gone 9 %d %d %d 1 0 0", inst, side, price))
		}
	})
}

// TestLegsOfASpreadAmongTheFills: the Step's Price for the month of the order, and that of its Fills for the other month, whether the order is of the near or of the far one (P17.2).
func TestLegsOfASpreadAmongTheFills(t *testing.T) {
	eachSpread(func(given api.Product, inst, near, far, side int) {
		other := otherOf(side)
		for _, prices := range [][2]int64{{20, 60}, {-15, 60}, {50, 150}, {-5, -95}} {
			spread, month := prices[0], prices[1]
			// The order is of the near month: the spread and the far month stand on the other side.
			p := with(t, given, o{inst, other, spread, 3}, o{far, other, month, 5})
			c := day(9, near, side, spread+month, 3)
			p.tells(c, accepted(c),
				trade(1, inst, other, spread, 3, 0), trade(1, near, other, spread+month, 3, 0), trade(1, far, side, month, 3, 0),
				trade(2, far, other, month, 3, 2), trade(9, near, side, spread+month, 3, 0))
			// It is of the far month: the spread stands on the order's side, and the near month on the other one.
			p = with(t, given, o{inst, side, spread, 3}, o{near, other, month, 5})
			c = timed(day(9, far, side, month-spread, 4), api.Now)
			p.tells(c, accepted(c),
				trade(1, inst, side, spread, 3, 0), trade(1, near, side, month, 3, 0), trade(1, far, other, month-spread, 3, 0),
				trade(2, near, other, month, 3, 2), trade(9, far, side, month-spread, 3, 1),
				fmt.Sprintf("gone 9 %d %d %d 1 0 0", far, side, month-spread))
		}
	})
}

// TestLegsOfManyFills: each spread among several Fills has its own legs, all at the same prices, and a month none (P17.2).
func TestLegsOfManyFills(t *testing.T) {
	p := with(t, product(3), o{3, api.Sell, 10, 2}, o{3, api.Sell, 10, 3}, o{1, api.Sell, 40, 1}, o{1, api.Sell, 40, 3}, o{1, api.Sell, 45, 9})
	p.want(day(9, 0, api.Buy, 60, 6), "ok 9 0 1 60 6 6 0",
		"trade 1 3 2 10 2 0 0", "trade 1 0 2 50 2 0 0", "trade 1 1 1 40 2 0 0",
		"trade 2 3 2 10 2 1 0", "trade 2 0 2 50 2 1 0", "trade 2 1 1 40 2 1 0",
		"trade 3 1 2 40 1 0 0", "trade 4 1 2 40 3 0 0", "trade 9 0 1 50 4 2 0",
		"trade 2 3 2 10 1 0 0", "trade 2 0 2 55 1 0 0", "trade 2 1 1 45 1 0 0",
		"trade 5 1 2 45 1 8 0", "trade 9 0 1 55 1 1 0")
	// A real Step of the spread follows an implied one, and its legs have the prices that are settled.
	p = with(t, product(3), o{3, api.Sell, 20, 2}, o{0, api.Sell, 55, 1}, o{1, api.Buy, 40, 4})
	p.want(day(9, 3, api.Buy, 20, 4), "ok 9 3 1 20 4 4 0",
		"trade 2 0 2 55 1 0 0", "trade 3 1 1 40 1 3 0", "trade 9 3 1 15 1 3 0", "trade 9 0 1 55 1 3 0", "trade 9 1 2 40 1 3 0",
		"trade 1 3 2 20 2 0 0", "trade 1 0 2 20 2 0 0", "trade 1 1 1 0 2 0 0", "trade 9 3 1 20 2 1 0", "trade 9 0 1 20 2 1 0", "trade 9 1 2 0 2 1 0")
}
