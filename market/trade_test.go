package market_test

import (
	"fmt"
	"testing"

	"cornhill/api"
)

// TestExamples: those of the chapter (P17.1).
func TestExamples(t *testing.T) {
	p := newPair(t, product(2))
	p.want(day(1, 0, api.Sell, 10, 5), "ok 1 0 2 10 5 5 0")
	p.want(day(2, 0, api.Buy, 12+3, 3), "ok 2 0 1 15 3 3 0", "trade 1 0 2 10 3 2 0", "trade 2 0 1 10 3 0 0")
	p.refuses("P17.1", day(1, 0, api.Sell, 10, 5), api.ErrTaken)
	p.want(cancel(1), "gone 1 0 2 10 2 0 0")
	p.refuses("P17.1", day(1, 0, api.Sell, 10, 5), api.ErrTaken)
	p.want(timed(day(3, 0, api.Buy, 10, 7), api.Now), "ok 3 0 1 10 7 7 0", "gone 3 0 1 10 7 0 0")
	// With a Tick of 1 the prices are those of the chapter.
	fine := product(2)
	fine.Tick = 1
	p = newPair(t, fine)
	p.want(day(1, 0, api.Sell, 10, 5), "ok 1 0 2 10 5 5 0")
	p.want(day(2, 0, api.Buy, 12, 3), "ok 2 0 1 12 3 3 0", "trade 1 0 2 10 3 2 0", "trade 2 0 1 10 3 0 0")
}

// TestAccepted: an order that trades nothing stands for the day with all of it, and is gone otherwise, for each instrument and side (P17.1).
func TestAccepted(t *testing.T) {
	for _, months := range []int{2, 3, 6} {
		p, id := newPair(t, product(months)), int64(0)
		for inst := range months * (months + 1) / 2 {
			for _, side := range sides {
				for _, price := range []int64{0, 5, -50, 50} {
					for _, qty := range []int64{1, 7, largest} {
						for _, time := range []int{api.Day, api.Now} {
							id++
							accepted := fmt.Sprintf("ok %d %d %d %d %d %d 0", id, inst, side, price, qty, qty)
							gone := fmt.Sprintf("gone %d %d %d %d %d 0 0", id, inst, side, price, qty)
							if time == api.Now {
								p.tells(timed(day(id, inst, side, price, qty), time), accepted, gone)
								continue
							}
							p.tells(day(id, inst, side, price, qty), accepted)
							stands := fmt.Sprintf("%d {%d %d %d %d true} true", inst, id, side, price, qty)
							if got := fmt.Sprint(p.market.Find(id)); got != stands {
								t.Errorf("P17.1: %s: Find: %s, want %s", p.last(), got, stands)
							}
							p.tells(cancel(id), gone)
						}
					}
				}
			}
		}
		p.check()
	}
}

// TestOneStep: the Fills in their order, and then the order itself, on both sides, with less than the level has, as much and more (P17.1).
func TestOneStep(t *testing.T) {
	stands := []o{{0, api.Sell, 10, 3}, {0, api.Sell, 10, 1}, {0, api.Sell, 10, 4}}
	sold := func() *pair { return with(t, product(2), stands...) }
	sold().want(day(9, 0, api.Buy, 10, 2), "ok 9 0 1 10 2 2 0", "trade 1 0 2 10 2 1 0", "trade 9 0 1 10 2 0 0")
	sold().want(day(9, 0, api.Buy, 15, 3), "ok 9 0 1 15 3 3 0", "trade 1 0 2 10 3 0 0", "trade 9 0 1 10 3 0 0")
	sold().want(day(9, 0, api.Buy, 20, 5), "ok 9 0 1 20 5 5 0", "trade 1 0 2 10 3 0 0", "trade 2 0 2 10 1 0 0", "trade 3 0 2 10 1 3 0", "trade 9 0 1 10 5 0 0")
	sold().want(timed(day(9, 0, api.Buy, 20, 8), api.Whole), "ok 9 0 1 20 8 8 0", "trade 1 0 2 10 3 0 0", "trade 2 0 2 10 1 0 0", "trade 3 0 2 10 4 0 0", "trade 9 0 1 10 8 0 0")
	p := sold()
	p.want(day(9, 0, api.Buy, 20, 9), "ok 9 0 1 20 9 9 0", "trade 1 0 2 10 3 0 0", "trade 2 0 2 10 1 0 0", "trade 3 0 2 10 4 0 0", "trade 9 0 1 10 8 1 0")
	if got := fmt.Sprint(p.market.Find(9)); got != "0 {9 1 20 1 true} true" {
		t.Errorf("P17.1: %s: Find: %s", p.last(), got)
	}
	p = sold()
	p.want(timed(day(9, 0, api.Buy, 20, 10), api.Now), "ok 9 0 1 20 10 10 0", "trade 1 0 2 10 3 0 0", "trade 2 0 2 10 1 0 0", "trade 3 0 2 10 4 0 0", "trade 9 0 1 10 8 2 0", "gone 9 0 1 20 2 0 0")
	if p.market.Count() != 0 || !p.market.Used(9) {
		t.Errorf("P17.1: %s: Count: %d, Used: %t", p.last(), p.market.Count(), p.market.Used(9))
	}
	sold().want(day(9, 0, api.Buy, 5, 2), "ok 9 0 1 5 2 2 0")
	p = with(t, product(2), o{1, api.Buy, -20, 4}, o{1, api.Buy, -20, 4})
	p.want(atLeast(day(9, 1, api.Sell, -100, 12), 8), "ok 9 1 2 -100 12 12 0", "trade 1 1 1 -20 4 0 0", "trade 2 1 1 -20 4 0 0", "trade 9 1 2 -20 8 4 0")
	p.want(timed(day(10, 1, api.Buy, 0, 4), api.Whole), "ok 10 1 1 0 4 4 0", "trade 9 1 2 -100 4 0 0", "trade 10 1 1 -100 4 0 0")
}

// TestManySteps: a level after the other, real and implied, with what is left behind each of them (P17.1).
func TestManySteps(t *testing.T) {
	stands := []o{{0, api.Sell, 10, 3}, {0, api.Sell, 20, 2}, {0, api.Sell, 30, 9}, {1, api.Sell, 15, 1}, {1, api.Sell, 20, 6}, {2, api.Sell, 5, 4}}
	steps := []string{
		"trade 1 0 2 10 3 0 0", "trade 9 0 1 10 3 17 0",
		"trade 2 0 2 20 2 0 0", "trade 9 0 1 20 2 15 0",
		"trade 6 2 2 5 1 3 0", "trade 6 0 2 20 1 3 0", "trade 6 1 1 15 1 3 0", "trade 4 1 2 15 1 0 0", "trade 9 0 1 20 1 14 0",
		"trade 6 2 2 5 3 0 0", "trade 6 0 2 25 3 0 0", "trade 6 1 1 20 3 0 0", "trade 5 1 2 20 3 3 0", "trade 9 0 1 25 3 11 0",
	}
	with(t, product(2), stands...).want(day(9, 0, api.Buy, 25, 20), append([]string{"ok 9 0 1 25 20 20 0"}, steps...)...)
	with(t, product(2), stands...).want(timed(day(9, 0, api.Buy, 25, 20), api.Now), append(append([]string{"ok 9 0 1 25 20 20 0"}, steps...), "gone 9 0 1 25 11 0 0")...)
	steps = append(steps, "trade 3 0 2 30 9 0 0", "trade 9 0 1 30 9 2 0")
	p := with(t, product(2), stands...)
	p.want(day(9, 0, api.Buy, 30, 20), append([]string{"ok 9 0 1 30 20 20 0"}, steps...)...)
	p.want(day(10, 0, api.Buy, 30, 1), "ok 10 0 1 30 1 1 0")
	p.want(day(11, 0, api.Sell, 25, 3), "ok 11 0 2 25 3 3 0", "trade 9 0 1 30 2 0 0", "trade 10 0 1 30 1 0 0", "trade 11 0 2 30 3 0 0")
}

// TestRules: the quantity of a level is shared by the rule of the product, to which the top order matters (P17.1).
func TestRules(t *testing.T) {
	for _, c := range []struct {
		rule                       int
		top, least, part           int64
		first, second, third, rest string
	}{
		{api.First, 9, 1, 0, "trade 1 0 2 10 8 0 0", "trade 2 0 2 10 4 0 0", "trade 3 0 2 10 4 16 0", ""},
		{api.Share, 0, 1, 0, "trade 1 0 2 10 4 4 0", "trade 2 0 2 10 2 2 0", "trade 3 0 2 10 10 10 0", ""},
		{api.Share, 8, 3, 0, "trade 1 0 2 10 8 0 0", "trade 2 0 2 10 2 2 0", "trade 3 0 2 10 6 14 0", ""},
		{api.Mixed, 0, 2, 25, "trade 1 0 2 10 8 0 0", "", "trade 3 0 2 10 8 12 0", ""},
	} {
		given := ruled(2, c.rule)
		given.Top, given.Least, given.Part = c.top, c.least, c.part
		p := with(t, given, o{0, api.Sell, 10, 8}, o{0, api.Sell, 10, 4}, o{0, api.Sell, 10, 20})
		want := []string{"ok 9 0 1 10 16 16 0", c.first}
		if c.second != "" {
			want = append(want, c.second)
		}
		p.want(day(9, 0, api.Buy, 10, 16), append(want, c.third, "trade 9 0 1 10 16 0 0")...)
	}
}

// TestLimits: the least and the greatest ID, quantity and price that there are (P17.1).
func TestLimits(t *testing.T) {
	wide := product(2)
	wide.Tick, wide.Low, wide.High, wide.Wide, wide.Settle = 1000, -api.MaxPrice, api.MaxPrice, 2*api.MaxPrice, []int64{api.MaxPrice, -api.MaxPrice}
	p := newPair(t, wide)
	p.want(day(1, 0, api.Sell, -api.MaxPrice, largest), "ok 1 0 2 -1000000 1000000 1000000 0")
	p.want(day(lastID, 0, api.Buy, api.MaxPrice, largest), "ok 1099511627776 0 1 1000000 1000000 1000000 0", "trade 1 0 2 -1000000 1000000 0 0", "trade 1099511627776 0 1 -1000000 1000000 0 0")
	p.want(day(2, 2, api.Buy, 2*api.MaxPrice, largest), "ok 2 2 1 2000000 1000000 1000000 0")
	p.want(day(3, 2, api.Buy, 2*api.MaxPrice, largest), "ok 3 2 1 2000000 1000000 1000000 0")
	p.want(timed(day(4, 2, api.Sell, -2*api.MaxPrice, largest), api.Whole), "ok 4 2 2 -2000000 1000000 1000000 0",
		"trade 2 2 1 2000000 1000000 0 0", "trade 2 0 1 1000000 1000000 0 0", "trade 2 1 2 -1000000 1000000 0 0",
		"trade 4 2 2 2000000 1000000 0 0", "trade 4 0 2 1000000 1000000 0 0", "trade 4 1 1 -1000000 1000000 0 0")
}
