package match_test

import (
	"fmt"
	"testing"

	"cornhill/api"
	"cornhill/implied"
	"cornhill/refdata"
)

// TestImpliedMonthByALaterOne: the spread and the later month on the same side, in this order (P16.2).
func TestImpliedMonthByALaterOne(t *testing.T) {
	sell := []o{{1, 2, 100, 7}, {3, 2, 5, 5}}
	with(t, product(3), sell...).wantRun(0, api.Buy, 105, 4, "[{105 4 true [{2 3 2 5 4 1} {1 1 2 100 4 3}]}] 0")
	with(t, product(3), sell...).wantRun(0, api.Buy, 105, 5, "[{105 5 true [{2 3 2 5 5 0} {1 1 2 100 5 2}]}] 0")
	with(t, product(3), sell...).wantRun(0, api.Buy, 106, 6, "[{105 5 true [{2 3 2 5 5 0} {1 1 2 100 5 2}]}] 1")
	with(t, product(3), sell...).wantRun(0, api.Buy, highest, largest, "[{105 5 true [{2 3 2 5 5 0} {1 1 2 100 5 2}]}] 999995")
	with(t, product(3), sell...).wantRun(0, api.Buy, 104, 4, "[] 4")
	with(t, product(3), sell...).wantRun(0, api.Sell, lowest, 4, "[] 4")
	buy := []o{{2, 1, -20, 3}, {5, 1, -50, 8}}
	with(t, product(3), buy...).wantRun(1, api.Sell, -70, 2, "[{-70 2 true [{2 5 1 -50 2 6} {1 2 1 -20 2 1}]}] 0")
	with(t, product(3), buy...).wantRun(1, api.Sell, -71, 5, "[{-70 3 true [{2 5 1 -50 3 5} {1 2 1 -20 3 0}]}] 2")
	with(t, product(3), buy...).wantRun(1, api.Sell, -69, 5, "[] 5")
	with(t, product(3), buy...).wantRun(1, api.Buy, highest, 5, "[] 5")
}

// TestImpliedMonthByAnEarlierOne: the spread on the other side and the earlier month on the same one, in this order (P16.2).
func TestImpliedMonthByAnEarlierOne(t *testing.T) {
	sell := []o{{0, 2, 100, 7}, {3, 1, 5, 5}}
	with(t, product(3), sell...).wantRun(1, api.Buy, 95, 4, "[{95 4 true [{2 3 1 5 4 1} {1 0 2 100 4 3}]}] 0")
	with(t, product(3), sell...).wantRun(1, api.Buy, 99, 9, "[{95 5 true [{2 3 1 5 5 0} {1 0 2 100 5 2}]}] 4")
	with(t, product(3), sell...).wantRun(1, api.Buy, 94, 4, "[] 4")
	buy := []o{{1, 1, -20, 3}, {5, 2, -50, 8}}
	with(t, product(3), buy...).wantRun(2, api.Sell, 30, 2, "[{30 2 true [{2 5 2 -50 2 6} {1 1 1 -20 2 1}]}] 0")
	with(t, product(3), buy...).wantRun(2, api.Sell, 0, 9, "[{30 3 true [{2 5 2 -50 3 5} {1 1 1 -20 3 0}]}] 6")
	with(t, product(3), buy...).wantRun(2, api.Sell, 31, 2, "[] 2")
}

// TestImpliedSpread: the near month on the same side and the far one on the other side, in this order (P16.2).
func TestImpliedSpread(t *testing.T) {
	sell := []o{{2, 1, 80, 4}, {0, 2, 100, 7}}
	with(t, product(3), sell...).wantRun(4, api.Buy, 20, 3, "[{20 3 true [{2 0 2 100 3 4} {1 2 1 80 3 1}]}] 0")
	with(t, product(3), sell...).wantRun(4, api.Buy, 24, 9, "[{20 4 true [{2 0 2 100 4 3} {1 2 1 80 4 0}]}] 5")
	with(t, product(3), sell...).wantRun(4, api.Buy, 19, 3, "[] 3")
	with(t, product(3), sell...).wantRun(3, api.Buy, highest, 3, "[] 3")
	buy := []o{{2, 2, 80, 4}, {0, 1, 100, 7}}
	with(t, product(3), buy...).wantRun(4, api.Sell, 20, 3, "[{20 3 true [{2 0 1 100 3 4} {1 2 2 80 3 1}]}] 0")
	with(t, product(3), buy...).wantRun(4, api.Sell, lowest, 9, "[{20 4 true [{2 0 1 100 4 3} {1 2 2 80 4 0}]}] 5")
	with(t, product(3), buy...).wantRun(4, api.Sell, 21, 3, "[] 3")
}

// TestRealAndImplied: the better one goes first, and the real one if both are equal, on both sides (P16.2).
func TestRealAndImplied(t *testing.T) {
	// Sell of 0 is implied at 105, for 4.
	legs := []o{{1, 2, 100, 7}, {3, 2, 5, 4}}
	sold := func(price int64) *pair { return with(t, product(3), append(legs, o{0, 2, price, 3})...) }
	sold(105).wantRun(0, api.Buy, 105, 5, "[{105 3 false [{3 0 2 105 3 0}]} {105 2 true [{2 3 2 5 2 2} {1 1 2 100 2 5}]}] 0")
	sold(105).wantRun(0, api.Buy, 105, 2, "[{105 2 false [{3 0 2 105 2 1}]}] 0")
	sold(100).wantRun(0, api.Buy, 105, 5, "[{100 3 false [{3 0 2 100 3 0}]} {105 2 true [{2 3 2 5 2 2} {1 1 2 100 2 5}]}] 0")
	sold(100).wantRun(0, api.Buy, 104, 5, "[{100 3 false [{3 0 2 100 3 0}]}] 2")
	sold(110).wantRun(0, api.Buy, 110, 5, "[{105 4 true [{2 3 2 5 4 0} {1 1 2 100 4 3}]} {110 1 false [{3 0 2 110 1 2}]}] 0")
	sold(110).wantRun(0, api.Buy, 109, 5, "[{105 4 true [{2 3 2 5 4 0} {1 1 2 100 4 3}]}] 1")
	// Buy of 4 is implied at 20, for 4.
	legs = []o{{0, 1, 100, 7}, {2, 2, 80, 4}}
	bought := func(price int64) *pair { return with(t, product(3), append(legs, o{4, 1, price, 3})...) }
	bought(20).wantRun(4, api.Sell, 20, 5, "[{20 3 false [{3 4 1 20 3 0}]} {20 2 true [{1 0 1 100 2 5} {2 2 2 80 2 2}]}] 0")
	bought(25).wantRun(4, api.Sell, 20, 5, "[{25 3 false [{3 4 1 25 3 0}]} {20 2 true [{1 0 1 100 2 5} {2 2 2 80 2 2}]}] 0")
	bought(15).wantRun(4, api.Sell, 15, 5, "[{20 4 true [{1 0 1 100 4 3} {2 2 2 80 4 0}]} {15 1 false [{3 4 1 15 1 2}]}] 0")
	bought(15).wantRun(4, api.Sell, 16, 5, "[{20 4 true [{1 0 1 100 4 3} {2 2 2 80 4 0}]}] 1")
}

// TestImpliedLevels: quotes that come up behind those that are used up, and go, among real levels (P16.2).
func TestImpliedLevels(t *testing.T) {
	p := with(t, product(2),
		o{0, 2, 105, 3}, o{0, 2, 110, 1}, o{0, 2, 120, 9},
		o{2, 2, 5, 2}, o{2, 2, 10, 4}, o{1, 2, 100, 3}, o{1, 2, 105, 2}, o{1, 2, 110, 6})
	p.wantRun(0, api.Buy, 120, 20, "["+
		"{105 3 false [{1 0 2 105 3 0}]} "+
		"{105 2 true [{4 2 2 5 2 0} {6 1 2 100 2 1}]} "+
		"{110 1 false [{2 0 2 110 1 0}]} "+
		"{110 1 true [{5 2 2 10 1 3} {6 1 2 100 1 0}]} "+
		"{115 2 true [{5 2 2 10 2 1} {7 1 2 105 2 0}]} "+
		"{120 9 false [{3 0 2 120 9 0}]} "+
		"{120 1 true [{5 2 2 10 1 0} {8 1 2 110 1 5}]}"+
		"] 1")
	p.wantRun(1, api.Buy, 110, 2, "[{110 2 false [{8 1 2 110 2 3}]}] 0")
}

// TestImpliedTies: of quotes with one price the first one of them all goes first, whatever its quantity is (P16.2).
func TestImpliedTies(t *testing.T) {
	// Sell of the middle month: by the last one at 50 + 5, by the first one at 60 - 5.
	p := with(t, product(3), o{0, 2, 60, 9}, o{3, 1, 5, 9}, o{2, 2, 50, 1}, o{5, 2, 5, 1})
	p.wantRun(1, api.Buy, 55, 3, "[{55 1 true [{4 5 2 5 1 0} {3 2 2 50 1 0}]} {55 2 true [{2 3 1 5 2 7} {1 0 2 60 2 7}]}] 0")
	// Buy of the first month: by the second one at 50 + 5, by the third one at 60 - 5; the latter one better by one tick at the end.
	p = with(t, product(3), o{1, 1, 50, 2}, o{3, 1, 5, 9}, o{2, 1, 60, 3}, o{4, 1, -5, 9})
	p.wantRun(0, api.Sell, 55, 4, "[{55 2 true [{2 3 1 5 2 7} {1 1 1 50 2 0}]} {55 2 true [{4 4 1 -5 2 7} {3 2 1 60 2 1}]}] 0")
	p.put(1, 9, api.Buy, 45, 9)
	p.wantRun(0, api.Sell, 50, 4, "[{55 1 true [{4 4 1 -5 1 6} {3 2 1 60 1 0}]} {50 3 true [{2 3 1 5 3 4} {9 1 1 45 3 6}]}] 0")
}

// TestImpliedBand: a quote at which the instrument may not be traded is none (P16.2).
func TestImpliedBand(t *testing.T) {
	for _, c := range []struct {
		orders     []o
		inst, side int
		want       string
	}{
		{[]o{{1, 2, 150, 7}, {3, 2, 50, 5}}, 0, 1, "[{200 1 true [{2 3 2 50 1 4} {1 1 2 150 1 6}]}] 0"},
		{[]o{{1, 2, 155, 7}, {3, 2, 50, 5}}, 0, 1, "[] 1"},
		{[]o{{1, 1, -50, 7}, {3, 1, -50, 5}}, 0, 2, "[{-100 1 true [{2 3 1 -50 1 4} {1 1 1 -50 1 6}]}] 0"},
		{[]o{{1, 2, -55, 7}, {3, 2, -50, 5}}, 0, 1, "[] 1"},
		{[]o{{0, 2, 150, 7}, {1, 1, 100, 5}}, 3, 1, "[{50 1 true [{1 0 2 150 1 6} {2 1 1 100 1 4}]}] 0"},
		{[]o{{0, 2, 155, 7}, {1, 1, 100, 5}}, 3, 1, "[] 1"},
		{[]o{{0, 1, 50, 7}, {1, 2, 100, 5}}, 3, 2, "[{-50 1 true [{1 0 1 50 1 6} {2 1 2 100 1 4}]}] 0"},
		{[]o{{0, 2, 45, 7}, {1, 1, 100, 5}}, 3, 1, "[] 1"},
	} {
		limit := limitOf(c.side)
		with(t, product(3), c.orders...).wantRun(c.inst, c.side, limit, 1, c.want)
		// A real one beside it, at the worst price.
		p := with(t, product(3), append(c.orders, o{c.inst, otherOf(c.side), []int64{0, 50, -50}[c.side], 5})...)
		p.run(c.inst, c.side, limit, 20)
		p.check()
	}
}

// TestImpliedRules: each leg is shared by the rule of the product among the orders of its own best level, and those behind it get nothing (P16.2).
func TestImpliedRules(t *testing.T) {
	orders := []o{{2, 2, 10, 8}, {2, 2, 15, 50}, {2, 2, 10, 4}, {2, 2, 10, 20}, {1, 2, 50, 9}, {1, 2, 50, 11}, {1, 2, 55, 50}}
	for _, c := range []struct {
		p    api.Product
		want string
	}{
		{terms(api.First, 0, 1, 0), "[{60 16 true [{1 2 2 10 8 0} {3 2 2 10 4 0} {4 2 2 10 4 16} {5 1 2 50 9 0} {6 1 2 50 7 4}]}] 0"},
		{terms(api.Share, 0, 1, 0), "[{60 16 true [{1 2 2 10 4 4} {3 2 2 10 2 2} {4 2 2 10 10 10} {5 1 2 50 8 1} {6 1 2 50 8 3}]}] 0"},
		{terms(api.Share, 8, 3, 0), "[{60 16 true [{1 2 2 10 8 0} {3 2 2 10 2 2} {4 2 2 10 6 14} {5 1 2 50 9 0} {6 1 2 50 7 4}]}] 0"},
		{terms(api.Share, 16, 3, 0), "[{60 16 true [{1 2 2 10 8 0} {3 2 2 10 2 2} {4 2 2 10 6 14} {5 1 2 50 9 0} {6 1 2 50 7 4}]}] 0"},
		{terms(api.Mixed, 0, 2, 25), "[{60 16 true [{1 2 2 10 8 0} {4 2 2 10 8 12} {5 1 2 50 8 1} {6 1 2 50 8 3}]}] 0"},
		{terms(api.Mixed, 0, 1, 0), "[{60 16 true [{1 2 2 10 4 4} {3 2 2 10 2 2} {4 2 2 10 10 10} {5 1 2 50 8 1} {6 1 2 50 8 3}]}] 0"},
	} {
		with(t, c.p, orders...).wantRun(0, api.Buy, 60, 16, c.want)
	}
}

// TestImpliedEach: each instrument and side, with a price, a quantity and an ID for each instrument and side of its own, of products with two to six months (P16.2).
func TestImpliedEach(t *testing.T) {
	for months := 2; months <= api.MaxExp; months++ {
		count := refdata.Count(product(months))
		for _, rule := range rules {
			for inst := range count {
				for _, side := range sides {
					p := newPair(t, ruled(months, rule))
					for at := range count {
						for _, s := range sides {
							if at != inst || s == side {
								p.put(at, int64(10*at+s), s, int64((at*7+s*3)%15*5-35), int64(at*5%11+s+1))
							}
						}
					}
					offers := p.model.offers(inst, otherOf(side))
					steps, left := p.run(inst, side, limitOf(side), 200)
					if len(offers) > 0 && (len(steps) < len(offers) || left == 200) {
						t.Errorf("P16.2: %v: %d Steps, but %d quotes were there", p.last(), len(steps), len(offers))
					}
					for _, step := range steps {
						if !step.Implied || len(step.Fills) != 2 {
							t.Errorf("P16.2: %v: %v", p.last(), step)
						}
					}
					p.check()
				}
			}
		}
	}
}

// TestImpliedQuantity: the lesser one of the legs, and of what is left, and each leg gives as much (P16.2).
func TestImpliedQuantity(t *testing.T) {
	for _, near := range []int64{1, 2, 5} {
		for _, far := range []int64{1, 3, 5} {
			for qty := int64(1); qty <= 6; qty++ {
				p := with(t, product(4), o{0, 2, 50, near}, o{3, 1, 20, far})
				n := min(near, far, qty)
				p.wantRun(6, api.Buy, 30, qty, fmt.Sprintf("[{30 %d true [{1 0 2 50 %d %d} {2 3 1 20 %d %d}]}] %d", n, n, near-n, n, far-n, qty-n))
			}
		}
	}
}

// TestImpliedOfManyOrders: a leg's level of several orders, used up in several Steps with the levels of the other leg (P16.2).
func TestImpliedOfManyOrders(t *testing.T) {
	p := with(t, product(2), o{2, 1, 10, 2}, o{2, 1, 5, 2}, o{2, 1, 0, 9}, o{0, 2, 50, 3}, o{0, 2, 50, 3}, o{0, 2, 50, 3})
	p.wantRun(1, api.Buy, 50, 8, "["+
		"{40 2 true [{1 2 1 10 2 0} {4 0 2 50 2 1}]} "+
		"{45 2 true [{2 2 1 5 2 0} {4 0 2 50 1 0} {5 0 2 50 1 2}]} "+
		"{50 4 true [{3 2 1 0 4 5} {5 0 2 50 2 0} {6 0 2 50 2 1}]}"+
		"] 0")
	if got, want := p.state.Tops()[0], (implied.Top{Has: [2]bool{false, true}, Price: [2]int64{0, 50}, Qty: [2]int64{0, 1}}); got != want {
		t.Errorf("P16.1: Tops: %v, want %v", got, want)
	}
}
