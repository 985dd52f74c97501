package match_test

import (
	"fmt"
	"testing"

	"cornhill/api"
	"cornhill/refdata"
)

// limitOf returns the loosest limit of an order.
func limitOf(side int) int64 {
	if side == api.Buy {
		return highest
	}
	return lowest
}

// TestExamples: those of the chapter (P16.2, P16.3).
func TestExamples(t *testing.T) {
	p := with(t, product(2))
	p.wantRun(0, api.Buy, 10, 3, "[] 3")
	p.put(0, 1, api.Sell, 10, 5)
	p.wantRun(0, api.Buy, 12, 3, "[{10 3 false [{1 0 2 10 3 2}]}] 0")
	p.wantCould(0, api.Buy, 12, largest, 2)
}

// TestRunNothing: no Steps and all of qty, where the instrument, the side or the quantity is none (P16.2, P16.3).
func TestRunNothing(t *testing.T) {
	for _, months := range []int{2, 3, 6} {
		count := months * (months + 1) / 2
		p := newPair(t, product(months))
		for inst := range count {
			p.put(inst, int64(2*inst), api.Buy, 50, 5)
			p.put(inst, int64(2*inst+1), api.Sell, -50, 5)
		}
		check := func(inst, side int, qty int64) {
			t.Helper()
			for _, price := range []int64{0, limitOf(side)} {
				if could := p.state.Could(inst, side, price, qty); could != 0 {
					t.Errorf("P16.3: %d months: Could(%d, %d, %d, %d): %d, want 0", months, inst, side, price, qty, could)
				}
				p.wantRun(inst, side, price, qty, fmt.Sprint("[] ", qty))
			}
		}
		for _, inst := range noInsts(months) {
			check(inst, api.Buy, 5)
			check(inst, api.Sell, 1)
			check(inst, 0, 0)
		}
		for inst := range count {
			for _, side := range noSides {
				check(inst, side, 5)
			}
			for _, qty := range noQuantities {
				check(inst, api.Buy, qty)
				check(inst, api.Sell, qty)
			}
		}
	}
}

// TestRunQuantities: 1 and MaxQty are those at the ends (P16.2).
func TestRunQuantities(t *testing.T) {
	p := with(t, product(2), o{0, 2, 10, largest}, o{0, 2, 10, largest})
	p.wantRun(0, api.Buy, 10, 1, "[{10 1 false [{1 0 2 10 1 999999}]}] 0")
	p.wantRun(0, api.Buy, 10, largest, "[{10 1000000 false [{1 0 2 10 999999 0} {2 0 2 10 1 999999}]}] 0")
	p.wantRun(0, api.Buy, 10, largest, "[{10 999999 false [{2 0 2 10 999999 0}]}] 1")
	p.wantRun(0, api.Buy, 10, largest, "[] 1000000")
}

// TestRunOwnSide: what stands on the side of the order is nothing to it (P16.2).
func TestRunOwnSide(t *testing.T) {
	for months := 2; months <= api.MaxExp; months++ {
		for inst := range refdata.Count(product(months)) {
			for _, side := range sides {
				p := with(t, product(months), o{inst, side, 0, 5}, o{inst, side, 5, 5})
				p.wantRun(inst, side, limitOf(side), 7, "[] 7")
			}
		}
	}
}

// TestRunLimits: just at the best price, just short of it and beyond, on both sides of each instrument (P16.2).
func TestRunLimits(t *testing.T) {
	for _, months := range []int{2, 3, 6} {
		for inst := range refdata.Count(product(months)) {
			for _, price := range []int64{0, 50, -50} {
				for _, by := range []int64{0, 1, 1000, -1, -5, -1000} {
					for _, side := range sides {
						limit := price + by
						if side == api.Sell {
							limit = price - by
						}
						p := with(t, product(months), o{inst, otherOf(side), price, 5})
						if by < 0 {
							p.wantRun(inst, side, limit, 3, "[] 3")
							continue
						}
						p.wantRun(inst, side, limit, 3, fmt.Sprintf("[{%d 3 false [{1 %d %d %d 3 2}]}] 0", price, inst, otherOf(side), price))
					}
				}
				p := with(t, product(months), o{inst, api.Sell, price, 5}, o{inst, api.Buy, price, 5})
				p.wantRun(inst, api.Buy, lowest, 1, "[] 1")
				p.wantRun(inst, api.Sell, highest, 1, "[] 1")
				p.wantRun(inst, api.Buy, highest, 1, fmt.Sprintf("[{%d 1 false [{1 %d 2 %d 1 4}]}] 0", price, inst, price))
				p.wantRun(inst, api.Sell, lowest, 1, fmt.Sprintf("[{%d 1 false [{2 %d 1 %d 1 4}]}] 0", price, inst, price))
			}
		}
	}
}

// ladder is a side of an instrument with three levels, of which the middle one has three orders. Those of Buy stand at the prices below 0, so that the best one comes first.
func ladder(inst, side int) []o {
	var l []o
	for i, qty := range []int64{4, 3, 2, 1, 5} {
		price := []int64{10, 15, 15, 15, 20}[i]
		if side == api.Buy {
			price = -price
		}
		l = append(l, o{inst, side, price, qty})
	}
	return l
}

// TestRunLevels: one level, a part of one, several, and all of them, the best one first, up to the limit (P16.2).
func TestRunLevels(t *testing.T) {
	for _, c := range []struct {
		limit, qty int64
		want       string
	}{
		{10, 3, "[{10 3 false [{1 0 2 10 3 1}]}] 0"},
		{10, 4, "[{10 4 false [{1 0 2 10 4 0}]}] 0"},
		{10, 5, "[{10 4 false [{1 0 2 10 4 0}]}] 1"},
		{14, 5, "[{10 4 false [{1 0 2 10 4 0}]}] 1"},
		{9, 5, "[] 5"},
		{15, 5, "[{10 4 false [{1 0 2 10 4 0}]} {15 1 false [{2 0 2 15 1 2}]}] 0"},
		{19, 9, "[{10 4 false [{1 0 2 10 4 0}]} {15 5 false [{2 0 2 15 3 0} {3 0 2 15 2 0}]}] 0"},
		{15, 10, "[{10 4 false [{1 0 2 10 4 0}]} {15 6 false [{2 0 2 15 3 0} {3 0 2 15 2 0} {4 0 2 15 1 0}]}] 0"},
		{19, 11, "[{10 4 false [{1 0 2 10 4 0}]} {15 6 false [{2 0 2 15 3 0} {3 0 2 15 2 0} {4 0 2 15 1 0}]}] 1"},
		{20, 11, "[{10 4 false [{1 0 2 10 4 0}]} {15 6 false [{2 0 2 15 3 0} {3 0 2 15 2 0} {4 0 2 15 1 0}]} {20 1 false [{5 0 2 20 1 4}]}] 0"},
		{highest, largest, "[{10 4 false [{1 0 2 10 4 0}]} {15 6 false [{2 0 2 15 3 0} {3 0 2 15 2 0} {4 0 2 15 1 0}]} {20 5 false [{5 0 2 20 5 0}]}] 999985"},
	} {
		with(t, product(2), ladder(0, api.Sell)...).wantRun(0, api.Buy, c.limit, c.qty, c.want)
	}
	sold := with(t, product(2), ladder(2, api.Buy)...)
	sold.wantRun(2, api.Sell, -20, 11, "[{-10 4 false [{1 2 1 -10 4 0}]} {-15 6 false [{2 2 1 -15 3 0} {3 2 1 -15 2 0} {4 2 1 -15 1 0}]} {-20 1 false [{5 2 1 -20 1 4}]}] 0")
	for _, months := range []int{2, 3, 6} {
		for inst := range refdata.Count(product(months)) {
			for _, side := range sides {
				for _, limit := range []int64{9, 10, 16, 20} {
					for _, qty := range []int64{1, 4, 5, 11, 16} {
						if side == api.Sell {
							limit = -limit
						}
						p := with(t, product(months), ladder(inst, otherOf(side))...)
						p.run(inst, side, limit, qty)
						p.run(inst, side, limitOf(side), qty+1)
						p.check()
					}
				}
			}
		}
	}
}

// TestRunAgain: each Run goes on with what the one before has left (P16.2).
func TestRunAgain(t *testing.T) {
	p := with(t, product(3), ladder(4, api.Buy)...)
	p.wantRun(4, api.Sell, -10, 3, "[{-10 3 false [{1 4 1 -10 3 1}]}] 0")
	p.wantRun(4, api.Sell, -15, 3, "[{-10 1 false [{1 4 1 -10 1 0}]} {-15 2 false [{2 4 1 -15 2 1}]}] 0")
	p.wantRun(4, api.Sell, -10, 3, "[] 3")
	p.put(4, 9, api.Buy, -10, 1)
	p.wantRun(4, api.Sell, -15, 3, "[{-10 1 false [{9 4 1 -10 1 0}]} {-15 2 false [{2 4 1 -15 1 0} {3 4 1 -15 1 1}]}] 0")
	p.wantRun(4, api.Sell, -20, 8, "[{-15 2 false [{3 4 1 -15 1 0} {4 4 1 -15 1 0}]} {-20 5 false [{5 4 1 -20 5 0}]}] 1")
	p.wantRun(4, api.Sell, lowest, 8, "[] 8")
}

// TestRunArrival: at one price the first that came is served first, whatever its ID and its size are (P16.2).
func TestRunArrival(t *testing.T) {
	p := newPair(t, product(2))
	p.put(1, 50, api.Sell, 10, 2)
	p.put(1, -9, api.Sell, 5, 3)
	p.put(1, 7, api.Sell, 10, 9)
	p.put(1, highest, api.Sell, 5, 1)
	p.put(1, 0, api.Sell, 5, 4)
	p.wantRun(1, api.Buy, 10, 15, "[{5 8 false [{-9 1 2 5 3 0} {9223372036854775807 1 2 5 1 0} {0 1 2 5 4 0}]} {10 7 false [{50 1 2 10 2 0} {7 1 2 10 5 4}]}] 0")
}

// terms returns a product with two months and what it says of the allocation.
func terms(rule int, top, least, part int64) api.Product {
	p := ruled(2, rule)
	p.Top, p.Least, p.Part = top, least, part
	return p
}

// TestRunRules: the same orders by each of the rules, of which those that receive nothing are left out (P16.2).
func TestRunRules(t *testing.T) {
	level := []o{{0, 2, 10, 8}, {0, 2, 10, 4}, {0, 2, 10, 20}}
	for _, c := range []struct {
		p    api.Product
		want string
	}{
		{terms(api.First, 0, 1, 0), "[{10 16 false [{1 0 2 10 8 0} {2 0 2 10 4 0} {3 0 2 10 4 16}]}] 0"},
		{terms(api.Share, 0, 1, 0), "[{10 16 false [{1 0 2 10 4 4} {2 0 2 10 2 2} {3 0 2 10 10 10}]}] 0"},
		{terms(api.Share, 0, 3, 0), "[{10 16 false [{1 0 2 10 6 2} {3 0 2 10 10 10}]}] 0"},
		{terms(api.Share, 8, 1, 0), "[{10 16 false [{1 0 2 10 8 0} {2 0 2 10 2 2} {3 0 2 10 6 14}]}] 0"},
		{terms(api.Share, 2, 1, 0), "[{10 16 false [{1 0 2 10 6 2} {2 0 2 10 1 3} {3 0 2 10 9 11}]}] 0"},
		{terms(api.Mixed, 0, 1, 25), "[{10 16 false [{1 0 2 10 7 1} {2 0 2 10 1 3} {3 0 2 10 8 12}]}] 0"},
		{terms(api.Mixed, 0, 2, 25), "[{10 16 false [{1 0 2 10 8 0} {3 0 2 10 8 12}]}] 0"},
		{terms(api.Mixed, 0, 1, 100), "[{10 16 false [{1 0 2 10 8 0} {2 0 2 10 4 0} {3 0 2 10 4 16}]}] 0"},
	} {
		with(t, c.p, level...).wantRun(0, api.Buy, 10, 16, c.want)
	}
	for _, rule := range rules {
		with(t, terms(rule, 3, 2, 40), level...).wantRun(0, api.Buy, 10, 32, "[{10 32 false [{1 0 2 10 8 0} {2 0 2 10 4 0} {3 0 2 10 20 0}]}] 0")
		with(t, terms(rule, 3, 2, 40), level...).wantRun(0, api.Buy, 10, 40, "[{10 32 false [{1 0 2 10 8 0} {2 0 2 10 4 0} {3 0 2 10 20 0}]}] 8")
	}
}

// TestRunTopOrder: the top order of the level is served first by the rule Share, until it has gone, and one that has lost it is not (P16.2).
func TestRunTopOrder(t *testing.T) {
	p := with(t, terms(api.Share, 4, 1, 0), o{0, 1, 5, 6}, o{0, 1, 10, 6}, o{0, 1, 10, 6})
	p.wantRun(0, api.Sell, 10, 6, "[{10 6 false [{2 0 1 10 5 1} {3 0 1 10 1 5}]}] 0")
	p.wantRun(0, api.Sell, 10, 2, "[{10 2 false [{2 0 1 10 1 0} {3 0 1 10 1 4}]}] 0")
	p.put(0, 4, api.Buy, 10, 4)
	p.wantRun(0, api.Sell, 10, 4, "[{10 4 false [{3 0 1 10 2 2} {4 0 1 10 2 2}]}] 0")
	p.put(0, 5, api.Buy, 15, 1)
	p.wantRun(0, api.Sell, 10, 3, "[{15 1 false [{5 0 1 15 1 0}]} {10 2 false [{3 0 1 10 1 1} {4 0 1 10 1 1}]}] 0")
	p.wantRun(0, api.Sell, 5, 4, "[{10 2 false [{3 0 1 10 1 0} {4 0 1 10 1 0}]} {5 2 false [{1 0 1 5 2 4}]}] 0")
}

// TestRunFullBook: as many levels as there can be orders, and as many orders as there can be on one level (P16.2).
func TestRunFullBook(t *testing.T) {
	p := product(2)
	p.Tick, p.Wide = 1, 300
	for _, inst := range []int{0, 2} {
		levels := newPair(t, p)
		for i := range int64(most) {
			levels.put(inst, i, api.Sell, i-100, 2)
		}
		steps, left := levels.run(inst, api.Buy, 200, largest)
		if len(steps) != most || left != largest-2*most {
			t.Errorf("P16.2: %d Steps, %d left", len(steps), left)
		}
		level := newPair(t, p)
		for i := range int64(most) {
			level.put(inst, i, api.Buy, 7, largest)
		}
		steps, left = level.run(inst, api.Sell, 7, largest)
		if len(steps) != 1 || len(steps[0].Fills) != 1 || left != 0 {
			t.Errorf("P16.2: %v, %d left", steps, left)
		}
		level.check()
	}
}
