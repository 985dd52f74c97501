package alloc_test

import (
	"math"
	"testing"

	"cornhill/api"
	"cornhill/refdata"
)

// anyNumbers are such as the terms of a product may be, right and wrong.
var anyNumbers = []int64{lowest, -1, 0, 1, 2, 50, 100, 101, largest, highest}

// TestExamples: those of the chapter (P13.1).
func TestExamples(t *testing.T) {
	checkShare(t, ask{terms{rule: api.First}, []int64{5, 5}, nil, 7}, 5, 2)
	checkNone(t, ask{terms{0, 5, 1, 50}, []int64{5, 5}, nil, 7})
	checkShare(t, ask{terms{api.Share, 5, 1, 0}, []int64{5, 5, 5}, []int{1, 2}, 5}, 0, 5, 0)
}

// TestRules: what the same orders receive by each rule (P13.1).
func TestRules(t *testing.T) {
	l, tops := []int64{4, 2, 10}, []int{2}
	checkShare(t, ask{terms{api.First, 4, 1, 25}, l, tops, 8}, 4, 2, 2)
	checkShare(t, ask{terms{api.Share, 4, 1, 25}, l, tops, 8}, 2, 0, 6) // 4 to the top order, and of the 4 behind it 1, 0, 2 by size, 1 by arrival
	checkShare(t, ask{terms{api.Share, 4, 1, 25}, l, nil, 8}, 2, 1, 5)
	checkShare(t, ask{terms{api.Mixed, 4, 1, 25}, l, tops, 8}, 4, 0, 4) // 2 by arrival, and of the 6 behind it 0, 0, 4 by size, 2 by arrival
	checkShare(t, ask{terms{api.Mixed, 4, 1, 0}, l, tops, 8}, 2, 1, 5)
	checkShare(t, ask{terms{api.Mixed, 4, 1, 100}, l, tops, 8}, 4, 2, 2)
	l = []int64{10, 2, 4} // the orders the other way round, so that arrival counts
	checkShare(t, ask{terms{api.First, 4, 1, 25}, l, []int{0}, 8}, 8, 0, 0)
	checkShare(t, ask{terms{api.Share, 4, 1, 25}, l, []int{0}, 8}, 7, 0, 1)
	checkShare(t, ask{terms{api.Mixed, 4, 1, 25}, l, []int{0}, 8}, 7, 0, 1)
	checkShare(t, ask{terms{api.Mixed, 4, 1, 0}, l, []int{0}, 8}, 5, 1, 2)
}

// TestOtherRules: there are none beside First, Share and Mixed (P13.1). The last ones are right in their lower half or their last byte.
func TestOtherRules(t *testing.T) {
	for _, rule := range []int{
		0, -1, -2, -3, 4, 5, 100, math.MinInt, math.MinInt + 1, math.MaxInt - 1, math.MaxInt,
		256 + 1, 256 + 2, 256 + 3, 1<<32 + 1, 1<<32 + 2, 1<<32 + 3, -1<<32 + 1, -1<<32 + 2, math.MinInt + 3,
	} {
		for _, l := range longAndShort() {
			for _, q := range append(amounts(l), -1, total(l)+1) {
				for _, tops := range topsOf(len(l)) {
					checkNone(t, ask{terms{rule, 5, 1, 50}, l, tops, q})
				}
				checkNone(t, ask{terms{rule: rule}, l, nil, q})
			}
		}
	}
}

// checkTerms compares what the rule gives with the function that it selects, with right and wrong terms and amounts.
func checkTerms(t *testing.T, rule int) {
	t.Helper()
	for _, l := range longAndShort() {
		for _, q := range append(amounts(l), lowest, -1, total(l)+1, highest) {
			for _, tops := range topsOf(len(l)) {
				for _, n := range anyNumbers {
					checkLower(t, ask{terms{rule, n, 1, 50}, l, tops, q})
					checkLower(t, ask{terms{rule, 5, n, 50}, l, tops, q})
					checkLower(t, ask{terms{rule, 5, 1, n}, l, tops, q})
					checkLower(t, ask{terms{rule, n, n, n}, l, tops, q})
				}
			}
		}
	}
}

// TestFirst: the same as fifo.Share, which asks nothing of the other terms, nor of Top orders (P13.1).
func TestFirst(t *testing.T) {
	checkTerms(t, api.First)
	for _, n := range anyNumbers {
		checkShare(t, ask{terms{api.First, n, n, n}, []int64{4, 2, 10}, []int{2}, 8}, 4, 2, 2)
		checkShare(t, ask{terms{api.First, n, n, n}, []int64{10, 2, 4}, []int{1}, 12}, 10, 2, 0)
	}
}

// TestShare: the same as prorata.Share, whatever Part is (P13.1).
func TestShare(t *testing.T) {
	checkTerms(t, api.Share)
	for _, part := range anyNumbers {
		checkShare(t, ask{terms{api.Share, 4, 1, part}, []int64{4, 2, 10}, []int{2}, 8}, 2, 0, 6)
		checkShare(t, ask{terms{api.Share, 4, 1, part}, []int64{4, 2, 10}, nil, 8}, 2, 1, 5)
		checkShare(t, ask{terms{api.Share, 0, 2, part}, []int64{4, 2, 10}, nil, 8}, 3, 0, 5)
	}
}

// TestShareLeast: shares by size below it are none, and below 1 it can't be (P13.1).
func TestShareLeast(t *testing.T) {
	l := []int64{4, 2, 10} // the shares by size are 2, 1, 5, and 1, 0, 2 when 4 are the top order's
	for _, c := range []struct {
		least      int64
		plain, top []int64
	}{
		{1, []int64{2, 1, 5}, []int64{2, 0, 6}},
		{2, []int64{3, 0, 5}, []int64{2, 0, 6}},
		{3, []int64{3, 0, 5}, []int64{4, 0, 4}},
		{5, []int64{3, 0, 5}, []int64{4, 0, 4}},
		{6, []int64{4, 2, 2}, []int64{4, 0, 4}},
		{1000, []int64{4, 2, 2}, []int64{4, 0, 4}},
		{highest, []int64{4, 2, 2}, []int64{4, 0, 4}},
	} {
		checkShare(t, ask{terms{api.Share, 4, c.least, 50}, l, nil, 8}, c.plain...)
		checkShare(t, ask{terms{api.Share, 0, c.least, 50}, l, []int{2}, 8}, c.plain...)
		checkShare(t, ask{terms{api.Share, 4, c.least, 50}, l, []int{2}, 8}, c.top...)
	}
	for _, least := range []int64{0, -1, -5, -largest, -1<<32 + 1, lowest} {
		for _, tops := range topsOf(3) {
			for _, q := range amounts(l) {
				checkNone(t, ask{terms{api.Share, 4, least, 50}, l, tops, q})
				checkNone(t, ask{terms{api.Share, 0, least, 50}, l, tops, q})
			}
		}
	}
}

// TestMixed: the same as split.Share, which asks nothing of Top, nor of Top orders (P13.1).
func TestMixed(t *testing.T) {
	checkTerms(t, api.Mixed)
	for _, top := range anyNumbers {
		for _, tops := range topsOf(3) {
			checkShare(t, ask{terms{api.Mixed, top, 1, 25}, []int64{4, 2, 10}, tops, 8}, 4, 0, 4)
			checkShare(t, ask{terms{api.Mixed, top, 1, 50}, []int64{5, 5, 10}, tops, 10}, 5, 2, 3)
		}
	}
}

// TestMixedPart: from 0 to 100, and beyond (P13.1).
func TestMixedPart(t *testing.T) {
	l := []int64{10, 10}
	for _, c := range []struct{ part, first, second int64 }{{0, 5, 5}, {1, 5, 5}, {10, 6, 4}, {33, 6, 4}, {50, 7, 3}, {90, 10, 0}, {99, 10, 0}, {100, 10, 0}} {
		checkShare(t, ask{terms{api.Mixed, 0, 1, c.part}, l, nil, 10}, c.first, c.second)
	}
	for _, part := range []int64{-1, -2, -50, -100, lowest, 101, 102, 150, 200, highest, 256 + 50, 1<<32 + 50, -1<<32 + 50} {
		for _, q := range amounts(l) {
			for _, tops := range topsOf(2) {
				checkNone(t, ask{terms{api.Mixed, 0, 1, part}, l, tops, q})
			}
		}
	}
}

// TestMixedLeast: shares by size below it are none, and below 1 it can't be (P13.1).
func TestMixedLeast(t *testing.T) {
	l := []int64{8, 4, 20} // 4 of 16 are early, and the shares of the other 12 are 1, 1, 8
	checkShare(t, ask{terms{api.Mixed, 0, 1, 25}, l, nil, 16}, 7, 1, 8)
	checkShare(t, ask{terms{api.Mixed, 0, 2, 25}, l, nil, 16}, 8, 0, 8)
	checkShare(t, ask{terms{api.Mixed, 0, 8, 25}, l, nil, 16}, 8, 0, 8)
	checkShare(t, ask{terms{api.Mixed, 0, 9, 25}, l, nil, 16}, 8, 4, 4)
	checkShare(t, ask{terms{api.Mixed, 0, highest, 25}, l, nil, 16}, 8, 4, 4)
	for _, least := range []int64{0, -1, -5, -largest, -1<<32 + 1, lowest} {
		for _, q := range amounts(l) {
			for _, part := range []int64{0, 25, 50, 100} {
				checkNone(t, ask{terms{api.Mixed, 0, least, part}, l, nil, q})
			}
		}
	}
}

// TestRuleAlone: a product of which nothing else is filled in has a Least of 0, which First does not need (P13.1).
func TestRuleAlone(t *testing.T) {
	for _, l := range longAndShort() {
		for _, q := range amounts(l) {
			for _, tops := range topsOf(len(l)) {
				checkLower(t, ask{terms{rule: api.First}, l, tops, q})
				checkNone(t, ask{terms{rule: api.Share}, l, tops, q})
				checkNone(t, ask{terms{rule: api.Mixed}, l, tops, q})
			}
		}
	}
	checkShare(t, ask{terms{rule: api.First}, []int64{4, 2, 10}, nil, 8}, 4, 2, 2)
}

// dresses are products that differ in what is no term of the allocation. Only the first one is valid.
func dresses() []api.Product {
	return []api.Product{
		{Code: "CL", Months: []int{312, 323}, Tick: 5, Low: 0, High: 100, Wide: 20, Settle: []int64{50, 55}},
		{Code: "CL", Months: []int{312, 323}, Tick: 0, Low: 0, High: 100, Wide: 20, Settle: []int64{50, 55}},
		{Code: "no code", Months: []int{323, 312, 312}, Tick: -1, Low: 100, High: -100, Wide: -1, Settle: []int64{7}},
		{Code: "\xff", Months: []int{}, Tick: highest, Low: lowest, High: highest, Wide: lowest, Settle: []int64{}},
		{Months: make([]int, 7), Low: highest, High: lowest, Settle: make([]int64, 300)},
	}
}

// TestOtherFieldsOfTheProduct: they change nothing, whether they are right or not (P13.1).
func TestOtherFieldsOfTheProduct(t *testing.T) {
	valid := 0
	for _, p := range dresses() {
		for _, rule := range append([]int{0, 4}, rules...) {
			p.Rule, p.Top, p.Least, p.Part = rule, 4, 2, 25
			if refdata.Check(p) == api.OK {
				valid++
			}
			for _, l := range longAndShort() {
				for _, tops := range topsOf(len(l)) {
					for _, q := range append(amounts(l), -1, total(l)+1) {
						a := ask{terms{rule, 4, 2, 25}, l, tops, q}
						checkDressed(t, a, p, a.orders())
					}
				}
			}
		}
	}
	if valid != len(rules) {
		t.Errorf("%d valid products, want one for each rule", valid)
	}
}
