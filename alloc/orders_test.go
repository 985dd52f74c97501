package alloc_test

import (
	"slices"
	"testing"

	"cornhill/api"
	"cornhill/book"
)

// eachRule calls f with terms of each rule, of which some are right and some are not.
func eachRule(f func(s terms)) {
	for _, rule := range append([]int{0, 4}, rules...) {
		for _, top := range []int64{-1, 0, 3, highest} {
			for _, least := range []int64{0, 1, 3} {
				for _, part := range []int64{-1, 0, 33, 100, 101} {
					f(terms{rule, top, least, part})
				}
			}
		}
	}
}

// TestNoOrders: nil and an empty list alike (P13.1).
func TestNoOrders(t *testing.T) {
	for _, l := range [][]book.Order{nil, {}, ask{qtys: same(3, 5)}.orders()[:0]} {
		for _, q := range []int64{0, 1, -1, lowest, highest} {
			eachRule(func(s terms) {
				a := ask{s, nil, nil, q}
				if got := sharesOf(t, a, s.product(), l); len(got) != 0 {
					t.Errorf("P13.1: %s: %s, want none", a, show(got))
				}
			})
		}
	}
}

// TestOneOrder: it receives all, by each rule (P13.1).
func TestOneOrder(t *testing.T) {
	for _, qty := range []int64{1, 2, 3, 255, 256, 65536, largest - 1, largest} {
		for _, q := range []int64{0, 1, qty / 2, qty - 1, qty} {
			for _, rule := range rules {
				for _, s := range []terms{{rule, 0, 1, 50}, {rule, 3, 2, 0}, {rule, highest, highest, 100}} {
					checkShare(t, ask{s, []int64{qty}, nil, q}, q)
					checkShare(t, ask{s, []int64{qty}, []int{0}, q}, q)
				}
			}
		}
	}
}

// TestEqualOrders: by each rule (P13.1).
func TestEqualOrders(t *testing.T) {
	l := same(4, 100)
	checkShare(t, ask{terms{api.First, 50, 1, 50}, l, []int{1}, 300}, 100, 100, 100, 0)
	checkShare(t, ask{terms{api.Share, 50, 1, 50}, l, []int{1}, 300}, 73, 85, 71, 71) // of 250 behind the 50: 71, 35, 71, 71 by size, 2 by arrival
	checkShare(t, ask{terms{api.Share, 50, 1, 50}, l, nil, 300}, 75, 75, 75, 75)
	checkShare(t, ask{terms{api.Mixed, 50, 1, 50}, l, []int{1}, 300}, 100, 80, 60, 60)
	for _, n := range []int{2, 3, 17} {
		for _, tops := range topsOf(n) {
			for _, q := range amounts(same(n, 7)) {
				eachRule(func(s terms) { checkLower(t, ask{s, same(n, 7), tops, q}) })
			}
		}
	}
}

// TestUnequalOrders: each has the share that belongs to its place (P13.1).
func TestUnequalOrders(t *testing.T) {
	for _, c := range []struct{ l, first, share, top, mixed []int64 }{
		{[]int64{10, 20, 70}, []int64{10, 20, 20}, []int64{5, 10, 35}, []int64{6, 13, 31}, []int64{10, 14, 26}},
		{[]int64{20, 10, 70}, []int64{20, 10, 20}, []int64{10, 5, 35}, []int64{11, 8, 31}, []int64{20, 4, 26}},
		{[]int64{70, 20, 10}, []int64{50, 0, 0}, []int64{35, 10, 5}, []int64{33, 13, 4}, []int64{40, 7, 3}},
	} {
		checkShare(t, ask{terms{api.First, 8, 1, 40}, c.l, []int{1}, 50}, c.first...)
		checkShare(t, ask{terms{api.Share, 8, 1, 40}, c.l, nil, 50}, c.share...)
		checkShare(t, ask{terms{api.Share, 8, 1, 40}, c.l, []int{1}, 50}, c.top...)
		checkShare(t, ask{terms{api.Mixed, 8, 1, 40}, c.l, []int{1}, 50}, c.mixed...)
	}
}

// TestTheMostAndLargestOrders: MaxOrders orders of MaxQty each, and one more (P13.1).
func TestTheMostAndLargestOrders(t *testing.T) {
	l := same(full, largest)
	checkShare(t, ask{terms{api.First, largest, 1, 50}, l, []int{200}, 1500000}, with(with(same(full, 0), 0, largest), 1, 500000)...)
	checkShare(t, ask{terms{api.Share, largest, 1, 50}, l, nil, 1000000}, same(full, 4000)...)
	checkShare(t, ask{terms{api.Share, largest, 1, 50}, l, []int{200}, 1249000}, with(same(full, 1000), 200, largest)...)
	checkShare(t, ask{terms{api.Mixed, largest, 1, 50}, l, []int{200}, 1000000}, with(same(full, 2004), 0, 501004)...)
	for _, rule := range rules {
		for _, tops := range topsOf(full) {
			s := terms{rule, largest, 1, 50}
			checkShare(t, ask{s, l, tops, 250000000}, l...)
			checkNone(t, ask{s, l, tops, 250000001})
			for _, q := range amounts(l) {
				checkLower(t, ask{s, l, tops, q})
			}
		}
	}
	for _, n := range []int{full + 1, full + 2, 256, 257, 256 + full, 1 << 16, 1<<16 + 1} {
		for _, rule := range rules {
			for _, q := range []int64{0, 1, int64(n)} {
				checkNone(t, ask{terms{rule, 5, 1, 50}, same(n, 1), []int{n - 1}, q})
				checkNone(t, ask{terms{rule, 0, 1, 100}, same(n, 1), nil, q})
			}
		}
	}
}

// noQuantities are such that no order can have. The last ones are right in their lower half.
var noQuantities = []int64{0, -1, -2, -largest, lowest, largest + 1, largest + 2, 1 << 32, highest, 1<<32 + 1, 1<<32 + largest, -1<<32 + 1}

// TestWrongQuantities: 0, below 0 and above MaxQty, at each place of the others, Top or not (P13.1).
func TestWrongQuantities(t *testing.T) {
	for _, n := range []int{1, 2, 3, full} {
		for _, at := range []int{0, n / 2, n - 1} {
			for _, qty := range noQuantities {
				l := with(same(n, 7), at, qty)
				for _, tops := range [][]int{nil, {at}, {0}, {n - 1}} {
					for _, q := range []int64{0, 1, 7 * int64(n-1), total(l)} {
						for _, rule := range rules {
							checkNone(t, ask{terms{rule, 5, 1, 50}, l, tops, q})
						}
					}
				}
			}
		}
	}
}

// TestAmounts: below nothing, nothing, one, one less than all, all, and one more (P13.1).
func TestAmounts(t *testing.T) {
	for _, rule := range rules {
		for _, l := range slices.Concat(lists, [][]int64{same(full, 1), same(full, largest)}) {
			for _, tops := range topsOf(len(l)) {
				sum := total(l)
				for _, top := range []int64{0, 1, largest} {
					s := terms{rule, top, 1, 50}
					checkShare(t, ask{s, l, tops, 0}, same(len(l), 0)...)
					checkShare(t, ask{s, l, tops, sum}, l...)
					checkLower(t, ask{s, l, tops, 1})
					checkLower(t, ask{s, l, tops, sum - 1})
					for _, q := range []int64{-1, -2, -sum, -1<<32 + 1, lowest, sum + 1, sum + 2, 2*sum + 1, sum + 1<<32, highest} {
						checkNone(t, ask{s, l, tops, q})
					}
				}
			}
		}
	}
	l := []int64{6, 3, 1}
	checkShare(t, ask{terms{api.First, 3, 1, 50}, l, []int{1}, 1}, 1, 0, 0)
	checkShare(t, ask{terms{api.Share, 3, 1, 50}, l, []int{1}, 1}, 0, 1, 0)
	checkShare(t, ask{terms{api.Share, 3, 1, 50}, l, nil, 1}, 1, 0, 0)
	checkShare(t, ask{terms{api.Mixed, 3, 1, 50}, l, []int{1}, 1}, 1, 0, 0)
	checkShare(t, ask{terms{api.First, 3, 1, 50}, l, []int{2}, 9}, 6, 3, 0)
	checkShare(t, ask{terms{api.Share, 3, 1, 50}, l, []int{2}, 9}, 6, 2, 1)
	checkShare(t, ask{terms{api.Mixed, 3, 1, 50}, l, []int{2}, 9}, 6, 3, 0)
}

// TestOtherFieldsOfTheOrders: IDs, sides and prices change nothing, whether they are right or not (P13.1).
func TestOtherFieldsOfTheOrders(t *testing.T) {
	dress := []func(i int, o *book.Order){
		func(i int, o *book.Order) { o.ID, o.Side, o.Price = 0, 0, 0 },
		func(i int, o *book.Order) { o.ID = 7 },
		func(i int, o *book.Order) { o.ID = int64(1000 - i) },
		func(i int, o *book.Order) { o.ID = []int64{lowest, -1, 0, highest}[i%4] },
		func(i int, o *book.Order) { o.Side = api.Sell },
		func(i int, o *book.Order) { o.Side = []int{api.Buy, api.Sell}[i%2] },
		func(i int, o *book.Order) { o.Side = []int{3, 0, -1, 1 << 40, -1 << 40}[i%5] },
		func(i int, o *book.Order) { o.Price = int64(i) },
		func(i int, o *book.Order) { o.Price = int64(-i) },
		func(i int, o *book.Order) { o.Price = []int64{highest, lowest, 0, -1}[i%4] },
	}
	for _, f := range dress {
		for _, l := range longAndShort() {
			for _, tops := range topsOf(len(l)) {
				for _, rule := range append([]int{0}, rules...) {
					for _, q := range append(amounts(l), -1, total(l)+1) {
						a := ask{terms{rule, 4, 1, 50}, l, tops, q}
						orders := a.orders()
						for i := range orders {
							f(i, &orders[i])
						}
						checkDressed(t, a, a.product(), orders)
					}
				}
			}
		}
	}
}

// TestOrdersOfABook: those of a level, while the top order stands there and when it is gone (P13.1).
func TestOrdersOfABook(t *testing.T) {
	k := book.New()
	k.Add(1, api.Sell, 60, 9)
	for id, qty := range []int64{4, 2, 10} {
		k.Add(int64(10+id), api.Buy, 50, qty)
	}
	checkLevel := func(at string, q int64, first, share, mixed []int64) {
		t.Helper()
		for i, want := range [][]int64{first, share, mixed} {
			a := ask{terms: terms{rules[i], 3, 1, 25}, q: q}
			if got := sharesOf(t, a, a.product(), k.At(api.Buy, 50)); !slices.Equal(got, want) {
				t.Errorf("P13.1: %s: %s, with the orders of a book: %s, want %s", at, a, show(got), show(want))
			}
		}
	}
	checkLevel("the first order is Top", 8, []int64{4, 2, 2}, []int64{4, 1, 3}, []int64{4, 0, 4})
	k.Fill(10, 4)
	checkLevel("the top order is gone", 6, []int64{2, 4}, []int64{1, 5}, []int64{2, 4})
	k.Add(20, api.Buy, 50, 4)
	checkLevel("another one has come", 8, []int64{2, 6, 0}, []int64{1, 5, 2}, []int64{2, 5, 1})
}
