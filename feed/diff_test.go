package feed_test

import (
	"fmt"
	"slices"
	"testing"

	"cornhill/api"
	"cornhill/book"
	"cornhill/feed"
)

// smallViews are all Views of one instrument with up to three levels on a side, of which each has one of two quantities and counts, and none or one of three implied quotes.
func smallViews(side int) []feed.View {
	var l []feed.View
	for n := range 4 * 4 * 4 * 4 {
		p := part{inst: 0, side: side}
		prices := []int64{10, 5, -5}
		if side == api.Sell {
			slices.Reverse(prices)
		}
		for i, price := range prices {
			if kind := int64(n) >> (2 * i) & 3; kind > 0 {
				p.levels = append(p.levels, price, 2+kind&1, 1+kind>>1)
			}
		}
		if kind := int64(n) >> 6; kind > 0 {
			p.implied = []int64{5 * (kind & 1), 2 + kind>>1, 1}
		}
		l = append(l, viewOf(1, p))
	}
	return l
}

// TestDiffNone: of equal Views, and of Views with unlike numbers of Sides (P19.2).
func TestDiffNone(t *testing.T) {
	for _, seq := range []int64{0, 7, -1, lowest, highest} {
		for a := range 5 {
			for b := range 5 {
				wantDiff(t, viewOf(a), viewOf(b), seq, "[]")
			}
		}
		v := sample()
		wantDiff(t, v, v, seq, "[]")
		wantDiff(t, v, sample(), seq, "[]")
		for count := range 3 {
			wantDiff(t, v, feed.View{Sides: v.Sides[:count]}, seq, "[]")
			wantDiff(t, feed.View{Sides: v.Sides[:count]}, v, seq, "[]")
			wantDiff(t, viewOf(count), v, seq, "[]")
			wantDiff(t, v, viewOf(count), seq, "[]")
		}
		wantDiff(t, v, viewOf(4), seq, "[]")
		wantDiff(t, viewOf(4), v, seq, "[]")
	}
}

// TestDiffOneLevel: one message for one level that comes, goes, or changes (P19.2).
func TestDiffOneLevel(t *testing.T) {
	for inst := range 3 {
		for _, side := range sides {
			for _, price := range []int64{15, 0, -15} {
				with := func(numbers ...int64) feed.View {
					return viewOf(3, part{inst: inst, side: side, levels: append([]int64{price}, numbers...)})
				}
				none := viewOf(3)
				want := func(a, b feed.View, qty, count int64) {
					t.Helper()
					wantDiff(t, a, b, 41, fmt.Sprintf("[{42 %d %d %d %d %d false}]", inst, side, price, qty, count))
				}
				want(none, with(7, 2), 7, 2)
				want(with(7, 2), none, 0, 0)
				want(with(7, 2), with(8, 2), 8, 2)
				want(with(7, 2), with(6, 2), 6, 2)
				want(with(7, 2), with(7, 3), 7, 3)
				want(with(7, 2), with(7, 1), 7, 1)
				want(with(7, 2), with(1000000000, 250), 1000000000, 250)
				wantDiff(t, with(7, 2), with(7, 2), 41, "[]")
			}
		}
	}
}

// TestDiffOnePrice: a level that has another price is one that goes and one that comes (P19.2).
func TestDiffOnePrice(t *testing.T) {
	one := func(side int, price int64) feed.View {
		return viewOf(1, part{inst: 0, side: side, levels: []int64{price, 5, 1}})
	}
	wantDiff(t, one(1, 10), one(1, 15), 0, "[{1 0 1 15 5 1 false} {2 0 1 10 0 0 false}]")
	wantDiff(t, one(1, 15), one(1, 10), 0, "[{1 0 1 15 0 0 false} {2 0 1 10 5 1 false}]")
	wantDiff(t, one(2, 10), one(2, 15), 0, "[{1 0 2 10 0 0 false} {2 0 2 15 5 1 false}]")
	wantDiff(t, one(2, 15), one(2, 10), 0, "[{1 0 2 10 5 1 false} {2 0 2 15 0 0 false}]")
	wantDiff(t, one(1, 10), one(2, 10), 0, "[{1 0 1 10 0 0 false} {2 0 2 10 5 1 false}]")
	wantDiff(t, one(2, 10), one(1, 10), 0, "[{1 0 1 10 5 1 false} {2 0 2 10 0 0 false}]")
}

// TestDiffMerged: the prices of both Views in one row, the best one first on both sides (P19.2).
func TestDiffMerged(t *testing.T) {
	a := viewOf(1, part{0, 1, []int64{30, 1, 1, 20, 2, 1, 10, 3, 1, 5, 9, 2}, nil}, part{0, 2, []int64{40, 1, 1, 50, 2, 1, 60, 3, 1, 65, 9, 2}, nil})
	b := viewOf(1, part{0, 1, []int64{35, 4, 1, 20, 5, 1, 15, 6, 1, 5, 9, 2, 0, 7, 1}, nil}, part{0, 2, []int64{35, 4, 1, 50, 5, 1, 55, 6, 1, 65, 9, 2, 70, 7, 1}, nil})
	wantDiff(t, a, b, 0, "[{1 0 1 35 4 1 false} {2 0 1 30 0 0 false} {3 0 1 20 5 1 false} {4 0 1 15 6 1 false} {5 0 1 10 0 0 false} {6 0 1 0 7 1 false} "+
		"{7 0 2 35 4 1 false} {8 0 2 40 0 0 false} {9 0 2 50 5 1 false} {10 0 2 55 6 1 false} {11 0 2 60 0 0 false} {12 0 2 70 7 1 false}]")
	wantDiff(t, b, a, 0, "[{1 0 1 35 0 0 false} {2 0 1 30 1 1 false} {3 0 1 20 2 1 false} {4 0 1 15 0 0 false} {5 0 1 10 3 1 false} {6 0 1 0 0 0 false} "+
		"{7 0 2 35 0 0 false} {8 0 2 40 1 1 false} {9 0 2 50 2 1 false} {10 0 2 55 0 0 false} {11 0 2 60 3 1 false} {12 0 2 70 0 0 false}]")
	leads(t, a, b, 0)
	leads(t, b, a, 0)
}

// TestDiffOrder: instruments in order, Buy ahead of Sell, and the implied quote behind the levels (P19.2).
func TestDiffOrder(t *testing.T) {
	b := viewOf(2, part{1, 2, []int64{5, 1, 1}, []int64{-90, 1, 1}}, part{1, 1, []int64{5, 1, 1}, []int64{90, 1, 1}},
		part{0, 2, []int64{5, 1, 1}, []int64{-80, 1, 1}}, part{0, 1, []int64{5, 1, 1, 0, 1, 1}, []int64{80, 1, 1}})
	wantDiff(t, viewOf(2), b, -4, "[{-3 0 1 5 1 1 false} {-2 0 1 0 1 1 false} {-1 0 1 80 1 1 true} {0 0 2 5 1 1 false} {1 0 2 -80 1 1 true} "+
		"{2 1 1 5 1 1 false} {3 1 1 90 1 1 true} {4 1 2 5 1 1 false} {5 1 2 -90 1 1 true}]")
	wantDiff(t, b, viewOf(2), -4, "[{-3 0 1 5 0 0 false} {-2 0 1 0 0 0 false} {-1 0 1 0 0 0 true} {0 0 2 5 0 0 false} {1 0 2 0 0 0 true} "+
		"{2 1 1 5 0 0 false} {3 1 1 0 0 0 true} {4 1 2 5 0 0 false} {5 1 2 0 0 0 true}]")
}

// TestDiffSeq: each number, from the one behind seq on (P19.2).
func TestDiffSeq(t *testing.T) {
	a, b := viewOf(3), sample()
	for _, seq := range []int64{0, 1, 6, -1, -2, -9, -1000, lowest, 255, 256, 1 << 31, 1 << 32, 1<<40 - 3, highest - 22} {
		l := diff(t, a, b, seq)
		if len(l) != 22 {
			t.Fatalf("P19.2: %d messages", len(l))
		}
		for i, m := range l {
			if m.Seq != seq+1+int64(i) {
				t.Fatalf("P19.2: Diff(.., %d): the message %d is %v", seq, i, m)
			}
		}
	}
}

// TestDiffImplied: a quote that comes, changes and goes, and one of which Has alone or Implied alone differs (P19.2).
func TestDiffImplied(t *testing.T) {
	for inst := range 2 {
		for _, side := range sides {
			with := func(implied ...int64) feed.View {
				return viewOf(2, part{inst, side, []int64{5, 1, 1}, implied})
			}
			want := func(a, b feed.View, numbers string) {
				t.Helper()
				wantDiff(t, a, b, 9, fmt.Sprintf("[{10 %d %d %s true}]", inst, side, numbers))
			}
			none := viewOf(2, part{inst, side, []int64{5, 1, 1}, nil})
			want(none, with(10, 3, 2), "10 3 2")
			want(with(10, 3, 2), none, "0 0 0")
			want(with(10, 3, 2), with(15, 3, 2), "15 3 2")
			want(with(10, 3, 2), with(10, 4, 2), "10 4 2")
			want(with(10, 3, 2), with(10, 3, 1), "10 3 1")
			wantDiff(t, with(10, 3, 2), with(10, 3, 2), 9, "[]")
			hidden := with(10, 3, 2)
			hidden.Sides[inst][side-1].Has = false
			want(with(10, 3, 2), hidden, "0 0 0")
			want(hidden, with(10, 3, 2), "10 3 2")
			want(hidden, none, "0 0 0")
			want(none, hidden, "0 0 0")
			want(none, with(0, 0, 0), "0 0 0")
			want(with(0, 0, 0), none, "0 0 0")
		}
	}
}

// TestDiffImpliedLevel: a level at the price of the implied quote is another thing (P19.2).
func TestDiffImpliedLevel(t *testing.T) {
	a := viewOf(1, part{0, 1, []int64{5, 4, 1}, nil})
	b := viewOf(1, part{0, 1, nil, []int64{5, 4, 1}})
	wantDiff(t, a, b, 0, "[{1 0 1 5 0 0 false} {2 0 1 5 4 1 true}]")
	wantDiff(t, b, a, 0, "[{1 0 1 5 4 1 false} {2 0 1 0 0 0 true}]")
	leads(t, a, b, 0)
	leads(t, b, a, 0)
}

// TestDiffEnds: prices, quantities and counts at the ends of an int64 (P19.2).
func TestDiffEnds(t *testing.T) {
	a := viewOf(1, part{0, 1, []int64{highest, 1, 1, 0, highest, 1, lowest, 1, highest}, nil}, part{0, 2, []int64{lowest, 1, 1, highest, highest, 2}, nil})
	wantDiff(t, viewOf(1), a, 0, fmt.Sprintf("[{1 0 1 %[1]d 1 1 false} {2 0 1 0 %[1]d 1 false} {3 0 1 %[2]d 1 %[1]d false} {4 0 2 %[2]d 1 1 false} {5 0 2 %[1]d %[1]d 2 false}]", highest, lowest))
	wantDiff(t, a, viewOf(1), 0, fmt.Sprintf("[{1 0 1 %[1]d 0 0 false} {2 0 1 0 0 0 false} {3 0 1 %[2]d 0 0 false} {4 0 2 %[2]d 0 0 false} {5 0 2 %[1]d 0 0 false}]", highest, lowest))
	leads(t, viewOf(1), a, 0)
	leads(t, a, viewOf(1), 0)
}

// TestDiffManyInsts: more instruments than a product has, of which each has its messages (P19.2).
func TestDiffManyInsts(t *testing.T) {
	a, b := viewOf(300), viewOf(300)
	for inst := range 300 {
		b.Sides[inst][inst%2].Levels = []book.Level{{Price: int64(inst), Qty: 1, Count: 1}}
	}
	l := leads(t, a, b, 0)
	for inst := range 300 {
		if want := (api.Msg{Seq: int64(inst) + 1, Inst: inst, Side: inst%2 + 1, Price: int64(inst), Qty: 1, Count: 1}); l[inst] != want {
			t.Fatalf("P19.2: the message %d: %v, want %v", inst, l[inst], want)
		}
	}
}

// TestDiffUnordered: of a View that no state has, also each price once, the best one first (P19.2).
func TestDiffUnordered(t *testing.T) {
	a := viewOf(1, part{0, 1, []int64{5, 1, 1, 15, 2, 1, 10, 3, 1}, nil}, part{0, 2, []int64{15, 2, 1, 5, 1, 1, 10, 3, 1}, nil})
	b := viewOf(1, part{0, 1, []int64{10, 3, 1, 20, 4, 1, 5, 7, 1}, nil}, part{0, 2, []int64{10, 3, 1, 20, 4, 1, 5, 7, 1}, nil})
	wantDiff(t, a, b, 0, "[{1 0 1 20 4 1 false} {2 0 1 15 0 0 false} {3 0 1 5 7 1 false} {4 0 2 5 7 1 false} {5 0 2 15 0 0 false} {6 0 2 20 4 1 false}]")
	twice := viewOf(1, part{0, 1, []int64{5, 1, 1, 5, 2, 1}, nil})
	wantDiff(t, twice, viewOf(1), 0, "[{1 0 1 5 0 0 false}]")
	wantDiff(t, viewOf(1), twice, 0, "[{1 0 1 5 1 1 false}]")
	wantDiff(t, twice, viewOf(1, part{0, 1, []int64{5, 1, 1}, nil}), 0, "[]")
}

// TestDiffEvery: of every two small sides, there and back (P19.2, P19.4).
func TestDiffEvery(t *testing.T) {
	for _, side := range sides {
		l := smallViews(side)
		for i, a := range l {
			for j, b := range l {
				// Implied quotes are apart from the levels, so not each two of both are asked.
				if i>>6 == j>>6 || (i+j)%7 == 0 {
					leads(t, a, b, int64(i))
				}
			}
		}
	}
}
