package snap_test

import (
	"testing"

	"cornhill/api"
	"cornhill/book"
	"cornhill/feed"
)

// TestRightInstruments: at most 255 of them, with nothing on their sides or with something (P20.1).
func TestRightInstruments(t *testing.T) {
	for _, count := range []int{0, 1, 2, 3, 127, 128, 254, 255, 256, 257, 300, 510, 511, 512, 513, 1 << 16, 1<<16 + 1} {
		v := viewOf(count)
		wantRight(t, v, count <= 255)
		if count == 0 {
			continue
		}
		for _, inst := range []int{0, count / 2, count - 1} {
			for at, side := range sides {
				v.Sides[inst][at] = feed.Side{Levels: ladder(side, 2), Implied: book.Level{Price: -5, Qty: 1, Count: 1}, Has: true}
			}
		}
		wantRight(t, v, count <= 255)
	}
	wantRight(t, feed.View{}, true)
	wantRight(t, feed.View{Sides: [][2]feed.Side{}}, true)
}

// TestRightLevels: at most 255 of them on each side of each instrument (P20.1).
func TestRightLevels(t *testing.T) {
	for _, count := range []int{0, 1, 2, 3, 127, 128, 254, 255, 256, 257, 300, 510, 511, 512, 513, 1 << 16, 1<<16 + 1} {
		everywhere(func(inst, side int) {
			wantRight(t, changed(inst, side, func(s *feed.Side) { s.Levels = ladder(side, count) }), count <= 255)
			wantRight(t, changed(inst, side, func(s *feed.Side) { *s = feed.Side{Levels: ladder(side, count)} }), count <= 255)
		})
	}
	everywhere(func(inst, side int) {
		wantRight(t, changed(inst, side, func(s *feed.Side) { s.Levels = nil }), true)
		wantRight(t, changed(inst, side, func(s *feed.Side) { s.Levels = []book.Level{} }), true)
		wantRight(t, changed(inst, side, func(s *feed.Side) { *s = feed.Side{} }), true)
	})
}

// TestRightBothMost: as many instruments and levels as may be, and one level more on the last side alone (P20.1).
func TestRightBothMost(t *testing.T) {
	v := viewOf(255)
	for inst := range v.Sides {
		for at, side := range sides {
			v.Sides[inst][at].Levels = ladder(side, 255)
		}
	}
	wantRight(t, v, true)
	for at, side := range sides {
		v.Sides[254][at].Levels = ladder(side, 256)
		wantRight(t, v, false)
		v.Sides[254][at].Levels = ladder(side, 255)
	}
	wantRight(t, v, true)
}

// TestRightAmounts: the Qty and the Count of each level are at least 1 (P20.1).
func TestRightAmounts(t *testing.T) {
	everywhere(func(inst, side int) {
		for place := range 4 {
			for field := 1; field <= 2; field++ {
				with := func(n int64) feed.View {
					return changed(inst, side, func(s *feed.Side) { *numbersOf(&s.Levels[place])[field] = n })
				}
				for _, n := range few {
					wantRight(t, with(n), false)
				}
				for _, n := range []int64{1, 2, 255, 256, 1 << 31, 1 << 32, api.MaxQty + 1, highest - 1, highest} {
					wantRight(t, with(n), true)
				}
			}
			wantRight(t, changed(inst, side, func(s *feed.Side) { s.Levels[place].Qty, s.Levels[place].Count = 0, 0 }), false)
			wantRight(t, changed(inst, side, func(s *feed.Side) { s.Levels[place].Qty, s.Levels[place].Count = -1, -1 }), false)
		}
	})
}

// TestRightEachPlace: one level of 255 is empty, at each place, or has the price of the one ahead of it (P20.1).
func TestRightEachPlace(t *testing.T) {
	for at, side := range sides {
		v := viewOf(2)
		l := ladder(side, 255)
		v.Sides[1][at].Levels = l
		for i := range l {
			was := l[i]
			l[i].Qty = 0
			wantRight(t, v, false)
			l[i].Qty, l[i].Count = was.Qty, 0
			wantRight(t, v, false)
			l[i] = was
			if i == 0 {
				continue
			}
			l[i].Price = l[i-1].Price
			wantRight(t, v, false)
			l[i].Price = was.Price
			wantRight(t, v, true)
		}
	}
}

// TestRightPrices: they get worse from level to level: an equal one is wrong, and a better one, at each place (P20.1).
func TestRightPrices(t *testing.T) {
	everywhere(func(inst, side int) {
		down := int64(2*side - 3)
		for place := 1; place < 4; place++ {
			for _, c := range []struct {
				by    int64
				right bool
			}{{1, true}, {2, true}, {4, true}, {0, false}, {-1, false}, {-4, false}, {-5, false}, {-100, false}, {-1 << 32, false}} {
				wantRight(t, changed(inst, side, func(s *feed.Side) { s.Levels[place].Price = s.Levels[place-1].Price + c.by*down }), c.right)
			}
			wantRight(t, changed(inst, side, func(s *feed.Side) {
				l := s.Levels
				l[place], l[place-1] = l[place-1], l[place]
			}), false)
		}
		wantRight(t, changed(inst, side, func(s *feed.Side) { s.Levels = ladder(3-side, 4) }), false)
		wantRight(t, changed(inst, side, func(s *feed.Side) { s.Levels = ladder(3-side, 2) }), false)
		wantRight(t, changed(inst, side, func(s *feed.Side) { s.Levels = ladder(3-side, 1) }), true)
	})
}

// TestRightFarPrices: any price may stand there, and prices are compared also where their difference is no int64 (P20.1).
func TestRightFarPrices(t *testing.T) {
	rising := []int64{lowest, lowest + 1, -1 << 32, -5, -1, 0, 1, 5, 1 << 32, highest - 1, highest}
	for i, low := range rising {
		for k, high := range rising {
			two := []int64{low, 1, 1, high, 1, 1}
			wantRight(t, viewOf(2, part{inst: 1, side: api.Sell, levels: two}), i < k)
			wantRight(t, viewOf(2, part{inst: 1, side: api.Buy, levels: two}), i > k)
			wantRight(t, viewOf(1, part{inst: 0, side: api.Sell, levels: two}), i < k)
			wantRight(t, viewOf(1, part{inst: 0, side: api.Buy, levels: two}), i > k)
		}
		wantRight(t, viewOf(1, part{inst: 0, side: api.Buy, levels: []int64{low, 1, 1}}, part{inst: 0, side: api.Sell, levels: []int64{low, 1, 1}}), true)
	}
}

// TestRightNoImplied: where Has is false, Price, Qty and Count are all 0 (P20.1).
func TestRightNoImplied(t *testing.T) {
	everywhere(func(inst, side int) {
		wantRight(t, changed(inst, side, func(s *feed.Side) { s.Implied, s.Has = book.Level{}, false }), true)
		wantRight(t, changed(inst, side, func(s *feed.Side) { s.Has = false }), false)
		for field := range 3 {
			for _, n := range numbers {
				wantRight(t, changed(inst, side, func(s *feed.Side) {
					s.Implied, s.Has = book.Level{}, false
					*numbersOf(&s.Implied)[field] = n
				}), n == 0)
				wantRight(t, changed(inst, side, func(s *feed.Side) {
					*s = feed.Side{}
					*numbersOf(&s.Implied)[field] = n
				}), n == 0)
			}
		}
	})
}

// TestRightImplied: where Has is true, Qty and Count are at least 1, and Price is any number (P20.1).
func TestRightImplied(t *testing.T) {
	everywhere(func(inst, side int) {
		with := func(field int, n int64) (feed.View, feed.View) {
			change := func(s *feed.Side) { *numbersOf(&s.Implied)[field] = n }
			return changed(inst, side, change), changed(inst, side, func(s *feed.Side) {
				s.Levels = nil
				change(s)
			})
		}
		want := func(field int, n int64, right bool) {
			full, alone := with(field, n)
			wantRight(t, full, right)
			wantRight(t, alone, right)
		}
		for field := 1; field <= 2; field++ {
			for _, n := range few {
				want(field, n, false)
			}
			for _, n := range []int64{1, 2, 255, 256, 1 << 31, 1 << 32, highest} {
				want(field, n, true)
			}
		}
		for _, n := range numbers {
			want(0, n, true)
		}
		wantRight(t, changed(inst, side, func(s *feed.Side) { s.Implied = book.Level{} }), false)
		wantRight(t, changed(inst, side, func(s *feed.Side) { s.Implied = book.Level{Price: 5} }), false)
	})
}

// TestRightSidesApart: a side is held against itself alone: neither the other side nor its implied quote matters (P20.1).
func TestRightSidesApart(t *testing.T) {
	for _, price := range []int64{-100, -1, 0, 1, 100} {
		wantRight(t, viewOf(1, part{inst: 0, side: 1, levels: []int64{5, 1, 1}}, part{inst: 0, side: 2, levels: []int64{price, 1, 1}}), true)
		wantRight(t, viewOf(1, part{inst: 0, side: 1, levels: []int64{5, 1, 1}, implied: []int64{price, 1, 1}}), true)
		wantRight(t, viewOf(1, part{inst: 0, side: 2, levels: []int64{5, 1, 1}, implied: []int64{price, 1, 1}}), true)
		wantRight(t, viewOf(2, part{inst: 0, side: 1, levels: []int64{5, 1, 1}}, part{inst: 1, side: 1, levels: []int64{price, 1, 1}}), true)
	}
	// Neither do a Count above the Qty, nor prices that no tick has.
	wantRight(t, viewOf(1, part{inst: 0, side: 1, levels: []int64{7, 1, 9, 3, 2, 3}, implied: []int64{1, 1, 5}}), true)
}

// everySide calls ask with each side of no more than two levels of small numbers, with each small implied quote.
func everySide(ask func(s feed.Side)) {
	var levels []book.Level
	for price := range int64(3) {
		for qty := int64(-1); qty <= 1; qty++ {
			for count := int64(-1); count <= 1; count++ {
				levels = append(levels, book.Level{Price: price - 1, Qty: qty, Count: count})
			}
		}
	}
	lists := [][]book.Level{nil}
	for _, a := range levels {
		lists = append(lists, []book.Level{a})
		for _, b := range levels {
			lists = append(lists, []book.Level{a, b})
		}
	}
	for _, l := range lists {
		for _, quote := range levels {
			ask(feed.Side{Levels: l, Implied: quote})
			ask(feed.Side{Levels: l, Implied: quote, Has: true})
		}
	}
}

// TestRightEverySide: each small side as Buy and as Sell (P20.1).
func TestRightEverySide(t *testing.T) {
	right := 0
	everySide(func(s feed.Side) {
		for at := range 2 {
			v := viewOf(1)
			v.Sides[0][at] = s
			want := rightModel(v)
			if want {
				right++
			}
			wantRight(t, v, want)
		}
	})
	// On each side no level, 3 single ones and 3 pairs, each without a quote and with 3 of them.
	if right != 2*7*4 {
		t.Errorf("the test has %d sides that are right", right)
	}
}

// TestRightEveryThree: each three prices of a few, on either side (P20.1).
func TestRightEveryThree(t *testing.T) {
	for a := range int64(5) {
		for b := range int64(5) {
			for c := range int64(5) {
				l := []int64{a, 1, 1, b, 1, 1, c, 1, 1}
				wantRight(t, viewOf(1, part{inst: 0, side: 1, levels: l}), a > b && b > c)
				wantRight(t, viewOf(1, part{inst: 0, side: 2, levels: l}), a < b && b < c)
			}
		}
	}
}
