package feed_test

import (
	"fmt"
	"testing"

	"cornhill/api"
	"cornhill/feed"
)

// TestApplyNoInst: ErrInst, whatever else is wrong (P19.2).
func TestApplyNoInst(t *testing.T) {
	for _, v := range []feed.View{{}, viewOf(1), viewOf(2), sample(), viewOf(21)} {
		for _, inst := range noInsts(len(v.Sides)) {
			for _, side := range []int{1, 2, 0, 3, -1} {
				for _, qty := range []int64{0, 1, -1} {
					for _, count := range []int64{0, 1, -1} {
						wantErr(t, v, level(inst, side, 5, qty, count), api.ErrInst)
						wantErr(t, v, quote(inst, side, 5, qty, count), api.ErrInst)
					}
				}
			}
		}
	}
}

// TestApplyNoSide: ErrSide, whatever else is wrong but the instrument (P19.2).
func TestApplyNoSide(t *testing.T) {
	v := sample()
	for inst := range 3 {
		for _, side := range noSides {
			for _, qty := range []int64{0, 1, -1} {
				for _, count := range []int64{0, 1, -1} {
					wantErr(t, v, level(inst, side, 5, qty, count), api.ErrSide)
					wantErr(t, v, quote(inst, side, 5, qty, count), api.ErrSide)
				}
			}
		}
	}
}

// TestApplyNoQty: ErrQty for numbers below 0, and where exactly one of them is 0 (P19.2).
func TestApplyNoQty(t *testing.T) {
	v := sample()
	below := []int64{-1, -2, -5, -1 << 32, lowest, lowest + 1}
	for inst := range 3 {
		for _, side := range sides {
			for _, make := range []func(int, int, int64, int64, int64) api.Msg{level, quote} {
				for _, price := range []int64{5, 25, -10, 0} {
					for _, n := range []int64{1, 2, 250, 1 << 32, highest} {
						wantErr(t, v, make(inst, side, price, n, 0), api.ErrQty)
						wantErr(t, v, make(inst, side, price, 0, n), api.ErrQty)
						for _, less := range below {
							wantErr(t, v, make(inst, side, price, n, less), api.ErrQty)
							wantErr(t, v, make(inst, side, price, less, n), api.ErrQty)
						}
						wantErr(t, v, make(inst, side, price, n, n), api.OK)
					}
					for _, less := range below {
						wantErr(t, v, make(inst, side, price, 0, less), api.ErrQty)
						wantErr(t, v, make(inst, side, price, less, 0), api.ErrQty)
						wantErr(t, v, make(inst, side, price, less, less), api.ErrQty)
						wantErr(t, v, make(inst, side, price, less, -1), api.ErrQty)
					}
					wantErr(t, v, make(inst, side, price, 0, 0), api.OK)
				}
			}
		}
	}
}

// TestApplyRefused: the View beside an error has no Sides, and the one that was handed in is as it was (P19.2, R3).
func TestApplyRefused(t *testing.T) {
	v := sample()
	for _, m := range []api.Msg{level(3, 1, 5, 1, 1), level(0, 0, 5, 1, 1), level(0, 1, 5, 0, 1), quote(-1, 1, 5, 1, 1), quote(0, 3, 5, 1, 1), quote(0, 1, 5, 1, 0)} {
		if got, err := feed.Apply(v, m); err == api.OK || len(got.Sides) != 0 {
			t.Errorf("R3: Apply(.., %v): %v, %d", m, got, int(err))
		}
	}
	wantSame(t, v, sample(), true)
}

// TestApplyLevel: levels that are new at each place of each side, that are set anew and removed, and prices at which there is none to remove (P19.2).
func TestApplyLevel(t *testing.T) {
	buys := viewOf(2, part{1, 1, []int64{30, 3, 1, 20, 2, 2, 10, 1, 1}, []int64{20, 7, 1}}, part{1, 2, []int64{40, 1, 1}, nil}, part{0, 1, []int64{20, 9, 1}, nil})
	sells := viewOf(2, part{1, 2, []int64{10, 3, 1, 20, 2, 2, 30, 1, 1}, []int64{20, 7, 1}}, part{1, 1, []int64{5, 1, 1}, nil}, part{0, 2, []int64{20, 9, 1}, nil})
	buy := func(levels ...int64) feed.View {
		return viewOf(2, part{1, 1, levels, []int64{20, 7, 1}}, part{1, 2, []int64{40, 1, 1}, nil}, part{0, 1, []int64{20, 9, 1}, nil})
	}
	sell := func(levels ...int64) feed.View {
		return viewOf(2, part{1, 2, levels, []int64{20, 7, 1}}, part{1, 1, []int64{5, 1, 1}, nil}, part{0, 2, []int64{20, 9, 1}, nil})
	}
	for _, c := range []struct {
		price, qty, count int64
		buy, sell         feed.View
	}{
		{35, 8, 4, buy(35, 8, 4, 30, 3, 1, 20, 2, 2, 10, 1, 1), sell(10, 3, 1, 20, 2, 2, 30, 1, 1, 35, 8, 4)},
		{30, 8, 4, buy(30, 8, 4, 20, 2, 2, 10, 1, 1), sell(10, 3, 1, 20, 2, 2, 30, 8, 4)},
		{25, 8, 4, buy(30, 3, 1, 25, 8, 4, 20, 2, 2, 10, 1, 1), sell(10, 3, 1, 20, 2, 2, 25, 8, 4, 30, 1, 1)},
		{20, 8, 4, buy(30, 3, 1, 20, 8, 4, 10, 1, 1), sell(10, 3, 1, 20, 8, 4, 30, 1, 1)},
		{15, 8, 4, buy(30, 3, 1, 20, 2, 2, 15, 8, 4, 10, 1, 1), sell(10, 3, 1, 15, 8, 4, 20, 2, 2, 30, 1, 1)},
		{10, 8, 4, buy(30, 3, 1, 20, 2, 2, 10, 8, 4), sell(10, 8, 4, 20, 2, 2, 30, 1, 1)},
		{5, 8, 4, buy(30, 3, 1, 20, 2, 2, 10, 1, 1, 5, 8, 4), sell(5, 8, 4, 10, 3, 1, 20, 2, 2, 30, 1, 1)},
		{21, 8, 4, buy(30, 3, 1, 21, 8, 4, 20, 2, 2, 10, 1, 1), sell(10, 3, 1, 20, 2, 2, 21, 8, 4, 30, 1, 1)},
		{35, 0, 0, buys, sells},
		{30, 0, 0, buy(20, 2, 2, 10, 1, 1), sell(10, 3, 1, 20, 2, 2)},
		{25, 0, 0, buys, sells},
		{20, 0, 0, buy(30, 3, 1, 10, 1, 1), sell(10, 3, 1, 30, 1, 1)},
		{15, 0, 0, buys, sells},
		{10, 0, 0, buy(30, 3, 1, 20, 2, 2), sell(20, 2, 2, 30, 1, 1)},
		{5, 0, 0, buys, sells},
		{highest, 1, 1, buy(highest, 1, 1, 30, 3, 1, 20, 2, 2, 10, 1, 1), sell(10, 3, 1, 20, 2, 2, 30, 1, 1, highest, 1, 1)},
		{lowest, 1, 1, buy(30, 3, 1, 20, 2, 2, 10, 1, 1, lowest, 1, 1), sell(lowest, 1, 1, 10, 3, 1, 20, 2, 2, 30, 1, 1)},
		{20, highest, highest, buy(30, 3, 1, 20, highest, highest, 10, 1, 1), sell(10, 3, 1, 20, highest, highest, 30, 1, 1)},
	} {
		wantView(t, buys, level(1, 1, c.price, c.qty, c.count), c.buy)
		wantView(t, sells, level(1, 2, c.price, c.qty, c.count), c.sell)
	}
}

// TestApplyAlone: the first level of a side, the last one that goes, and one that is not there to go (P19.2).
func TestApplyAlone(t *testing.T) {
	for inst := range 3 {
		for _, side := range sides {
			one := viewOf(3, part{inst: inst, side: side, levels: []int64{5, 7, 2}})
			wantView(t, viewOf(3), level(inst, side, 5, 7, 2), one)
			wantView(t, one, level(inst, side, 5, 0, 0), viewOf(3))
			wantView(t, one, level(inst, side, -5, 0, 0), one)
			wantView(t, viewOf(3), level(inst, side, 5, 0, 0), viewOf(3))
			wantView(t, one, level(inst, side, 5, 7, 2), one)
		}
	}
}

// TestApplyImplied: a quote that is set, set anew and taken away, and one that is not there to go (P19.2).
func TestApplyImplied(t *testing.T) {
	for inst := range 3 {
		for _, side := range sides {
			with := func(implied ...int64) feed.View {
				return viewOf(3, part{inst, side, []int64{5, 1, 1}, implied})
			}
			none := viewOf(3, part{inst, side, []int64{5, 1, 1}, nil})
			wantView(t, none, quote(inst, side, 5, 7, 2), with(5, 7, 2))
			wantView(t, none, quote(inst, side, -10, 1, 1), with(-10, 1, 1))
			wantView(t, none, quote(inst, side, lowest, highest, highest), with(lowest, highest, highest))
			wantView(t, with(5, 7, 2), quote(inst, side, 10, 8, 3), with(10, 8, 3))
			wantView(t, with(5, 7, 2), quote(inst, side, 5, 7, 2), with(5, 7, 2))
			for _, price := range []int64{0, 5, 10, -5, highest} {
				wantView(t, with(5, 7, 2), quote(inst, side, price, 0, 0), none)
				wantView(t, none, quote(inst, side, price, 0, 0), none)
			}
		}
	}
}

// TestApplyFields: the Seq means nothing to Apply (P19.2).
func TestApplyFields(t *testing.T) {
	for _, seq := range []int64{0, 1, -1, lowest, highest} {
		m := level(2, 2, 32, 3, 3)
		m.Seq = seq
		if got, err := feed.Apply(sample(), m); err != api.OK || fmt.Sprint(got.Sides[2][1]) != "{[{30 2 1} {32 3 3} {35 1 1} {40 3 2}] {0 0 0} false}" {
			t.Errorf("P19.2: Apply(.., %v): %v, %d", m, got, int(err))
		}
	}
}

// TestApplyMany: instruments beyond those that a product or a message's bytes can have (P19.2).
func TestApplyMany(t *testing.T) {
	v := viewOf(300)
	for _, inst := range []int{0, 20, 21, 254, 255, 256, 299} {
		want := viewOf(300, part{inst: inst, side: 2, levels: []int64{5, 1, 1}})
		wantView(t, v, level(inst, 2, 5, 1, 1), want)
	}
}

// TestApplyEvery: each small View after each small message (P19.2).
func TestApplyEvery(t *testing.T) {
	for _, side := range sides {
		for _, v := range smallViews(side) {
			for _, to := range sides {
				for price := int64(-10); price <= 15; price += 5 {
					for _, qty := range []int64{0, 2, -1} {
						for _, count := range []int64{0, 1} {
							apply(t, v, level(0, to, price, qty, count))
							apply(t, v, quote(0, to, price, qty, count))
						}
					}
				}
			}
		}
	}
}
