package market_test

import (
	"fmt"
	"testing"

	"cornhill/api"
	"cornhill/refdata"
)

// TestBandOfAMonth: a quote beyond the band that an order for the day would meet with its rest (P17.1).
func TestBandOfAMonth(t *testing.T) {
	for _, c := range []struct {
		quote int64
		ok    bool
	}{{-150, false}, {-110, false}, {-105, false}, {-100, true}, {-95, true}} {
		// Sell of 0 is implied by Sell of the spread at -50 and Sell of 1.
		sold := []o{{2, api.Sell, -50, 5}, {1, api.Sell, c.quote + 50, 4}}
		for _, price := range []int64{-100, -95, 0, 195, 200} {
			for _, qty := range []int64{1, 4, 5, largest} {
				ask := day(9, 0, api.Buy, price, qty)
				p := with(t, product(2), sold...)
				if !c.ok {
					p.refuses("P17.1", ask, api.ErrBand)
					p.want(timed(ask, api.Now), texts(told(ask, api.Accepted, qty, qty)), texts(told(ask, api.Cancelled, qty, 0)))
					continue
				}
				p.put(ask)
				if _, _, stands := p.market.Find(9); stands != (qty > 4 || price < c.quote) {
					t.Errorf("P17.1: %s: it stands: %t", p.last(), stands)
				}
			}
		}
	}
}

// told is a report of what becomes of an order.
func told(c api.Command, kind int, qty, left int64) []api.Report {
	return []api.Report{{Kind: kind, ID: c.ID, Inst: c.Inst, Side: c.Side, Price: c.Price, Qty: qty, Left: left}}
}

// TestBandWithoutARest: what a real price gives is enough for one order, and not for one that is greater by 1 (P17.1).
func TestBandWithoutARest(t *testing.T) {
	stands := []o{{2, api.Sell, -50, 5}, {1, api.Sell, -55, 4}, {0, api.Sell, -100, 3}, {0, api.Sell, 10, 2}}
	for _, c := range []struct{ price, there int64 }{{-100, 3}, {5, 3}, {10, 5}, {200, 5}} {
		for qty := int64(1); qty <= 7; qty++ {
			p := with(t, product(2), stands...)
			ask := day(9, 0, api.Buy, c.price, qty)
			if qty > c.there {
				p.refuses("P17.1", ask, api.ErrBand)
				p.refuses("P17.1", atLeast(ask, c.there), api.ErrBand)
				p.refuses("P17.1", atLeast(ask, c.there+1), api.ErrLeast)
				p.put(timed(ask, api.Now))
			} else {
				p.put(ask)
			}
			if _, _, stands := p.market.Find(9); stands {
				t.Errorf("P17.1: %s: it stands", p.last())
			}
			p.check()
		}
	}
	p := with(t, product(2), stands...)
	p.want(timed(day(9, 0, api.Buy, -100, 4), api.Now), "ok 9 0 1 -100 4 4 0", "trade 3 0 2 -100 3 0 0", "trade 9 0 1 -100 3 1 0", "gone 9 0 1 -100 1 0 0")
	p = with(t, product(2), stands...)
	p.want(day(9, 0, api.Buy, -100, 3), "ok 9 0 1 -100 3 3 0", "trade 3 0 2 -100 3 0 0", "trade 9 0 1 -100 3 0 0")
	p.want(timed(day(10, 0, api.Buy, 10, 2), api.Whole), "ok 10 0 1 10 2 2 0", "trade 4 0 2 10 2 0 0", "trade 10 0 1 10 2 0 0")
}

// TestBandBehindTheRun: what counts is the rest, and the quotes that are as good as it behind the Run (P17.1).
func TestBandBehindTheRun(t *testing.T) {
	// Sell of 0 is implied at 200 by 1 for 2, and then at 205. So it comes to lie beyond the band, but no order is as good.
	p := with(t, product(2), o{2, api.Sell, 50, 9}, o{1, api.Sell, 150, 2}, o{1, api.Sell, 155, 9})
	p.want(day(9, 0, api.Buy, 200, 5), "ok 9 0 1 200 5 5 0",
		"trade 1 2 2 50 2 7 0", "trade 1 0 2 200 2 7 0", "trade 1 1 1 150 2 7 0", "trade 2 1 2 150 2 0 0", "trade 9 0 1 200 2 3 0")
	p.want(cancel(9), "gone 9 0 1 200 3 0 0")
	p.want(day(10, 0, api.Buy, 200, 5), "ok 10 0 1 200 5 5 0") // now there is nothing but a quote beyond the worse end
	// Sell of 0 is implied at 60 by 1, and at -105 by 2. What the first one gives is enough for 3, and not for 4.
	stands := []o{{3, api.Sell, 0, 3}, {1, api.Sell, 60, 9}, {4, api.Sell, -50, 9}, {2, api.Sell, -55, 9}}
	with(t, product(3), stands...).want(day(9, 0, api.Buy, 60, 3), "ok 9 0 1 60 3 3 0",
		"trade 1 3 2 0 3 0 0", "trade 1 0 2 60 3 0 0", "trade 1 1 1 60 3 0 0", "trade 2 1 2 60 3 6 0", "trade 9 0 1 60 3 0 0")
	with(t, product(3), stands...).refuses("P17.1", day(9, 0, api.Buy, 60, 4), api.ErrBand)
	with(t, product(3), stands...).refuses("P17.1", day(9, 0, api.Buy, 55, 1), api.ErrBand)
	with(t, product(3), stands...).put(timed(day(9, 0, api.Buy, 60, 4), api.Now))
	// Buy of the spread likewise: implied at -55, beyond its band, with real ones in front of it.
	stands = []o{{0, api.Sell, 0, 3}, {1, api.Buy, 55, 9}, {2, api.Sell, -50, 2}}
	with(t, product(2), stands...).refuses("P17.1", day(9, 2, api.Buy, -50, 3), api.ErrBand)
	with(t, product(2), stands...).refuses("P17.1", day(9, 2, api.Buy, 50, largest), api.ErrBand)
	with(t, product(2), stands...).put(day(9, 2, api.Buy, -50, 2))
	with(t, product(2), stands...).put(timed(day(9, 2, api.Buy, 50, 3), api.Now))
	with(t, product(2), stands[:2]...).refuses("P17.1", day(9, 2, api.Buy, -50, 1), api.ErrBand)
	// Once the quote is gone, the order may enter.
	p = with(t, product(2), stands[:2]...)
	p.refuses("P17.1", day(9, 2, api.Buy, 0, 1), api.ErrBand)
	p.put(reduce(2, 9))
	p.want(day(9, 2, api.Buy, 0, 1), "ok 9 2 1 0 1 1 0")
}

// quoted is two orders that together make an implied quote.
type quoted [2]o

// quotes returns for the side of an instrument how orders that make a quote at the price may stand, one way for each quote that there is.
func quotes(p api.Product, inst, side int, price int64) []quoted {
	near, far, spread := refdata.Legs(p, inst)
	if spread {
		// The month that it is of no matter at what price: the other one follows from it.
		base := max(p.Low, p.Low-price)
		return []quoted{{{near, side, base + price, 5}, {far, otherOf(side), base, 4}}}
	}
	var l []quoted
	for month := range p.Months {
		width := max(-p.Wide, min(p.Wide, price))
		switch at, _ := refdata.Spread(p, min(inst, month), max(inst, month)); {
		case month > inst:
			l = append(l, quoted{{at, side, width, 4}, {month, side, price - width, 5}})
		case month < inst:
			l = append(l, quoted{{at, otherOf(side), -width, 4}, {month, side, price - width, 5}})
		}
	}
	return l
}

// TestBandOfEach: each instrument, side and quote of products with two to six months: at the end of the band and one tick beyond it, at the better end and at the worse one (P17.1).
func TestBandOfEach(t *testing.T) {
	for months := 2; months <= api.MaxExp; months++ {
		given := product(months)
		for inst := range refdata.Count(given) {
			low, high := int64(-100), int64(200)
			if inst >= months {
				low, high = -50, 50
			}
			for _, side := range sides {
				better, worse, by := low, high, int64(-5)
				if side == api.Sell {
					better, worse, by = high, low, 5
				}
				for i := range quotes(given, inst, otherOf(side), 0) {
					for _, ticks := range []int64{0, 1} {
						q := quotes(given, inst, otherOf(side), better+ticks*by)[i]
						p := with(t, given, q[:]...)
						ask := day(9, inst, side, better, 5)
						if ticks > 0 {
							p.refuses("P17.1", ask, api.ErrBand)
							ask.Price = worse
							p.refuses("P17.1", ask, api.ErrBand)
						}
						p.put(timed(ask, api.Now))
						if _, left := p.market.State().Run(inst, side, ask.Price, 1); left == 0 {
							t.Errorf("P17.1: %s: more could trade", p.last())
						}
						q = quotes(given, inst, otherOf(side), worse-ticks*by)[i]
						p = with(t, given, q[:]...)
						ask.Price = worse
						p.put(ask)
						rest := int64(5)
						if ticks == 0 {
							rest = 1 // at the end itself it trades
						}
						if got, want := fmt.Sprint(p.market.Find(9)), fmt.Sprintf("%d {9 %d %d %d true} true", inst, side, worse, rest); got != want {
							t.Errorf("P17.1: %s: Find: %s, want %s", p.last(), got, want)
						}
						p.check()
					}
				}
			}
		}
	}
}
