package legs_test

import (
	"fmt"
	"testing"

	"cornhill/api"
	"cornhill/refdata"
)

// breaks are products that are not valid, one for each field and each of its faults.
var breaks = map[string]func(p *api.Product){
	"no product":                    func(p *api.Product) { *p = api.Product{} },
	"no code":                       func(p *api.Product) { p.Code = "" },
	"a code of small letters":       func(p *api.Product) { p.Code = "cl" },
	"a long code":                   func(p *api.Product) { p.Code = "CLCLC" },
	"no months":                     func(p *api.Product) { p.Months = nil },
	"an empty list of months":       func(p *api.Product) { p.Months = []int{} },
	"a month less":                  func(p *api.Product) { p.Months = p.Months[:len(p.Months)-1] },
	"a month before the first one":  func(p *api.Product) { p.Months[0] = -1 },
	"a month behind the last one":   func(p *api.Product) { p.Months[len(p.Months)-1] = api.MaxMonth + 1 },
	"a month twice":                 func(p *api.Product) { p.Months[1] = p.Months[0] },
	"months the wrong way round":    func(p *api.Product) { p.Months[0], p.Months[1] = p.Months[1], p.Months[0] },
	"no tick":                       func(p *api.Product) { p.Tick = 0 },
	"a tick below 0":                func(p *api.Product) { p.Tick = -5 },
	"a great tick":                  func(p *api.Product) { p.Tick = 1001 },
	"a low off the tick":            func(p *api.Product) { p.Low = -101 },
	"a high off the tick":           func(p *api.Product) { p.High = 201 },
	"a width off the tick":          func(p *api.Product) { p.Wide = 51 },
	"a settlement off the tick":     func(p *api.Product) { p.Settle[1] = 1 },
	"a low beyond the prices":       func(p *api.Product) { p.Low = -api.MaxPrice - 5 },
	"a low at the end of an int64":  func(p *api.Product) { p.Low = lowest },
	"a high beyond the prices":      func(p *api.Product) { p.High = api.MaxPrice + 5 },
	"a high at the end of an int64": func(p *api.Product) { p.High = highest },
	"a low of the high":             func(p *api.Product) { p.Low = p.High },
	"a low above the high":          func(p *api.Product) { p.Low = p.High + 5 },
	"a width below 0":               func(p *api.Product) { p.Wide = -5 },
	"a width above the band":        func(p *api.Product) { p.Wide = 305 },
	"no settlement":                 func(p *api.Product) { p.Settle = nil },
	"an empty list of settlements":  func(p *api.Product) { p.Settle = []int64{} },
	"a settlement less":             func(p *api.Product) { p.Settle = p.Settle[:len(p.Settle)-1] },
	"a settlement more":             func(p *api.Product) { p.Settle = append(p.Settle, 5) },
	"a settlement above the band":   func(p *api.Product) { p.Settle[0] = 205 },
	"a settlement below the band":   func(p *api.Product) { p.Settle[0] = -105 },
	"no rule":                       func(p *api.Product) { p.Rule = 0 },
	"a rule too many":               func(p *api.Product) { p.Rule = api.Mixed + 1 },
	"a rule below 0":                func(p *api.Product) { p.Rule = -1 },
	"a top below 0":                 func(p *api.Product) { p.Top = -1 },
	"a great top":                   func(p *api.Product) { p.Top = api.MaxQty + 1 },
	"a least of 0":                  func(p *api.Product) { p.Least = 0 },
	"a great least":                 func(p *api.Product) { p.Least = 1001 },
	"a part below 0":                func(p *api.Product) { p.Part = -1 },
	"a part of more than the whole": func(p *api.Product) { p.Part = 101 },
}

// anyPrice are prices of the spreads of product, of its months alone, off its tick, and beyond each band.
var anyPrice = []int64{0, 5, -5, 50, -50, 55, -55, 200, -100, 205, 300, 1, -1, 51, 49, lowest, lowest + 3, highest - 2, highest}

// noSpreads are numbers of a product with so many months that no spread has: its months, those beyond both ends, and some that are right in their lower half or their last byte.
func noSpreads(months int) []int {
	first, behind := months, count(months)
	l := []int{
		-1, -2, -first, -behind, behind, behind + 1, 2 * behind, lowest, lowest + 1, lowest + first, highest, highest - 1,
		1<<32 + first, -1<<32 + first, 1<<16 + first, 256 + first, first - 256, -1 << 32, 1 << 32,
	}
	for month := range months {
		l = append(l, month)
	}
	return l
}

// TestWrongProducts: ErrArg, also where inst is no spread or the price is none (P15.1).
func TestWrongProducts(t *testing.T) {
	for why, f := range breaks {
		for months := 2; months <= api.MaxExp; months++ {
			p := product(months)
			f(&p)
			if refdata.Check(p) == api.OK {
				t.Errorf("%s: the product is valid", why)
			}
			insts := noSpreads(months)
			for i := range spreads[months] {
				insts = append(insts, months+i)
			}
			for _, inst := range insts {
				for _, price := range anyPrice {
					checkRefused(t, why, ask{p, inst, price}, api.ErrArg)
				}
			}
		}
	}
}

// TestWrongMonths: no month, one, and more than MaxExp, for each instrument that there would be (P15.1).
func TestWrongMonths(t *testing.T) {
	for _, months := range []int{0, 1, 7, 8, 16, 300} {
		p := product(2)
		p.Months, p.Settle = nil, nil
		for m := range months {
			p.Months, p.Settle = append(p.Months, 300+m), append(p.Settle, 50)
		}
		for inst := -1; inst <= min(months*(months+1)/2, 200); inst++ {
			for _, price := range []int64{0, 5, 1, 55} {
				checkRefused(t, fmt.Sprintf("%d months", months), ask{p, inst, price}, api.ErrArg)
			}
		}
	}
}

// TestNoSpreads: ErrInst, also where the price is none (P15.1).
func TestNoSpreads(t *testing.T) {
	for months := 2; months <= api.MaxExp; months++ {
		if n := refdata.Count(product(months)); n != count(months) {
			t.Fatalf("%d instruments", n)
		}
		for _, inst := range noSpreads(months) {
			for _, price := range anyPrice {
				checkRefused(t, "no spread", ask{product(months), inst, price}, api.ErrInst)
			}
		}
	}
}

// TestSpreads: exactly those instruments that are no months have prices (P15.1).
func TestSpreads(t *testing.T) {
	for months := 2; months <= api.MaxExp; months++ {
		for inst := -300; inst < 600; inst++ {
			want := api.ErrInst
			if inst >= months && inst < count(months) {
				want = api.OK
			}
			if got := (ask{product(months), inst, 0}).get(t); got.err != want {
				t.Errorf("P15.1: %d months, inst %d: %d, want %d", months, inst, got.err, want)
			}
		}
	}
}

// checkPrice asks every spread of products with those bands for an error, and whether refdata.Price has the same one.
func checkPrice(t *testing.T, why string, b band, price int64, err api.Errno) {
	t.Helper()
	for months := 2; months <= api.MaxExp; months++ {
		settles := b.settles()
		for i := range spreads[months] {
			a := ask{banded(b, settles[:months]...), months + i, price}
			if of := refdata.Price(a.p, a.inst, a.price); of != err {
				t.Errorf("%s: refdata.Price%s: %d", why, a, of)
			}
			checkRefused(t, why, a, err)
		}
	}
}

// TestPricesOffTheTick: ErrTick, within the band and beyond it, at the ends of an int64 too (P15.1).
func TestPricesOffTheTick(t *testing.T) {
	for _, b := range []band{{5, -100, 200, 50}, {5, -100, 200, 300}, {1000, -1000, 1000, 2000}, {7, 14, 70, 56}, {3, 0, 3, 3}, {2, -40, -6, 34}, {5, 0, 100, 0}} {
		for _, by := range []int64{1, b.tick - 1} {
			for _, of := range []int64{0, b.tick, -b.tick, b.wide, -b.wide, b.wide - b.tick, b.low, b.high, b.high + b.tick, 1000 * b.wide, -1000 * b.wide, api.MaxPrice * b.tick, 1 << 40 / b.tick * b.tick} {
				checkPrice(t, "off the tick", b, of+by, api.ErrTick)
				checkPrice(t, "off the tick", b, of-by, api.ErrTick)
			}
		}
	}
	for _, b := range []band{{5, -100, 200, 50}, {1000, -1000, 1000, 2000}, {7, 14, 70, 56}} {
		for by := range b.tick {
			if low := lowest + by; low%b.tick != 0 {
				checkPrice(t, "the lowest", b, low, api.ErrTick)
			}
			if high := highest - by; high%b.tick != 0 {
				checkPrice(t, "the highest", b, high, api.ErrTick)
			}
		}
	}
}

// TestPricesBeyondTheBand: ErrBand, for one tick and far beyond each end, at the ends of an int64 too, and for prices that only months have (P15.1).
func TestPricesBeyondTheBand(t *testing.T) {
	for _, b := range bands {
		last := highest / b.tick * b.tick
		for _, price := range []int64{b.wide + b.tick, b.wide + 2*b.tick, 2*b.wide + b.tick, 3*api.MaxPrice/b.tick*b.tick + b.tick, 1 << 31 * b.tick, 1 << 32 * b.tick, 1 << 40 * b.tick, last - b.tick, last, b.wide + 1<<32*b.tick} {
			checkPrice(t, "above the band", b, price, api.ErrBand)
			checkPrice(t, "below the band", b, -price, api.ErrBand)
		}
		for price := b.low; price <= b.high; price += b.tick {
			if price < -b.wide || price > b.wide {
				checkPrice(t, "a price of months", b, price, api.ErrBand)
			}
		}
	}
	for _, price := range []int64{lowest, lowest + 1, highest - 1, highest} {
		checkPrice(t, "the ends", band{1, 0, 100, 60}, price, api.ErrBand)
		checkPrice(t, "the ends", band{1, -api.MaxPrice, api.MaxPrice, 2 * api.MaxPrice}, price, api.ErrBand)
	}
	checkPrice(t, "the lowest", band{2, -40, -6, 34}, lowest, api.ErrBand)
	checkPrice(t, "the highest", band{7, 14, 70, 56}, highest, api.ErrBand)
}

// TestPricesRoundTheBand: exactly those that refdata.Price accepts have an answer, with its error for the others (P15.1).
func TestPricesRoundTheBand(t *testing.T) {
	for _, b := range bands {
		if b.wide > 300 {
			continue
		}
		for months := 2; months <= api.MaxExp; months++ {
			settles := b.settles()
			for i := range spreads[months] {
				a := ask{banded(b, settles[:months]...), months + i, 0}
				for a.price = -b.wide - 3*b.tick; a.price <= b.wide+3*b.tick; a.price++ {
					if err := refdata.Price(a.p, a.inst, a.price); err != api.OK {
						checkRefused(t, "no price", a, err)
					} else {
						check(t, a, a.model())
					}
				}
			}
		}
	}
}
