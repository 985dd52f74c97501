package implied_test

import (
	"fmt"
	"slices"
	"testing"

	"cornhill/api"
	"cornhill/implied"
	"cornhill/refdata"
)

// breaks are products that are not valid, one for each field and each of its faults.
var breaks = map[string]func(p *api.Product){
	"no product":                    func(p *api.Product) { *p = api.Product{} },
	"no code":                       func(p *api.Product) { p.Code = "" },
	"a code of small letters":       func(p *api.Product) { p.Code = "cl" },
	"a long code":                   func(p *api.Product) { p.Code = "CLCLC" },
	"no months":                     func(p *api.Product) { p.Months = nil },
	"a month before the first one":  func(p *api.Product) { p.Months[0] = -1 },
	"a month behind the last one":   func(p *api.Product) { p.Months[len(p.Months)-1] = api.MaxMonth + 1 },
	"a month twice":                 func(p *api.Product) { p.Months[1] = p.Months[0] },
	"months the wrong way round":    func(p *api.Product) { p.Months[0], p.Months[1] = p.Months[1], p.Months[0] },
	"no tick":                       func(p *api.Product) { p.Tick = 0 },
	"a tick below 0":                func(p *api.Product) { p.Tick = -5 },
	"a great tick":                  func(p *api.Product) { p.Tick = 1001 },
	"a low off the tick":            func(p *api.Product) { p.Low = -101 },
	"a high off the tick":           func(p *api.Product) { p.High = 201 },
	"a width off the tick":          func(p *api.Product) { p.Wide = 51 },
	"a settlement off the tick":     func(p *api.Product) { p.Settle[1] = 1 },
	"a low beyond the prices":       func(p *api.Product) { p.Low = -api.MaxPrice - 5 },
	"a high beyond the prices":      func(p *api.Product) { p.High = api.MaxPrice + 5 },
	"a low of the high":             func(p *api.Product) { p.Low = p.High },
	"a low above the high":          func(p *api.Product) { p.Low = p.High + 5 },
	"a width below 0":               func(p *api.Product) { p.Wide = -5 },
	"a width above the band":        func(p *api.Product) { p.Wide = 305 },
	"no settlement":                 func(p *api.Product) { p.Settle = nil },
	"a settlement less":             func(p *api.Product) { p.Settle = p.Settle[:len(p.Settle)-1] },
	"a settlement more":             func(p *api.Product) { p.Settle = append(p.Settle, 5) },
	"a settlement beyond the band":  func(p *api.Product) { p.Settle[0] = 205 },
	"a settlement before the band":  func(p *api.Product) { p.Settle[0] = -105 },
	"no rule":                       func(p *api.Product) { p.Rule = 0 },
	"a rule too many":               func(p *api.Product) { p.Rule = api.Mixed + 1 },
	"a rule below 0":                func(p *api.Product) { p.Rule = -1 },
	"a top below 0":                 func(p *api.Product) { p.Top = -1 },
	"a great top":                   func(p *api.Product) { p.Top = api.MaxQty + 1 },
	"a least of 0":                  func(p *api.Product) { p.Least = 0 },
	"a great least":                 func(p *api.Product) { p.Least = 1001 },
	"a part below 0":                func(p *api.Product) { p.Part = -1 },
	"a part of more than the whole": func(p *api.Product) { p.Part = 101 },
}

// own returns the product with lists of its own.
func own(p api.Product) api.Product {
	p.Months, p.Settle = slices.Clone(p.Months), slices.Clone(p.Settle)
	return p
}

// anyInst are numbers of instruments, right and wrong.
func anyInst(count int) []int {
	return []int{lowest, -1, 0, 1, count - 1, count, highest}
}

// TestWrongProducts: there is no quote of a product that is not valid, however many tops are handed in (P14.1).
func TestWrongProducts(t *testing.T) {
	for why, f := range breaks {
		for months := 2; months <= api.MaxExp; months++ {
			p := own(product(months))
			f(&p)
			if refdata.Check(p) == api.OK {
				t.Errorf("%s: the product is valid", why)
			}
			for _, count := range []int{0, 1, months, len(made[months])} {
				for _, inst := range anyInst(len(made[months])) {
					for _, side := range append([]int{0, 3}, sides...) {
						checkNone(t, why, ask{p, full(count), inst, side})
					}
				}
			}
		}
	}
}

// TestWrongMonths: no month, one, and more than MaxExp, with tops for all instruments that there would be (P14.1).
func TestWrongMonths(t *testing.T) {
	for _, months := range []int{0, 1, 7, 8, 16} {
		p := product(2)
		p.Months, p.Settle = nil, nil
		for m := range months {
			p.Months, p.Settle = append(p.Months, 300+m), append(p.Settle, 50)
		}
		count := months * (months + 1) / 2
		for _, n := range []int{count, months, 21} {
			tops := make([]implied.Top, n)
			for i := range tops {
				tops[i] = top(10, 1, 20, 1)
			}
			for inst := -1; inst <= n; inst++ {
				for _, side := range sides {
					checkNone(t, fmt.Sprintf("%d months", months), ask{p, tops, inst, side})
				}
			}
		}
	}
}

// TestWrongTops: one fewer, one more, none, one for each month, and those of products with other months (P14.1).
func TestWrongTops(t *testing.T) {
	for months := 2; months <= api.MaxExp; months++ {
		count := len(made[months])
		for _, n := range []int{0, 1, 2, 3, 6, 10, 15, 21, 28, months, count - months, count - 1, count + 1, 2 * count, count + 256, count + 1<<16} {
			if n == count {
				continue
			}
			tops := make([]implied.Top, n)
			for i := range tops {
				tops[i] = top(10, 1, 20, 1)
			}
			for inst := range count {
				for _, side := range sides {
					checkNone(t, fmt.Sprintf("%d tops", n), ask{product(months), tops, inst, side})
				}
			}
		}
	}
	for inst := -1; inst < 3; inst++ {
		checkNone(t, "nil", ask{product(2), nil, inst, buy})
		checkNone(t, "empty", ask{product(2), []implied.Top{}, inst, buy})
	}
}

// TestWrongInstruments: below the first, the count, the ends of an int, and some that are right in their lower half or their last byte (P14.1).
func TestWrongInstruments(t *testing.T) {
	for months := 2; months <= api.MaxExp; months++ {
		count := len(made[months])
		for _, inst := range []int{-1, -2, -count, count, count + 1, 2 * count, 255, 256, 257, 1 << 32, 1<<32 + 1, -1 << 32, -1<<32 + 1, lowest, lowest + 1, highest, highest - 1} {
			for _, side := range append(slices.Clone(noSides), sides...) {
				checkNone(t, "no instrument", ask{product(months), full(count), inst, side})
			}
		}
	}
}

// TestWrongSides: of each instrument (P14.1).
func TestWrongSides(t *testing.T) {
	eachAsk(low, func(a ask) {
		for _, a.side = range noSides {
			checkNone(t, "no side", a)
		}
	})
}

// TestProductsAtTheirEnds: valid ones, whose quotes do not hang on what the prices are not asked for (P14.1).
func TestProductsAtTheirEnds(t *testing.T) {
	ends := []func(p *api.Product){
		func(p *api.Product) { p.Code = "A" },
		func(p *api.Product) { p.Code = "ABCD" },
		func(p *api.Product) { p.Tick = 1 },
		func(p *api.Product) { p.Wide = 0 },
		func(p *api.Product) { p.Wide = 300 },
		func(p *api.Product) { p.Low, p.High = -api.MaxPrice, api.MaxPrice },
		func(p *api.Product) { p.Rule = api.Share },
		func(p *api.Product) { p.Rule = api.Mixed },
		func(p *api.Product) { p.Top, p.Least, p.Part = 0, 1, 0 },
		func(p *api.Product) { p.Top, p.Least, p.Part = api.MaxQty, 1000, 100 },
		func(p *api.Product) { p.Settle[0] = 200 },
		func(p *api.Product) {
			p.Tick, p.Low, p.High, p.Wide = 1000, -1000, 1000, 2000
			for i := range p.Settle {
				p.Settle[i] = 0
			}
		},
	}
	for _, f := range ends {
		for _, tops := range []func(count int) []implied.Top{low, full} {
			eachAsk(tops, func(a ask) {
				want := a.model()
				a.p = own(a.p)
				f(&a.p)
				checkAll(t, a, want...)
				checkQuotes(t, a, a.accepted(want)...)
			})
		}
	}
}
