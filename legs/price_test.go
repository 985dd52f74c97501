package legs_test

import (
	"slices"
	"testing"

	"cornhill/api"
)

// bands are of each shape: round 0, from 0, above and below it, one tick high, as wide as can be, not wide at all, and at the ends of Tick and of the prices.
var bands = []band{
	{5, -100, 200, 50}, {5, -100, 200, 300}, {1, 0, 100, 60}, {1, 0, 100, 100}, {7, 14, 70, 56}, {7, 14, 70, 7}, {2, -40, -6, 34}, {3, -9, 0, 9},
	{3, 0, 3, 3}, {1, -1, 0, 1}, {1, 4, 9, 0}, {1000, -1000, 1000, 2000}, {1000, -3000, -1000, 1000}, {1, api.MaxPrice - 30, api.MaxPrice, 30}, {1, -api.MaxPrice, 30 - api.MaxPrice, 30},
}

// settles are prices in the band: both ends, those beside them, and between.
func (b band) settles() []int64 {
	middle := b.low + (b.high-b.low)/b.tick/2*b.tick
	return []int64{b.low, b.high, middle, min(b.low+b.tick, b.high), max(b.high-b.tick, b.low), b.low + (b.high-b.low)/b.tick/3*b.tick}
}

// TestByHand: prices worked out by hand, for a band from 0 to 100, of the far month at 50, at both ends and beside them (P15.1).
func TestByHand(t *testing.T) {
	for _, c := range []struct {
		settle, price, near, far int64
	}{
		{50, 60, 100, 40}, // the chapter's example
		{50, 0, 50, 50},
		{50, 1, 51, 50},
		{50, -1, 49, 50},
		{50, 49, 99, 50},
		{50, 50, 100, 50}, // just High
		{50, 51, 100, 49}, // one tick above it
		{50, 99, 100, 1},
		{50, 100, 100, 0},
		{50, -49, 1, 50},
		{50, -50, 0, 50}, // just Low
		{50, -51, 0, 51}, // one tick below it
		{50, -60, 0, 60},
		{50, -99, 0, 99},
		{50, -100, 0, 100},
		{0, 0, 0, 0},
		{0, 1, 1, 0},
		{0, 99, 99, 0},
		{0, 100, 100, 0},
		{0, -1, 0, 1},
		{0, -60, 0, 60},
		{0, -100, 0, 100},
		{100, 0, 100, 100},
		{100, -1, 99, 100},
		{100, -99, 1, 100},
		{100, -100, 0, 100},
		{100, 1, 100, 99},
		{100, 60, 100, 40},
		{100, 100, 100, 0},
		{1, 99, 100, 1},
		{1, 100, 100, 0},
		{1, -1, 0, 1},
		{1, -2, 0, 2},
		{99, 1, 100, 99},
		{99, 2, 100, 98},
		{99, -99, 0, 99},
		{99, -100, 0, 100},
	} {
		for _, near := range []int64{0, 50, 100, 37} {
			check(t, ask{banded(band{1, 0, 100, 100}, near, c.settle), 2, c.price}, right(c.near, c.far))
			if c.price <= 60 && c.price >= -60 {
				check(t, ask{banded(band{1, 0, 100, 60}, near, c.settle), 2, c.price}, right(c.near, c.far))
			}
		}
	}
}

// TestByHandOfThree: the prices of each spread of three months, each with a settlement of its own, worked out by hand (P15.1).
func TestByHandOfThree(t *testing.T) {
	p := banded(band{5, -100, 200, 300}, 50, -90, 180)
	for _, c := range []struct {
		inst             int
		price, near, far int64
	}{
		{3, 0, -90, -90}, {3, 290, 200, -90}, {3, 295, 200, -95}, {3, 300, 200, -100}, {3, -10, -100, -90}, {3, -15, -100, -85}, {3, -300, -100, 200},
		{4, 0, 180, 180}, {4, 20, 200, 180}, {4, 25, 200, 175}, {4, 300, 200, -100}, {4, -280, -100, 180}, {4, -285, -100, 185}, {4, -300, -100, 200},
		{5, 0, 180, 180}, {5, 20, 200, 180}, {5, 25, 200, 175}, {5, 300, 200, -100}, {5, -280, -100, 180}, {5, -285, -100, 185}, {5, -300, -100, 200},
	} {
		check(t, ask{p, c.inst, c.price}, right(c.near, c.far))
	}
}

// TestGreatPrices: the widest band that there can be, with ticks of 1 and of 1000 (P15.1).
func TestGreatPrices(t *testing.T) {
	const end = api.MaxPrice
	for _, tick := range []int64{1, 1000} {
		b := band{tick, -end, end, 2 * end}
		for _, c := range []struct {
			settle, price, near, far int64
		}{
			{end, 0, end, end}, {end, 2 * end, end, -end}, {end, -2 * end, -end, end}, {end, tick, end, end - tick}, {end, -tick, end - tick, end},
			{-end, 0, -end, -end}, {-end, 2 * end, end, -end}, {-end, -2 * end, -end, end}, {-end, tick, tick - end, -end}, {-end, -tick, -end, tick - end},
			{0, 0, 0, 0}, {0, end, end, 0}, {0, end + tick, end, -tick}, {0, -end, -end, 0}, {0, -end - tick, -end, tick}, {0, 2 * end, end, -end}, {0, -2 * end, -end, end},
		} {
			check(t, ask{banded(b, 5*tick, c.settle), 2, c.price}, right(c.near, c.far))
			check(t, ask{banded(b, 5*tick, -5*tick, c.settle), 4, c.price}, right(c.near, c.far))
		}
	}
}

// TestEachPrice: of each spread of products with 2 to 6 months and bands of each shape, each month having each settlement once (P15.1, P15.2).
func TestEachPrice(t *testing.T) {
	for _, b := range bands {
		all := b.settles()
		for months := 2; months <= api.MaxExp; months++ {
			for turn := range all {
				turned := append(slices.Clone(all[turn:]), all[:turn]...)
				eachPrice(t, banded(b, turned[:months]...), func(a ask) {
					check(t, a, a.model())
					checkConsequences(t, a)
				})
			}
		}
	}
}

// TestPriceOfNothing: price 0 gives the settlement of the far month twice (P15.1).
func TestPriceOfNothing(t *testing.T) {
	for months := 2; months <= api.MaxExp; months++ {
		for i, pair := range spreads[months] {
			for _, wide := range []int64{0, 5, 300} {
				p := product(months)
				p.Wide = wide
				far := p.Settle[pair[1]]
				check(t, ask{p, months + i, 0}, right(far, far))
			}
		}
	}
}

// TestRoundTheEndsOfTheBand: near prices just at an end, one tick within and one tick beyond it, for each spread and for settlements at Low, at High and between (P15.1).
func TestRoundTheEndsOfTheBand(t *testing.T) {
	const low, high, tick = -100, 200, 5
	for months := 2; months <= api.MaxExp; months++ {
		for i, pair := range spreads[months] {
			for far := int64(low); far <= high; far += tick {
				p := product(months)
				p.Wide, p.Settle[pair[1]] = high-low, far
				inst := months + i
				check(t, ask{p, inst, high - far}, right(high, far))
				check(t, ask{p, inst, low - far}, right(low, far))
				if far < high {
					check(t, ask{p, inst, high - far - tick}, right(high-tick, far))
					check(t, ask{p, inst, low - far - tick}, right(low, far+tick))
				}
				if far > low {
					check(t, ask{p, inst, low - far + tick}, right(low+tick, far))
					check(t, ask{p, inst, high - far + tick}, right(high, far-tick))
				}
			}
		}
	}
}

// TestOtherSettlements: those of the other months, the near one among them, do not matter (P15.1).
func TestOtherSettlements(t *testing.T) {
	for months := 2; months <= api.MaxExp; months++ {
		eachPrice(t, product(months), func(a ask) {
			want := a.model()
			far := spreads[months][a.inst-months][1]
			for other := range months {
				for _, settle := range []int64{-100, -5, 0, 120, 200} {
					b := ask{product(months), a.inst, a.price}
					if b.p.Settle[other] = settle; other != far {
						check(t, b, want)
					}
				}
			}
		})
	}
}

// TestOtherFields: those that have nothing to do with prices do not matter, as long as the product is valid (P15.1).
func TestOtherFields(t *testing.T) {
	changes := map[string]func(p *api.Product){
		"code of one letter": func(p *api.Product) { p.Code = "A" },
		"Greek code":         func(p *api.Product) { p.Code = "ΑΒΓΩ" },
		"next months":        func(p *api.Product) { copy(p.Months, []int{0, 1, 2, 3, 4, 5}) },
		"last months":        func(p *api.Product) { copy(p.Months, []int{1194, 1195, 1196, 1197, 1198, 1199}) },
		"by arrival":         func(p *api.Product) { p.Rule = api.First },
		"mixed":              func(p *api.Product) { p.Rule = api.Mixed },
		"least numbers":      func(p *api.Product) { p.Top, p.Least, p.Part = 0, 1, 0 },
		"greatest numbers":   func(p *api.Product) { p.Top, p.Least, p.Part = api.MaxQty, 1000, 100 },
	}
	for _, change := range changes {
		for months := 2; months <= api.MaxExp; months++ {
			p := product(months)
			change(&p)
			eachPrice(t, p, func(a ask) { check(t, a, a.model()) })
		}
	}
}

// TestEverySmallProduct: each band of at most five ticks from -3 on, each Wide, each two settlements, each price (P15.1, P15.2).
func TestEverySmallProduct(t *testing.T) {
	for _, tick := range []int64{1, 2} {
		for low := -3 * tick; low <= 3*tick; low += tick {
			for high := low + tick; high <= low+5*tick; high += tick {
				for wide := int64(0); wide <= high-low; wide += tick {
					eachSettle(band{tick, low, high, wide}, func(near, far int64) {
						eachPrice(t, banded(band{tick, low, high, wide}, near, far), func(a ask) {
							check(t, a, a.model())
							checkConsequences(t, a)
						})
					})
				}
			}
		}
	}
}

// eachSettle calls f with each two prices in the band.
func eachSettle(b band, f func(near, far int64)) {
	for near := b.low; near <= b.high; near += b.tick {
		for far := b.low; far <= b.high; far += b.tick {
			f(near, far)
		}
	}
}

// TestManyProducts: products, spreads and prices taken by a rule from all that there are (P15.2).
func TestManyProducts(t *testing.T) {
	c := chance(15)
	for range 20000 {
		tick := c.from(1, 1000)
		most := api.MaxPrice / tick
		low := c.from(-most, most-1)
		high := c.from(low+1, most)
		wide := c.from(0, high-low)
		months := int(c.from(2, api.MaxExp))
		settle := make([]int64, months)
		for i := range settle {
			settle[i] = c.from(low, high) * tick
		}
		p := banded(band{tick, low * tick, high * tick, wide * tick}, settle...)
		for range 5 {
			inst := int(c.from(int64(months), int64(count(months)-1)))
			checkConsequences(t, ask{p, inst, c.from(-wide, wide) * tick})
		}
	}
}
