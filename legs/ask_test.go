package legs_test

import (
	"fmt"
	"math"
	"slices"
	"testing"

	"cornhill/api"
	"cornhill/legs"
	"cornhill/refdata"
)

const (
	lowest  = math.MinInt64
	highest = math.MaxInt64
)

// spreads are the months of each spread of a product with so many months, in the order of their numbers, spelt out so that no loop can be wrong. The number of the first one is the number of months.
var spreads = map[int][][2]int{
	2: {{0, 1}},
	3: {{0, 1}, {0, 2}, {1, 2}},
	4: {{0, 1}, {0, 2}, {0, 3}, {1, 2}, {1, 3}, {2, 3}},
	5: {{0, 1}, {0, 2}, {0, 3}, {0, 4}, {1, 2}, {1, 3}, {1, 4}, {2, 3}, {2, 4}, {3, 4}},
	6: {{0, 1}, {0, 2}, {0, 3}, {0, 4}, {0, 5}, {1, 2}, {1, 3}, {1, 4}, {1, 5}, {2, 3}, {2, 4}, {2, 5}, {3, 4}, {3, 5}, {4, 5}},
}

// product is a valid one with so many months. It has lists of its own.
func product(months int) api.Product {
	return banded(band{5, -100, 200, 50}, []int64{-100, 0, 35, 200, 5, -5}[:months]...)
}

// band is what prices hang on.
type band struct{ tick, low, high, wide int64 }

// banded is a product with a month for each settlement price.
func banded(b band, settle ...int64) api.Product {
	months := []int{0, 11, 12, 312, 323, api.MaxMonth}
	return api.Product{
		Code: "CL", Months: slices.Clone(months[:len(settle)]), Tick: b.tick, Low: b.low, High: b.high, Wide: b.wide,
		Rule: api.Share, Top: 10, Least: 1, Part: 40, Settle: slices.Clone(settle),
	}
}

// count is the number of instruments of a product with so many months.
func count(months int) int { return months + len(spreads[months]) }

// ask is what Prices is asked.
type ask struct {
	p     api.Product
	inst  int
	price int64
}

func (a ask) String() string {
	return fmt.Sprintf("(%d months, tick %d, %d to %d, wide %d, settle %v, inst %d, price %d)", len(a.p.Months), a.p.Tick, a.p.Low, a.p.High, a.p.Wide, a.p.Settle, a.inst, a.price)
}

// answer is what Prices returns.
type answer struct {
	near, far int64
	err       api.Errno
}

// right is an answer without an error.
func right(near, far int64) answer { return answer{near, far, api.OK} }

// get asks Prices, and whether the product's lists are left alone.
func (a ask) get(t *testing.T) answer {
	t.Helper()
	months, settle := slices.Clone(a.p.Months), slices.Clone(a.p.Settle)
	near, far, err := legs.Prices(a.p, a.inst, a.price)
	if !slices.Equal(a.p.Months, months) || !slices.Equal(a.p.Settle, settle) {
		t.Errorf("R2: Prices%s: the lists have changed: %v, %v, were %v, %v", a, a.p.Months, a.p.Settle, months, settle)
	}
	return answer{near, far, err}
}

// check asks Prices.
func check(t *testing.T, a ask, want answer) {
	t.Helper()
	if got := a.get(t); got != want {
		t.Errorf("P15.1: Prices%s: %v, want %v", a, got, want)
	}
}

// checkRefused asks Prices for an error, with both prices 0.
func checkRefused(t *testing.T, why string, a ask, err api.Errno) {
	t.Helper()
	if got := a.get(t); got != (answer{0, 0, err}) {
		t.Errorf("P15.1: %s: Prices%s: %v, want 0, 0 and %d", why, a, got, err)
	}
}

// checkConsequences asks whether the prices are ones that the months may have, and as far apart as the price is.
func checkConsequences(t *testing.T, a ask) {
	t.Helper()
	got := a.get(t)
	if got.err != api.OK {
		t.Errorf("P15.2: Prices%s: error %d", a, got.err)
	}
	for _, price := range []int64{got.near, got.far} {
		if price%a.p.Tick != 0 {
			t.Errorf("P15.2: Prices%s: %v, %d is no multiple of Tick", a, got, price)
		}
		if price < a.p.Low || price > a.p.High {
			t.Errorf("P15.2: Prices%s: %v, %d is not from Low to High", a, got, price)
		}
	}
	if got.near-got.far != a.price {
		t.Errorf("P15.2: Prices%s: %v, a difference of %d", a, got, got.near-got.far)
	}
}

// model moves both prices tick by tick, until the near one is in the band.
func (a ask) model() answer {
	far := a.p.Settle[spreads[len(a.p.Months)][a.inst-len(a.p.Months)][1]]
	near := far + a.price
	for near > a.p.High {
		near, far = near-a.p.Tick, far-a.p.Tick
	}
	for near < a.p.Low {
		near, far = near+a.p.Tick, far+a.p.Tick
	}
	return right(near, far)
}

// accepted are the prices that refdata.Price accepts for the instrument.
func accepted(p api.Product, inst int) []int64 {
	var l []int64
	for price := -p.Wide - 2*p.Tick; price <= p.Wide+2*p.Tick; price++ {
		if refdata.Price(p, inst, price) == api.OK {
			l = append(l, price)
		}
	}
	return l
}

// eachPrice calls f with each price of each spread of p.
func eachPrice(t *testing.T, p api.Product, f func(a ask)) {
	t.Helper()
	for i := range spreads[len(p.Months)] {
		inst := len(p.Months) + i
		l := accepted(p, inst)
		if int64(len(l)) != 2*p.Wide/p.Tick+1 {
			t.Fatalf("%d prices are accepted for %s", len(l), ask{p, inst, 0})
		}
		for _, price := range l {
			f(ask{p, inst, price})
		}
	}
}

// chance gives numbers by a rule, the same ones for each run.
type chance uint64

// from returns a number from low to high.
func (c *chance) from(low, high int64) int64 {
	*c = *c*6364136223846793005 + 1442695040888963407
	return low + int64(uint64(*c)>>33%uint64(high-low+1))
}
