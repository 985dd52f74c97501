package implied_test

import (
	"math/big"
	"slices"
	"testing"

	"cornhill/api"
	"cornhill/implied"
	"cornhill/refdata"
)

// model is what All answers: the legs of the table whose prices, those of the other side taken off, are together an int64.
func (a ask) model() []implied.Quote {
	var l []implied.Quote
	for _, legs := range a.legs() {
		price, qty, ok := big.NewInt(0), int64(highest), true
		for _, leg := range legs {
			top, i := a.tops[leg.Inst], at(leg.Side)
			part := big.NewInt(top.Price[i])
			if leg.Side != a.side {
				part.Neg(part)
			}
			price.Add(price, part)
			qty = min(qty, top.Qty[i])
			ok = ok && top.Has[i]
		}
		if ok && price.IsInt64() {
			l = append(l, implied.Quote{Price: price.Int64(), Qty: qty, Legs: legs})
		}
	}
	return l
}

// accepted are the quotes whose price is one for the instrument.
func (a ask) accepted(l []implied.Quote) []implied.Quote {
	return slices.DeleteFunc(slices.Clone(l), func(q implied.Quote) bool { return refdata.Price(a.p, a.inst, q.Price) != api.OK })
}

// checkModel asks both functions.
func checkModel(t *testing.T, a ask) {
	t.Helper()
	all := a.model()
	checkAll(t, a, all...)
	checkQuotes(t, a, a.accepted(all)...)
}

// masked returns the tops without those of the mask, in which two bits stand for an instrument. What does not exist keeps its price and quantity.
func masked(tops []implied.Top, mask int64) []implied.Top {
	tops = slices.Clone(tops)
	for n := range 2 * len(tops) {
		tops[n/2].Has[n%2] = mask>>n&1 == 0
	}
	return tops
}

// TestEverySetOfTops: each set of sides that do not exist, of products with two and three months (P14.1).
func TestEverySetOfTops(t *testing.T) {
	for months := 2; months <= 3; months++ {
		count := len(made[months])
		for mask := range int64(1) << (2 * count) {
			tops := masked(low(count), mask)
			for inst := range count {
				for _, side := range sides {
					checkModel(t, ask{product(months), tops, inst, side})
				}
			}
		}
	}
}

// TestSetsOfTopsByARule: of products with four to six months (P14.1).
func TestSetsOfTopsByARule(t *testing.T) {
	c := chance(1)
	for range 300 {
		mask, one := int64(0), []int64{2, 8}[c.below(2)] // one of so many does not exist
		for n := range 42 {
			if c.below(one) == 0 {
				mask |= 1 << n
			}
		}
		for months := 4; months <= api.MaxExp; months++ {
			count := len(made[months])
			tops := masked([][]implied.Top{full(count), low(count)}[c.below(2)], mask)
			for inst := range count {
				for _, side := range sides {
					checkModel(t, ask{product(months), tops, inst, side})
				}
			}
		}
	}
}

// TestPricesByARule: ends of an int64, small and great prices, and quantities of any kind (P14.1).
func TestPricesByARule(t *testing.T) {
	c := chance(2)
	far := []int64{lowest, lowest + 1, lowest + 2, lowest / 2, lowest/2 - 1, lowest/2 + 1, -1000001, -2, -1, 0, 1, 2, 1000001, highest / 2, highest/2 + 1, highest/2 + 2, highest - 1, highest}
	near := []int64{-205, -105, -101, -100, -99, -55, -50, -49, -5, -4, 0, 1, 5, 45, 50, 51, 100, 150, 200, 201, 205}
	for range 600 {
		l := [][]int64{far, near}[c.below(2)]
		for months := 2; months <= api.MaxExp; months++ {
			count := len(made[months])
			tops := make([]implied.Top, count)
			for n := range 2 * count {
				top := &tops[n/2]
				top.Has[n%2], top.Price[n%2], top.Qty[n%2] = c.below(8) > 0, c.of(l), c.of([]int64{1, 2, 3, 1000000, 0, -1, lowest, highest})
			}
			for range 4 {
				checkModel(t, ask{product(months), tops, int(c.below(int64(count))), sides[c.below(2)]})
			}
		}
	}
}
