package split_test

import (
	"fmt"
	"math"
	"math/big"
	"slices"
	"testing"

	"cornhill/split"
)

const (
	// full is the greatest number of orders (MaxOrders).
	full = 250
	// largest is the greatest quantity of an order (MaxQty).
	largest = 1000000
)

const (
	lowest  = math.MinInt64
	highest = math.MaxInt64
)

// ask is what Share is asked.
type ask struct {
	l              []int64
	part, least, q int64
}

func (a ask) String() string {
	return fmt.Sprintf("Share(%s, part %d, least %d, q %d)", show(a.l), a.part, a.least, a.q)
}

func (a ask) share() []int64 {
	return split.Share(a.l, a.part, a.least, a.q)
}

// same returns n orders of one quantity.
func same(n int, qty int64) []int64 {
	return slices.Repeat([]int64{qty}, n)
}

// with returns l with another quantity at one place.
func with(l []int64, at int, qty int64) []int64 {
	l = slices.Clone(l)
	l[at] = qty
	return l
}

// total returns the sum of l.
func total(l []int64) int64 {
	var sum int64
	for _, qty := range l {
		sum += qty
	}
	return sum
}

// show tells a list, of a long one only the beginning.
func show(l []int64) string {
	if len(l) <= 12 {
		return fmt.Sprint(l)
	}
	return fmt.Sprint(l[:12], " and so on, in all ", len(l))
}

// portion is a times b by c, rounded down, of numbers of any length.
func portion(a, b, c int64) int64 {
	n := new(big.Int).Mul(big.NewInt(a), big.NewInt(b))
	return n.Quo(n, big.NewInt(c)).Int64()
}

// byArrival hands q out to what the orders lack, from the first one on, and returns what nobody lacks.
func byArrival(lacks []int64, q int64) int64 {
	for i := range lacks {
		gets := min(lacks[i], q)
		lacks[i] -= gets
		q -= gets
	}
	return q
}

// behind returns what the orders lack when early is allocated by arrival. An order may lack 0.
func behind(l []int64, early int64) []int64 {
	lacks := slices.Clone(l)
	byArrival(lacks, early)
	return lacks
}

// allocate allocates as the chapter says, early by arrival, with a list of what each order lacks.
func allocate(a ask, early int64) []int64 {
	lacks := behind(a.l, early)
	rest, sum, before := a.q-early, total(lacks), slices.Clone(lacks)
	over := rest
	for i, qty := range before {
		if sum > 0 && portion(qty, rest, sum) >= a.least {
			lacks[i] -= portion(qty, rest, sum)
			over -= portion(qty, rest, sum)
		}
	}
	byArrival(lacks, over)
	shares := slices.Clone(a.l)
	for i := range shares {
		shares[i] -= lacks[i]
	}
	return shares
}

func model(a ask) []int64 {
	return allocate(a, portion(a.q, a.part, 100))
}

// checkSums asks whether the shares are together q, and each from 0 to its quantity.
func checkSums(t *testing.T, a ask, shares []int64) {
	t.Helper()
	if len(shares) != len(a.l) {
		t.Errorf("P12.1: %s: %s, want a share for each order", a, show(shares))
		return
	}
	for i, share := range shares {
		if share < 0 || share > a.l[i] {
			t.Errorf("P12.1: %s: share %d is %d of %d", a, i, share, a.l[i])
		}
	}
	if got := total(shares); got != a.q {
		t.Errorf("P12.1: %s: together %d", a, got)
	}
}

// checkShare asks Share, and whether the list is left alone.
func checkShare(t *testing.T, a ask, want ...int64) {
	t.Helper()
	before := slices.Clone(a.l)
	got := a.share()
	if !slices.Equal(got, want) {
		t.Errorf("P12.1: %s: %s, want %s", a, show(got), show(want))
	}
	if !slices.Equal(a.l, before) {
		t.Errorf("R2: the list %s is %s after Share", show(before), show(a.l))
	}
	checkSums(t, a, got)
}

// checkModel asks Share and compares it with the model.
func checkModel(t *testing.T, a ask) {
	t.Helper()
	checkShare(t, a, model(a)...)
}

// checkNone asks Share for nothing.
func checkNone(t *testing.T, a ask) {
	t.Helper()
	before := slices.Clone(a.l)
	if got := a.share(); len(got) != 0 {
		t.Errorf("P12.1: %s: %s, want none", a, show(got))
	}
	if !slices.Equal(a.l, before) {
		t.Errorf("R2: the list %s is %s after a refused call", show(before), show(a.l))
	}
}

// checkRefused asks for nothing of l and q, whatever the other arguments are.
func checkRefused(t *testing.T, l []int64, q int64) {
	t.Helper()
	for _, part := range []int64{0, 1, 50, 99, 100, -1, 101} {
		for _, least := range []int64{1, 5, highest, 0} {
			checkNone(t, ask{l, part, least, q})
		}
	}
}

// eachList calls f with all lists of up to longest orders whose quantities are from the first to the last one.
func eachList(longest int, first, last int64, f func(l []int64)) {
	var grow func(l []int64)
	grow = func(l []int64) {
		f(l)
		for qty := first; qty <= last && len(l) < longest; qty++ {
			grow(append(slices.Clone(l), qty))
		}
	}
	grow(nil)
}

// TestEverySmallList: each amount of each list, with several parts and each least (P12.1).
func TestEverySmallList(t *testing.T) {
	eachList(4, 1, 4, func(l []int64) {
		a := ask{l: l}
		for a.q = 0; a.q <= total(l); a.q++ {
			for a.least = 1; a.least <= 4; a.least++ {
				for _, a.part = range []int64{0, 1, 25, 33, 34, 50, 67, 80, 99, 100} {
					checkModel(t, a)
				}
			}
		}
	})
}

// TestEverySmallListWithWrongArguments: a quantity of 0 or below, an amount that is below 0 or above the sum, a part that is no hundredth, a least below 1 (P12.1).
func TestEverySmallListWithWrongArguments(t *testing.T) {
	eachList(4, -1, 2, func(l []int64) {
		good := len(l) == 0 || slices.Min(l) >= 1
		a := ask{l: l}
		for a.q = -2; a.q <= 9; a.q++ {
			for a.least = -1; a.least <= 2; a.least++ {
				for _, a.part = range []int64{-2, -1, 0, 1, 60, 99, 100, 101, 102} {
					if good && a.q >= 0 && a.q <= total(l) && a.least >= 1 && a.part >= 0 && a.part <= 100 {
						checkModel(t, a)
					} else {
						checkNone(t, a)
					}
				}
			}
		}
	})
}

// TestListsByARule: long and short ones, of small and large orders, with each part and each kind of least and amount (P12.1).
func TestListsByARule(t *testing.T) {
	seed := uint64(1)
	next := func(n int64) int64 {
		seed = seed*6364136223846793005 + 1442695040888963407
		return int64(seed >> 33 % uint64(n))
	}
	for i := range int64(2020) {
		l, size := make([]int64, 1+next(full)), []int64{3, 1000, largest}[next(3)]
		for at := range l {
			l[at] = 1 + next(size)
		}
		sum := total(l)
		for _, q := range []int64{0, next(sum + 1), next(sum/20 + 1), sum - next(sum/20+1), sum} {
			least := []int64{1, 2, 1 + q/int64(len(l)), 1 + next(size), highest}[next(5)]
			checkModel(t, ask{l, i % 101, least, q})
		}
	}
}
