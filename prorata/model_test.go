package prorata_test

import (
	"fmt"
	"math"
	"math/big"
	"slices"
	"testing"

	"cornhill/prorata"
)

const (
	// full is the greatest number of orders (MaxOrders).
	full = 250
	// largest is the greatest quantity of an order (MaxQty).
	largest = 1000000
)

const (
	lowest  = math.MinInt64
	highest = math.MaxInt64
)

// ask is what Share is asked; of Plain it is without top and most.
type ask struct {
	l              []int64
	top            int
	most, least, q int64
}

func (a ask) String() string {
	return fmt.Sprintf("Share(%s, top %d, most %d, least %d, q %d)", show(a.l), a.top, a.most, a.least, a.q)
}

func (a ask) share() []int64 {
	return prorata.Share(a.l, a.top, a.most, a.least, a.q)
}

// same returns n orders of one quantity.
func same(n int, qty int64) []int64 {
	return slices.Repeat([]int64{qty}, n)
}

// with returns l with another quantity at one place.
func with(l []int64, at int, qty int64) []int64 {
	l = slices.Clone(l)
	l[at] = qty
	return l
}

// total returns the sum of l.
func total(l []int64) int64 {
	var sum int64
	for _, qty := range l {
		sum += qty
	}
	return sum
}

// show tells a list, of a long one only the beginning.
func show(l []int64) string {
	if len(l) <= 12 {
		return fmt.Sprint(l)
	}
	return fmt.Sprint(l[:12], " and so on, in all ", len(l))
}

// strangers are numbers that are no index of a list of n orders; some are one in their lower half.
func strangers(n int) []int {
	return []int{-1, n, -2, n + 1, -n, -n - 1, 2 * n, 1 << 32, 1<<32 + 1, -1 << 32, -1<<32 + 1, math.MaxInt32, math.MinInt32, math.MaxInt - 1, math.MaxInt, math.MinInt + 1, math.MinInt}
}

// portion is qty times q by sum, rounded down, of numbers of any length.
func portion(qty, q, sum int64) int64 {
	n := new(big.Int).Mul(big.NewInt(qty), big.NewInt(q))
	return n.Quo(n, big.NewInt(sum)).Int64()
}

// model allocates as the chapter says, with a list of what each order lacks, in which an order may lack 0.
func model(a ask) []int64 {
	lacks, shares, q := slices.Clone(a.l), same(len(a.l), 0), a.q
	give := func(at int, qty int64) {
		shares[at] += qty
		lacks[at] -= qty
		q -= qty
	}
	if slices.Contains(indices(a.l), a.top) {
		give(a.top, min(lacks[a.top], a.most, q))
	}
	before, rest, sum := slices.Clone(lacks), q, total(lacks)
	for i, qty := range before {
		if sum > 0 && portion(qty, rest, sum) >= a.least {
			give(i, portion(qty, rest, sum))
		}
	}
	for i := range lacks {
		give(i, min(lacks[i], q))
	}
	return shares
}

// indices are those of l.
func indices(l []int64) []int {
	var all []int
	for i := range l {
		all = append(all, i)
	}
	return all
}

// checkSums asks whether the shares are together q, and each from 0 to its quantity (P11.3).
func checkSums(t *testing.T, call fmt.Stringer, l []int64, q int64, shares []int64) {
	t.Helper()
	if len(shares) != len(l) {
		t.Errorf("P11.3: %s: %s, want a share for each order", call, show(shares))
		return
	}
	for i, share := range shares {
		if share < 0 || share > l[i] {
			t.Errorf("P11.3: %s: share %d is %d of %d", call, i, share, l[i])
		}
	}
	if got := total(shares); got != q {
		t.Errorf("P11.3: %s: together %d", call, got)
	}
}

// checkShare asks Share, and whether the list is left alone.
func checkShare(t *testing.T, a ask, want ...int64) {
	t.Helper()
	before := slices.Clone(a.l)
	got := a.share()
	if !slices.Equal(got, want) {
		t.Errorf("P11.2: %s: %s, want %s", a, show(got), show(want))
	}
	if !slices.Equal(a.l, before) {
		t.Errorf("R2: the list %s is %s after Share", show(before), show(a.l))
	}
	checkSums(t, a, before, a.q, got)
}

// checkPlain asks Plain, whether the list is left alone, and whether Share with a top that is no index is the same.
func checkPlain(t *testing.T, l []int64, least, q int64, want ...int64) {
	t.Helper()
	before := slices.Clone(l)
	got := prorata.Plain(l, least, q)
	if !slices.Equal(got, want) {
		t.Errorf("P11.1: Plain(%s, least %d, q %d): %s, want %s", show(before), least, q, show(got), show(want))
	}
	if !slices.Equal(l, before) {
		t.Errorf("R2: the list %s is %s after Plain", show(before), show(l))
	}
	a := ask{before, -1, 0, least, q}
	checkSums(t, a, before, q, got)
	for _, a.top = range strangers(len(l)) {
		for _, a.most = range []int64{0, 1, highest} {
			checkShare(t, a, want...)
		}
	}
}

// checkNone asks for nothing: Plain if plain, and Share.
func checkNone(t *testing.T, a ask, plain bool) {
	t.Helper()
	before := slices.Clone(a.l)
	if got := a.share(); len(got) != 0 {
		t.Errorf("P11.2: %s: %s, want none", a, show(got))
	}
	if got := prorata.Plain(a.l, a.least, a.q); plain && len(got) != 0 {
		t.Errorf("P11.1: Plain(%s, least %d, q %d): %s, want none", show(a.l), a.least, a.q, show(got))
	}
	if !slices.Equal(a.l, before) {
		t.Errorf("R2: the list %s is %s after a refused call", show(before), show(a.l))
	}
}

// checkRefused asks for nothing of l and q, whatever the other arguments are.
func checkRefused(t *testing.T, l []int64, q int64) {
	t.Helper()
	n := len(l)
	for _, top := range []int{-1, 0, n / 2, n - 1, n} {
		for _, most := range []int64{0, 1, highest, -1} {
			for _, least := range []int64{1, 5, highest, 0} {
				checkNone(t, ask{l, top, most, least, q}, true)
			}
		}
	}
}

// checkModel asks Plain and Share and compares them with the model.
func checkModel(t *testing.T, a ask) {
	t.Helper()
	checkShare(t, a, model(a)...)
	plain := ask{a.l, -1, 0, a.least, a.q}
	want := model(plain)
	checkShare(t, plain, want...)
	if got := prorata.Plain(a.l, a.least, a.q); !slices.Equal(got, want) {
		t.Errorf("P11.1: Plain(%s, least %d, q %d): %s, want %s", show(a.l), a.least, a.q, show(got), show(want))
	}
}

// eachList calls f with all lists of up to longest orders whose quantities are from the first to the last one.
func eachList(longest int, first, last int64, f func(l []int64)) {
	var grow func(l []int64)
	grow = func(l []int64) {
		f(l)
		for qty := first; qty <= last && len(l) < longest; qty++ {
			grow(append(slices.Clone(l), qty))
		}
	}
	grow(nil)
}

// TestEverySmallList: each amount of each list, with each top order, most and least (P11.1, P11.2, P11.3).
func TestEverySmallList(t *testing.T) {
	eachList(4, 1, 4, func(l []int64) {
		a := ask{l: l}
		for a.q = 0; a.q <= total(l); a.q++ {
			for a.least = 1; a.least <= 4; a.least++ {
				for a.top = -1; a.top <= len(l); a.top++ {
					for a.most = 0; a.most <= 5; a.most++ {
						checkModel(t, a)
					}
				}
			}
		}
	})
}

// TestEverySmallListWithWrongArguments: a quantity of 0 or below, an amount that is below 0 or above the sum, a least below 1, a most below 0 (P11.1, P11.2).
func TestEverySmallListWithWrongArguments(t *testing.T) {
	eachList(4, -1, 2, func(l []int64) {
		good := len(l) == 0 || slices.Min(l) >= 1
		a := ask{l: l}
		for a.q = -2; a.q <= 9; a.q++ {
			for a.least = -1; a.least <= 2; a.least++ {
				for a.most = -2; a.most <= 1; a.most++ {
					for a.top = -1; a.top <= len(l); a.top++ {
						plain := good && a.q >= 0 && a.q <= total(l) && a.least >= 1
						if plain && a.most >= 0 {
							checkModel(t, a)
						} else {
							checkNone(t, a, !plain)
						}
					}
				}
			}
		}
	})
}

// TestListsByARule: long and short ones, of small and large orders, with each kind of top order, most, least and amount (P11.1, P11.2, P11.3).
func TestListsByARule(t *testing.T) {
	seed := uint64(1)
	next := func(n int64) int64 {
		seed = seed*6364136223846793005 + 1442695040888963407
		return int64(seed >> 33 % uint64(n))
	}
	for range 3000 {
		l, size := make([]int64, 1+next(full)), []int64{3, 1000, largest}[next(3)]
		for i := range l {
			l[i] = 1 + next(size)
		}
		sum := total(l)
		for _, q := range []int64{0, next(sum + 1), next(sum/20 + 1), sum - next(sum/20+1), sum} {
			top := int(next(int64(len(l)+2))) - 1
			most := []int64{0, 1, next(size), size, highest}[next(5)]
			least := []int64{1, 2, 1 + q/int64(len(l)), 1 + next(size), highest}[next(5)]
			checkModel(t, ask{l, top, most, least, q})
		}
	}
}
