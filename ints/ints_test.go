package ints_test

import (
	"math"
	"math/big"
	"slices"
	"testing"

	"cornhill/ints"
)

const (
	least    = math.MinInt64
	greatest = math.MaxInt64
)

// edges are the numbers round which a sum, a product or a rest changes its kind: 0, the halves of a word, the root of the greatest, the ends.
var edges = []int64{
	0, 1, 2, 3, 5, 7, 10, 99, 100, 101,
	-1, -2, -3, -5, -7, -10, -99, -100, -101,
	1<<31 - 1, 1 << 31, 1<<32 - 1, 1 << 32, 1<<32 + 1, -1 << 31, -1<<31 - 1, -1 << 32, -1<<32 - 1,
	3037000499, 3037000500, -3037000499, -3037000500,
	1<<61 + 1, 1 << 62, 1<<62 - 1, 1<<62 + 1, -1 << 62, -1<<62 - 1, -1<<62 + 1,
	greatest, greatest - 1, greatest / 2, greatest / 3, greatest/3 + 1,
	least, least + 1, least / 2, least / 3, least/3 - 1,
}

type answer struct {
	n  int64
	ok bool
}

func of(n int64, ok bool) answer { return answer{n, ok} }

var none = answer{0, false}

// fitting is what the chapter asks for when x is the number that the call computes.
func fitting(x *big.Int) answer {
	if !x.IsInt64() {
		return none
	}
	return answer{x.Int64(), true}
}

func check(t *testing.T, call string, got, want answer, args ...int64) {
	t.Helper()
	if got != want {
		t.Errorf("P1.1: %s of %d: %d, %v, want %d, %v", call, args, got.n, got.ok, want.n, want.ok)
	}
}

type row2 struct {
	a, b int64
	want answer
}

func check2(t *testing.T, call string, f func(a, b int64) (int64, bool), rows []row2) {
	t.Helper()
	for _, r := range rows {
		check(t, call, of(f(r.a, r.b)), r.want, r.a, r.b)
	}
}

func TestAdd(t *testing.T) {
	check2(t, "Add", ints.Add, []row2{
		{0, 0, of(0, true)},
		{2, 3, of(5, true)},
		{-2, 3, of(1, true)},
		{-2, -3, of(-5, true)},
		{greatest, 0, of(greatest, true)},
		{greatest - 1, 1, of(greatest, true)},
		{greatest, 1, none},
		{1, greatest, none},
		{greatest, greatest, none},
		{least, 0, of(least, true)},
		{least + 1, -1, of(least, true)},
		{least, -1, none},
		{least, least, none},
		{least, greatest, of(-1, true)},
	})
}

func TestSub(t *testing.T) {
	check2(t, "Sub", ints.Sub, []row2{
		{0, 0, of(0, true)},
		{5, 3, of(2, true)},
		{3, 5, of(-2, true)},
		{-3, -5, of(2, true)},
		{0, greatest, of(-greatest, true)},
		{-1, greatest, of(least, true)},
		{-2, greatest, none},
		{0, least, none},
		{-1, least, of(greatest, true)},
		{least, least, of(0, true)},
		{least, 1, none},
		{greatest, -1, none},
		{greatest, least, none},
	})
}

func TestMul(t *testing.T) {
	check2(t, "Mul", ints.Mul, []row2{
		{0, least, of(0, true)},
		{6, 7, of(42, true)},
		{-6, 7, of(-42, true)},
		{-6, -7, of(42, true)},
		{greatest, 1, of(greatest, true)},
		{greatest, -1, of(-greatest, true)},
		{least, 1, of(least, true)},
		{1, least, of(least, true)},
		{least, -1, none},
		{-1, least, none},
		{1 << 62, 2, none},
		{1 << 62, -2, of(least, true)},
		{-1 << 62, -2, none},
		{-1 << 62, 2, of(least, true)},
		{3037000499, 3037000499, of(9223372030926249001, true)},
		{3037000500, 3037000500, none},
		{1 << 32, 1 << 32, none},
		{least, least, none},
		{greatest, greatest, none},
	})
}

func TestShare(t *testing.T) {
	for _, r := range []struct {
		a, b, c int64
		want    answer
	}{
		{7, 3, 2, of(10, true)},
		{6, 3, 2, of(9, true)},
		{0, 5, 1, of(0, true)},
		{5, 0, 1, of(0, true)},
		{1, 1, greatest, of(0, true)},
		{1 << 62, 6, 4, of(1<<62+1<<61, true)},
		{greatest, greatest, greatest, of(greatest, true)},
		{greatest, greatest, greatest - 1, none},
		{greatest, greatest, 1, none},
		{greatest, 2, 2, of(greatest, true)},
		{greatest, 3, 2, none},
		{1 << 62, 2, 1, none},
		{1 << 62, 4, 2, none},
		{1 << 62, 4, 1, none},
		{greatest, 1, 1, of(greatest, true)},
		{-1, 5, 3, none},
		{5, -1, 3, none},
		{-5, -1, 3, none},
		{0, -1, 3, none},
		{-1, 0, 3, none},
		{least, 1, 1, none},
		{1, least, 1, none},
		{5, 3, 0, none},
		{0, 5, 0, none},
		{5, 3, -1, none},
		{5, 3, least, none},
	} {
		check(t, "Share", of(ints.Share(r.a, r.b, r.c)), r.want, r.a, r.b, r.c)
	}
}

func TestSum(t *testing.T) {
	for _, r := range []struct {
		l    []int64
		want answer
	}{
		{nil, of(0, true)},
		{[]int64{}, of(0, true)},
		{[]int64{5}, of(5, true)},
		{[]int64{-5}, of(-5, true)},
		{[]int64{1, 2, 3, -10}, of(-4, true)},
		{[]int64{greatest}, of(greatest, true)},
		{[]int64{least}, of(least, true)},
		{[]int64{greatest, 1, -1}, of(greatest, true)},
		{[]int64{greatest, 1}, none},
		{[]int64{least, -1}, none},
		{[]int64{least, -1, 1}, of(least, true)},
		{[]int64{least, greatest}, of(-1, true)},
		{[]int64{greatest, greatest, least, least}, of(-2, true)},
		// these two wrap round to 0 in 64 bits:
		{[]int64{least, least}, none},
		{[]int64{greatest, greatest, 2}, none},
		{[]int64{greatest, greatest, greatest, greatest}, none},
	} {
		check(t, "Sum", of(ints.Sum(r.l)), r.want, r.l...)
	}
}

func TestSumInEveryOrder(t *testing.T) {
	want := of(greatest, true)
	for _, l := range [][]int64{
		{greatest, greatest, least, 1}, {greatest, greatest, 1, least}, {greatest, 1, greatest, least}, {1, greatest, greatest, least},
		{least, greatest, greatest, 1}, {least, 1, greatest, greatest}, {1, least, greatest, greatest}, {greatest, least, 1, greatest},
	} {
		check(t, "Sum", of(ints.Sum(l)), want, l...)
	}
}

func TestSumOfMany(t *testing.T) {
	l := make([]int64, 100000)
	for i := range l {
		l[i] = greatest
		if i >= len(l)/2 {
			l[i] = least
		}
	}
	if got, want := of(ints.Sum(l)), of(-50000, true); got != want {
		t.Errorf("P1.1: Sum of many: %v, want %v", got, want)
	}
	if got := of(ints.Sum(l[:len(l)/2])); got != none {
		t.Errorf("P1.1: Sum of many great ones: %v, want %v", got, none)
	}
}

func TestSumLeavesItsListAlone(t *testing.T) {
	all := []int64{1, 2, 3, greatest, greatest}
	before := slices.Clone(all)
	check(t, "Sum", of(ints.Sum(all[:3])), of(6, true), all[:3]...)
	if !slices.Equal(all, before) {
		t.Errorf("R2: Sum changed its list or the room behind it: %v, was %v", all, before)
	}
	all[0] = 10
	check(t, "Sum", of(ints.Sum(all[:3])), of(15, true), all[:3]...)
}

func TestFloor(t *testing.T) {
	check2(t, "Floor", ints.Floor, []row2{
		{0, 5, of(0, true)},
		{4, 5, of(0, true)},
		{5, 5, of(5, true)},
		{9, 5, of(5, true)},
		{-1, 5, of(-5, true)},
		{-5, 5, of(-5, true)},
		{-6, 5, of(-10, true)},
		{7, 1, of(7, true)},
		{greatest, 1, of(greatest, true)},
		{least, 1, of(least, true)},
		{greatest, 2, of(greatest-1, true)},
		{least, 2, of(least, true)},
		{least, 1 << 62, of(least, true)},
		{least, 3, none},
		{least + 1, 3, none},
		{least + 2, 3, of(least+2, true)},
		{greatest, greatest, of(greatest, true)},
		{greatest - 1, greatest, of(0, true)},
		{-1, greatest, of(-greatest, true)},
		{-greatest, greatest, of(-greatest, true)},
		{least, greatest, none},
		{5, 0, none},
		{0, 0, none},
		{5, -1, none},
		{5, least, none},
		{least, -1, none},
	})
}

func TestFloorIsTheGreatestMultiple(t *testing.T) {
	for b := int64(1); b <= 12; b++ {
		for a := int64(-40); a <= 40; a++ {
			want := a
			for want%b != 0 {
				want--
			}
			check(t, "Floor", of(ints.Floor(a, b)), of(want, true), a, b)
		}
	}
}

func TestPairsOfEdges(t *testing.T) {
	for _, a := range edges {
		for _, b := range edges {
			x, y := big.NewInt(a), big.NewInt(b)
			sum := fitting(new(big.Int).Add(x, y))
			check(t, "Add", of(ints.Add(a, b)), sum, a, b)
			check(t, "Sum", of(ints.Sum([]int64{a, b})), sum, a, b)
			check(t, "Sub", of(ints.Sub(a, b)), fitting(new(big.Int).Sub(x, y)), a, b)
			check(t, "Mul", of(ints.Mul(a, b)), fitting(new(big.Int).Mul(x, y)), a, b)
			floor := none
			if b >= 1 {
				floor = fitting(new(big.Int).Mul(y, new(big.Int).Div(x, y)))
			}
			check(t, "Floor", of(ints.Floor(a, b)), floor, a, b)
		}
	}
}

func TestTriplesOfEdges(t *testing.T) {
	for _, a := range edges {
		for _, b := range edges {
			for _, c := range edges {
				x, y, z := big.NewInt(a), big.NewInt(b), big.NewInt(c)
				share := none
				if a >= 0 && b >= 0 && c >= 1 {
					share = fitting(new(big.Int).Div(new(big.Int).Mul(x, y), z))
				}
				check(t, "Share", of(ints.Share(a, b, c)), share, a, b, c)
				sum := fitting(new(big.Int).Add(x, new(big.Int).Add(y, z)))
				check(t, "Sum", of(ints.Sum([]int64{a, b, c})), sum, a, b, c)
			}
		}
	}
}
