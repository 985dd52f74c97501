package implied_test

import (
	"fmt"
	"math"
	"slices"
	"strings"
	"testing"

	"cornhill/api"
	"cornhill/implied"
)

const (
	lowest  = math.MinInt64
	highest = math.MaxInt64
)

// sides are those that there are.
var sides = []int{api.Buy, api.Sell}

// noSides are numbers that are none. The last ones are right in their lower half or their last byte.
var noSides = []int{0, 3, -1, -2, 4, lowest, highest, 1<<32 + 1, 1<<32 + 2, -1<<32 + 1, 257, 258}

// made are the legs of each instrument of a product with so many months, in the order of the quotes, spelt out so that no loop can be wrong: + is a leg on the side, - one on the other side. The months have the first numbers.
var made = map[int][]string{
	2: {"+2+1", "-2+0", "+0-1"},
	3: {"+3+1 +4+2", "+5+2 -3+0", "-4+0 -5+1", "+0-1", "+0-2", "+1-2"},
	4: {
		"+4+1 +5+2 +6+3", "+7+2 +8+3 -4+0", "+9+3 -5+0 -7+1", "-6+0 -8+1 -9+2",
		"+0-1", "+0-2", "+0-3", "+1-2", "+1-3", "+2-3",
	},
	5: {
		"+5+1 +6+2 +7+3 +8+4", "+9+2 +10+3 +11+4 -5+0", "+12+3 +13+4 -6+0 -9+1", "+14+4 -7+0 -10+1 -12+2", "-8+0 -11+1 -13+2 -14+3",
		"+0-1", "+0-2", "+0-3", "+0-4", "+1-2", "+1-3", "+1-4", "+2-3", "+2-4", "+3-4",
	},
	6: {
		"+6+1 +7+2 +8+3 +9+4 +10+5", "+11+2 +12+3 +13+4 +14+5 -6+0", "+15+3 +16+4 +17+5 -7+0 -11+1",
		"+18+4 +19+5 -8+0 -12+1 -15+2", "+20+5 -9+0 -13+1 -16+2 -18+3", "-10+0 -14+1 -17+2 -19+3 -20+4",
		"+0-1", "+0-2", "+0-3", "+0-4", "+0-5", "+1-2", "+1-3", "+1-4", "+1-5", "+2-3", "+2-4", "+2-5", "+3-4", "+3-5", "+4-5",
	},
}

// product is a valid one with so many months.
func product(months int) api.Product {
	return api.Product{
		Code: "CL", Months: []int{0, 11, 12, 312, 323, 1199}[:months:months], Tick: 5, Low: -100, High: 200, Wide: 50,
		Rule: api.First, Top: 10, Least: 1, Part: 40, Settle: []int64{-100, 0, 35, 200, 5, -5}[:months:months],
	}
}

// full returns a Top for each of count instruments, whose prices, sums and differences of prices are all different, and whose quantities are all different.
func full(count int) []implied.Top {
	tops := make([]implied.Top, count)
	for i := range tops {
		for at := range 2 {
			n := 2*i + at
			tops[i].Has[at], tops[i].Price[at], tops[i].Qty[at] = true, 1<<n, int64(7*n%43+1)
		}
	}
	return tops
}

// low returns a Top for each of count instruments, with small prices and quantities that differ less.
func low(count int) []implied.Top {
	tops := make([]implied.Top, count)
	for i := range tops {
		tops[i] = implied.Top{Has: [2]bool{true, true}, Price: [2]int64{int64(5*i%40 - 15), int64(35*i%55 - 20)}, Qty: [2]int64{int64(1 + i%4), int64(4 - i%3)}}
	}
	return tops
}

// otherOf is the other side.
func otherOf(side int) int { return api.Buy + api.Sell - side }

// legsOf are the legs of each quote for a side of an instrument, read from the table.
func legsOf(months, inst, side int) [][2]implied.Leg {
	var l [][2]implied.Leg
	for _, word := range strings.Fields(made[months][inst]) {
		var signs [2]rune
		var insts [2]int
		if _, err := fmt.Sscanf(word, "%c%d%c%d", &signs[0], &insts[0], &signs[1], &insts[1]); err != nil {
			panic(err)
		}
		var legs [2]implied.Leg
		for i, sign := range signs {
			legs[i] = implied.Leg{Inst: insts[i], Side: side}
			if sign == '-' {
				legs[i].Side = otherOf(side)
			}
		}
		l = append(l, legs)
	}
	return l
}

// ask is what All and Quotes are asked.
type ask struct {
	p          api.Product
	tops       []implied.Top
	inst, side int
}

func (a ask) String() string {
	return fmt.Sprintf("(%d months, %d tops, inst %d, side %d)", len(a.p.Months), len(a.tops), a.inst, a.side)
}

// eachAsk calls f with each side of each instrument of products with 2 to 6 months.
func eachAsk(tops func(count int) []implied.Top, f func(a ask)) {
	for months := 2; months <= api.MaxExp; months++ {
		count := len(made[months])
		for inst := range count {
			for _, side := range sides {
				f(ask{product(months), tops(count), inst, side})
			}
		}
	}
}

// legs are the legs of each quote that there can be.
func (a ask) legs() [][2]implied.Leg { return legsOf(len(a.p.Months), a.inst, a.side) }

// at is the index of a side in a Top.
func at(side int) int { return side - 1 }

// state is a copy of everything that is handed in.
type state struct {
	months []int
	settle []int64
	tops   []implied.Top
}

func (a ask) state() state {
	return state{slices.Clone(a.p.Months), slices.Clone(a.p.Settle), slices.Clone(a.tops)}
}

func (s state) same(o state) bool {
	return slices.Equal(s.months, o.months) && slices.Equal(s.settle, o.settle) && slices.Equal(s.tops, o.tops)
}

// answer asks All or Quotes, and whether the arguments are left alone.
func (a ask) answer(t *testing.T, name string, f func(p api.Product, tops []implied.Top, inst, side int) []implied.Quote) []implied.Quote {
	t.Helper()
	before := a.state()
	got := f(a.p, a.tops, a.inst, a.side)
	if !before.same(a.state()) {
		t.Errorf("R2: %s%s: the arguments have changed: %v, were %v", name, a, a.state(), before)
	}
	return got
}

func (a ask) all(t *testing.T) []implied.Quote {
	t.Helper()
	return a.answer(t, "All", implied.All)
}

func (a ask) quotes(t *testing.T) []implied.Quote {
	t.Helper()
	return a.answer(t, "Quotes", implied.Quotes)
}

// checkAll asks All.
func checkAll(t *testing.T, a ask, want ...implied.Quote) {
	t.Helper()
	if got := a.all(t); !slices.Equal(got, want) {
		t.Errorf("P14.1: All%s: %v, want %v", a, got, want)
	}
}

// checkQuotes asks Quotes.
func checkQuotes(t *testing.T, a ask, want ...implied.Quote) {
	t.Helper()
	if got := a.quotes(t); !slices.Equal(got, want) {
		t.Errorf("P14.1: Quotes%s: %v, want %v", a, got, want)
	}
}

// checkNone asks both for nothing.
func checkNone(t *testing.T, why string, a ask) {
	t.Helper()
	if got := a.all(t); len(got) != 0 {
		t.Errorf("P14.1: %s: All%s: %v, want none", why, a, got)
	}
	if got := a.quotes(t); len(got) != 0 {
		t.Errorf("P14.1: %s: Quotes%s: %v, want none", why, a, got)
	}
}

// chance gives numbers by a rule, the same ones for each run.
type chance uint64

// below returns a number from 0 to n-1.
func (c *chance) below(n int64) int64 {
	*c = *c*6364136223846793005 + 1442695040888963407
	return int64(uint64(*c) >> 33 % uint64(n))
}

// of returns one of the numbers of l.
func (c *chance) of(l []int64) int64 { return l[c.below(int64(len(l)))] }
