package refdata_test

import (
	"fmt"
	"math"
	"slices"
	"strings"
	"testing"
	"unsafe"

	"cornhill/api"
	"cornhill/refdata"
)

// monthNumbers and monthNames are the months of the products here, of which each takes as many as it has.
var (
	monthNumbers = []int{0, 11, 12, 312, 323, 1199}
	monthNames   = []string{"F00", "Z00", "F01", "F26", "Z26", "Z99"}
)

// settles are their settlement prices, multiples of 5 from -100 to 200.
var settles = []int64{-100, 0, 35, 200, 5, -5}

// pairs are the months of the spreads of a product with so many months, in the order of their numbers, spelt out so that no loop can be wrong.
var pairs = map[int][][2]int{
	2: {{0, 1}},
	3: {{0, 1}, {0, 2}, {1, 2}},
	4: {{0, 1}, {0, 2}, {0, 3}, {1, 2}, {1, 3}, {2, 3}},
	5: {{0, 1}, {0, 2}, {0, 3}, {0, 4}, {1, 2}, {1, 3}, {1, 4}, {2, 3}, {2, 4}, {3, 4}},
	6: {{0, 1}, {0, 2}, {0, 3}, {0, 4}, {0, 5}, {1, 2}, {1, 3}, {1, 4}, {1, 5}, {2, 3}, {2, 4}, {2, 5}, {3, 4}, {3, 5}, {4, 5}},
}

// productCodes are valid, and of each length.
var productCodes = []string{"CL", "C", "F", "Ω", "ΩF", "FZ", "CLF", "ABCD", "ΑΡΣΩ"}

// far are numbers beyond each limit, among them those at which sums and differences wrap round.
var far = []int64{math.MinInt64, math.MinInt64 + 1, math.MinInt64 / 2, -1 << 40, 1 << 40, math.MaxInt64 / 2, math.MaxInt64 - 1, math.MaxInt64}

// product returns a valid product with n months, in which no number can be taken for another.
func product(n int) api.Product {
	return api.Product{
		Code:   "CL",
		Months: slices.Clone(monthNumbers[:n]),
		Tick:   5,
		Low:    -100,
		High:   200,
		Wide:   40,
		Rule:   api.Share,
		Top:    7,
		Least:  3,
		Part:   30,
		Settle: slices.Clone(settles[:n]),
	}
}

// products returns valid products, of each number of months and of each code.
func products() []api.Product {
	var all []api.Product
	for n := 2; n <= api.MaxExp; n++ {
		for _, code := range productCodes {
			p := product(n)
			p.Code = code
			all = append(all, p)
		}
	}
	return all
}

// with returns the valid product with three months, changed so.
func with(change func(p *api.Product)) api.Product {
	p := product(3)
	change(&p)
	return p
}

// change is one that has a name to tell it by.
type change struct {
	name string
	do   func(p *api.Product)
}

// fault is a change for which Check must return an error. Its class is the line of the chapter's list that says so.
type fault struct {
	change
	class int
	err   api.Errno
}

// changes returns a change for each of the values.
func changes[T any](name string, set func(p *api.Product, value T), values ...T) []change {
	var all []change
	for _, value := range values {
		all = append(all, change{fmt.Sprintf("%s %.40v", name, value), func(p *api.Product) { set(p, value) }})
	}
	return all
}

func setCode(p *api.Product, s string)    { p.Code = s }
func setMonths(p *api.Product, l []int)   { p.Months = slices.Clone(l) }
func setTick(p *api.Product, n int64)     { p.Tick = n }
func setLow(p *api.Product, n int64)      { p.Low = n }
func setHigh(p *api.Product, n int64)     { p.High = n }
func setWide(p *api.Product, n int64)     { p.Wide = n }
func setRule(p *api.Product, n int)       { p.Rule = n }
func setTop(p *api.Product, n int64)      { p.Top = n }
func setLeast(p *api.Product, n int64)    { p.Least = n }
func setPart(p *api.Product, n int64)     { p.Part = n }
func setSettle(p *api.Product, l []int64) { p.Settle = slices.Clone(l) }
func setBand(p *api.Product, band [2]int64) {
	p.Low, p.High = band[0], band[1]
}

// faults returns the faults of each class. None of them, done to the product with three months, makes one of an earlier class.
func faults() []fault {
	var all []fault
	add := func(class int, err api.Errno, more ...[]change) {
		for _, c := range slices.Concat(more...) {
			all = append(all, fault{c, class, err})
		}
	}
	add(1, api.ErrForm,
		changes("Code", setCode, "", "c", "cl", "Cl", "C1", "C-", " C", "C ", "ABCDE", "ΑΒΓΔΕ", "\u03a2", "\u0390", "\u03aa", "@", "[", "\xff", "C\xff", "\ufffd", "CLF26", strings.Repeat("A", 1<<16)))
	add(2, api.ErrArg,
		changes("Months", setMonths, nil, []int{}, []int{0}, []int{1199}, []int{0, 1, 2, 3, 4, 5, 6}, make([]int, 1<<16)),
		changes("Months", setMonths, []int{0, 0}, []int{5, 5}, []int{1199, 1199}, []int{1, 0}, []int{1199, 0}, []int{0, 1, 1}, []int{0, 0, 1}, []int{2, 1, 3}, []int{1, 3, 2}, []int{0, 1, 2, 3, 5, 4}, []int{0, 1, 2, 3, 4, 4}),
		changes("Months", setMonths, []int{-1, 0}, []int{-1, 1199}, []int{-2, -1}, []int{-1, 0, 1}, []int{0, 1200}, []int{1199, 1200}, []int{1200, 1201}, []int{0, 1, 1200}, []int{0, -1}, []int{0, -1, 1}),
		changes("Months", setMonths, []int{math.MinInt, 0}, []int{0, math.MaxInt}, []int{math.MinInt, math.MaxInt}, []int{math.MaxInt, math.MinInt}, []int{0, math.MaxInt, 1}, []int{0, math.MinInt, 1}, []int{math.MaxInt, math.MaxInt}))
	add(3, api.ErrTick,
		changes("Tick", setTick, 0, -1, -5, -1000, 1001, 1005, 2000, 1000000), changes("Tick", setTick, far...),
		changes("Low", setLow, -101, -99, -1, 1, 199, math.MinInt64, math.MinInt64+1, math.MaxInt64-1, -1000001, 1000001),
		changes("High", setHigh, 199, 201, -99, -101, 1, math.MaxInt64-1, math.MinInt64, -1000001, 1000001),
		changes("Wide", setWide, 1, 4, 6, 39, 299, 301, -1, -4, math.MaxInt64-1, math.MinInt64),
		changes("Settle", setSettle, []int64{1, 0, 35}, []int64{0, -1, 35}, []int64{0, 35, 4}, []int64{0, 0, 201}, []int64{-101, 0, 0}, []int64{1}, []int64{0, 0, 0, 1}, []int64{math.MaxInt64 - 1, 0, 0}, []int64{0, 0, math.MinInt64}))
	add(4, api.ErrBand,
		changes("Low", setLow, 200, 205, 1000000, -1000005, -2000000, math.MinInt64+3, math.MaxInt64-2),
		changes("High", setHigh, -100, -105, -1000000, 1000005, 2000000, math.MinInt64+3, math.MaxInt64-2),
		changes("Low, High", setBand, [2]int64{0, 0}, [2]int64{5, 0}, [2]int64{-1000000, -1000000}, [2]int64{1000000, 1000000}, [2]int64{200, -100}, [2]int64{-1000005, 1000005}, [2]int64{-1000010, -1000005}, [2]int64{1000005, 1000010}, [2]int64{math.MinInt64 + 3, math.MaxInt64 - 2}, [2]int64{math.MaxInt64 - 2, math.MinInt64 + 3}),
		changes("Wide", setWide, -5, -40, -300, 305, 1000, 1000000, math.MinInt64+3, math.MaxInt64-2))
	add(5, api.ErrArg,
		changes("Settle", setSettle, nil, []int64{}, []int64{0}, []int64{0, 0}, []int64{0, 0, 0, 0}, make([]int64, 6), make([]int64, 7), make([]int64, 1<<16)),
		changes("Settle", setSettle, []int64{-105, 0, 0}, []int64{0, -105, 0}, []int64{0, 0, -105}, []int64{205, 0, 0}, []int64{0, 205, 0}, []int64{0, 0, 205}, []int64{math.MinInt64 + 3, 0, 0}, []int64{0, 0, math.MaxInt64 - 2}))
	add(6, api.ErrKind,
		changes("Rule", setRule, 0, 4, -1, 5, 256, 257, math.MinInt, math.MaxInt))
	add(7, api.ErrQty,
		changes("Top", setTop, -1, 1000001), changes("Top", setTop, far...),
		changes("Least", setLeast, 0, -1, 1001), changes("Least", setLeast, far...),
		changes("Part", setPart, -1, 101), changes("Part", setPart, far...))
	return all
}

// someFaults returns two faults of each class, the first and the last.
func someFaults() []fault {
	var some []fault
	all := faults()
	for i, f := range all {
		if i == 0 || i == len(all)-1 || all[i-1].class != f.class || all[i+1].class != f.class {
			some = append(some, f)
		}
	}
	return some
}

// invalid returns products that are not valid: of each number of months with each fault that Check finds whatever the months are, and the product without anything.
func invalid() []api.Product {
	all := []api.Product{{}}
	for n := 2; n <= api.MaxExp; n++ {
		for _, f := range faults() {
			p := product(n)
			f.do(&p)
			if f.class != 5 || len(p.Settle) != n {
				all = append(all, p)
			}
		}
		for i := range n {
			p := product(n)
			p.Settle[i] = p.High + p.Tick
			all = append(all, p)
		}
	}
	return all
}

// tell returns p for a message, cut short where its lists are long.
func tell(p api.Product) string {
	return fmt.Sprintf("%.300s", fmt.Sprintf("%+v", p))
}

func checkCheck(t *testing.T, what string, p api.Product, want api.Errno) {
	t.Helper()
	if got := refdata.Check(p); got != want {
		t.Errorf("P5.1: Check of a product with %s: %d, want %d (%s)", what, int(got), int(want), tell(p))
	}
}

func checkCount(t *testing.T, p api.Product, want int) {
	t.Helper()
	if got := refdata.Count(p); got != want {
		t.Errorf("P5.2: Count: %d, want %d (%s)", got, want, tell(p))
	}
}

func checkLegs(t *testing.T, p api.Product, inst, wantNear, wantFar int, want bool) {
	t.Helper()
	if near, far, ok := refdata.Legs(p, inst); near != wantNear || far != wantFar || ok != want {
		t.Errorf("P5.2: Legs(%d): %d, %d, %v, want %d, %d, %v (%s)", inst, near, far, ok, wantNear, wantFar, want, tell(p))
	}
}

func checkSpread(t *testing.T, p api.Product, near, far, wantInst int, want bool) {
	t.Helper()
	if inst, ok := refdata.Spread(p, near, far); inst != wantInst || ok != want {
		t.Errorf("P5.2: Spread(%d, %d): %d, %v, want %d, %v (%s)", near, far, inst, ok, wantInst, want, tell(p))
	}
}

func checkName(t *testing.T, p api.Product, inst int, want string) {
	t.Helper()
	if got := refdata.Name(p, inst); got != want {
		t.Errorf("P5.2: Name(%d): %+q, want %+q (%s)", inst, got, want, tell(p))
	}
}

func checkFind(t *testing.T, p api.Product, name string, wantInst int, want bool) {
	t.Helper()
	if inst, ok := refdata.Find(p, name); inst != wantInst || ok != want {
		t.Errorf("P5.2: Find(%.40q): %d, %v, want %d, %v (%s)", name, inst, ok, wantInst, want, tell(p))
	}
}

func checkPrice(t *testing.T, p api.Product, inst int, price int64, want api.Errno) {
	t.Helper()
	if got := refdata.Price(p, inst, price); got != want {
		t.Errorf("P5.2: Price(%d, %d): %d, want %d (%s)", inst, price, int(got), int(want), tell(p))
	}
}

// instrumentNames returns the names of a product's instruments in the order of their numbers.
func instrumentNames(p api.Product) []string {
	var names []string
	for i := range p.Months {
		names = append(names, p.Code+monthNames[i])
	}
	for _, pair := range pairs[len(p.Months)] {
		names = append(names, p.Code+monthNames[pair[0]]+"-"+p.Code+monthNames[pair[1]])
	}
	return names
}

// noInstruments returns numbers of which p has no instrument.
func noInstruments(p api.Product) []int {
	count := len(p.Months) + len(pairs[len(p.Months)])
	return []int{-1, -2, -count, count, count + 1, 2 * count, 1000, -1000, 1 << 32, -1 << 32, math.MinInt, math.MinInt + 1, math.MaxInt, math.MaxInt - 1}
}

func TestCheckOfValidProducts(t *testing.T) {
	for _, p := range products() {
		checkCheck(t, "nothing wrong", p, api.OK)
	}
}

// TestCheckAtTheEnds: each value from the ends of what is valid, one at a time (P5.1).
func TestCheckAtTheEnds(t *testing.T) {
	valid := slices.Concat(
		changes("Code", setCode, "A", "Z", "Α", "Ω", "Ρ", "Σ", "ZZZZ", "ΑΡΣΩ"),
		changes("Tick", setTick, 1, 5),
		changes("Low", setLow, -105, -1000000, -999995),
		changes("High", setHigh, 205, 1000000, 999995),
		changes("Low, High", setBand, [2]int64{-1000000, 1000000}),
		changes("Wide", setWide, 0, 5, 295, 300),
		changes("Settle", setSettle, []int64{-100, -100, -100}, []int64{200, 200, 200}, []int64{-95, 0, 195}, []int64{200, 5, -100}),
		changes("Rule", setRule, api.First, api.Share, api.Mixed, 1, 2, 3),
		changes("Top", setTop, 0, 1, 999999, 1000000),
		changes("Least", setLeast, 1, 2, 999, 1000),
		changes("Part", setPart, 0, 1, 99, 100))
	for _, c := range valid {
		checkCheck(t, c.name, with(c.do), api.OK)
	}
	for _, months := range [][]int{{0, 1}, {0, 1199}, {1198, 1199}, {0, 1, 2}, {0, 1, 2, 3}, {1195, 1196, 1197, 1198, 1199}, {0, 1, 2, 3, 4, 5}, {1194, 1195, 1196, 1197, 1198, 1199}, {0, 3, 7, 100, 1000, 1199}} {
		p := product(len(months))
		p.Months = months
		checkCheck(t, fmt.Sprintf("Months %v", months), p, api.OK)
	}
}

// TestCheckOfEachMonth: each month from two below 0 to two beyond MaxMonth, alone against the others and in each place (P5.1).
func TestCheckOfEachMonth(t *testing.T) {
	for month := -2; month <= api.MaxMonth+2; month++ {
		for place := range 3 {
			p := product(3)
			p.Months = []int{100, 200, 300}
			p.Months[place] = month
			ordered := p.Months[0] < p.Months[1] && p.Months[1] < p.Months[2]
			want := api.OK
			if month < 0 || month > 1199 || !ordered {
				want = api.ErrArg
			}
			checkCheck(t, fmt.Sprintf("Months %v", p.Months), p, want)
		}
	}
}

// TestCheckOfNumbersOfMonths: as many settlement prices as months, whatever their number (P5.1).
func TestCheckOfNumbersOfMonths(t *testing.T) {
	for months := range 10 {
		for settles := range 10 {
			p := product(2)
			p.Months, p.Settle = make([]int, months), make([]int64, settles)
			for i := range months {
				p.Months[i] = i
			}
			want := api.OK
			if months < 2 || months > 6 || settles != months {
				want = api.ErrArg
			}
			checkCheck(t, fmt.Sprintf("%d Months and %d elements of Settle", months, settles), p, want)
		}
	}
}

// TestCheckOfEachTick: the prices of the product are multiples of each Tick, or all but one of them (P5.1).
func TestCheckOfEachTick(t *testing.T) {
	for tick := int64(-2); tick <= 1003; tick++ {
		p := product(3)
		p.Tick, p.Low, p.High, p.Wide = tick, -3*tick, 7*tick, 2*tick
		p.Settle = []int64{-3 * tick, 0, 7 * tick}
		want := api.OK
		if tick < 1 || tick > 1000 {
			want = api.ErrTick
		}
		checkCheck(t, fmt.Sprintf("Tick %d", tick), p, want)
		if tick < 2 {
			continue
		}
		for _, off := range []int64{1, -1, tick - 1, 1 - tick, tick + 1, -tick - 1} {
			for i, price := range []*int64{&p.Low, &p.High, &p.Wide, &p.Settle[0], &p.Settle[1], &p.Settle[2]} {
				*price += off
				checkCheck(t, fmt.Sprintf("Tick %d and price %d off it by %d", tick, i, off), p, api.ErrTick)
				*price -= off
			}
		}
	}
}

// TestCheckOfTheWidestBand: at the ends of MaxPrice there is a product, one Tick beyond them there is none (P5.1).
func TestCheckOfTheWidestBand(t *testing.T) {
	for _, tick := range []int64{1, 2, 5, 10, 1000} {
		widest := product(2)
		widest.Tick, widest.Low, widest.High, widest.Wide, widest.Settle = tick, -1000000, 1000000, 2000000, []int64{-1000000, 1000000}
		checkCheck(t, "the widest band", widest, api.OK)
		for _, c := range slices.Concat(
			changes("Low", setLow, -1000000-tick), changes("High", setHigh, 1000000+tick), changes("Wide", setWide, 2000000+tick, -tick),
			changes("Low", setLow, 1000000, 1000000+tick), changes("High", setHigh, -1000000, -1000000-tick)) {
			p := widest
			c.do(&p)
			checkCheck(t, fmt.Sprintf("Tick %d and %s", tick, c.name), p, api.ErrBand)
		}
		for _, high := range []int64{-1000000 + tick, 0, 1000000} {
			p := widest
			p.High, p.Wide, p.Settle = high, high-p.Low, []int64{p.Low, high}
			checkCheck(t, fmt.Sprintf("Tick %d and High %d", tick, high), p, api.OK)
			p.Wide += tick
			checkCheck(t, fmt.Sprintf("Tick %d, High %d and Wide %d", tick, high, p.Wide), p, api.ErrBand)
		}
	}
}

// TestCheckOfGreatNumbers: with the Tick 1 no number is off it, so none of the far ones is refused for that (P5.1).
func TestCheckOfGreatNumbers(t *testing.T) {
	for _, n := range far {
		for _, r := range []struct {
			name string
			set  func(p *api.Product, n int64)
			want api.Errno
		}{
			{"Tick", setTick, api.ErrTick},
			{"Low", setLow, api.ErrBand},
			{"High", setHigh, api.ErrBand},
			{"Wide", setWide, api.ErrBand},
			{"Settle", func(p *api.Product, n int64) { p.Settle[1] = n }, api.ErrArg},
			{"Top", setTop, api.ErrQty},
			{"Least", setLeast, api.ErrQty},
			{"Part", setPart, api.ErrQty},
			{"all", func(p *api.Product, n int64) {
				p.Low, p.High, p.Wide, p.Top, p.Least, p.Part, p.Settle = n, n, n, n, n, n, []int64{n, n, n}
			}, api.ErrBand},
			{"Low, High as far", func(p *api.Product, n int64) { p.Low, p.High = n, ^n }, api.ErrBand},
		} {
			p := product(3)
			p.Tick = 1
			r.set(&p, n)
			checkCheck(t, fmt.Sprintf("%s %d", r.name, n), p, r.want)
			// if High - Low wraps round, it may come to -1 too
			p.Wide = -1
			want := api.ErrBand
			if r.want == api.ErrTick {
				want = api.ErrTick
			}
			checkCheck(t, fmt.Sprintf("%s %d and Wide -1", r.name, n), p, want)
		}
	}
}

// TestCheckOfEachFault: each error alone (P5.1).
func TestCheckOfEachFault(t *testing.T) {
	for _, f := range faults() {
		checkCheck(t, f.name, with(f.do), f.err)
	}
}

// TestCheckOfTwoFaults: the first error of the list is told, whatever else is wrong (P5.1, R8).
func TestCheckOfTwoFaults(t *testing.T) {
	all := faults()
	for _, first := range all {
		for _, second := range all {
			if first.class >= second.class {
				continue
			}
			// the first fault is done last, so that the other one can't undo it
			p := with(func(p *api.Product) { second.do(p); first.do(p) })
			checkCheck(t, first.name+" and "+second.name, p, first.err)
		}
	}
}

// TestCheckOfManyFaults: of each choice of classes the first is told (P5.1, R8).
func TestCheckOfManyFaults(t *testing.T) {
	some := someFaults()
	for chosen := 1; chosen < 1<<len(some); chosen++ {
		p := product(3)
		var names []string
		want := api.OK
		for i := len(some) - 1; i >= 0; i-- {
			if chosen>>i&1 == 1 {
				some[i].do(&p)
				names = append(names, some[i].name)
				want = some[i].err
			}
		}
		checkCheck(t, strings.Join(names, " and "), p, want)
	}
}

func TestCheckOfNothing(t *testing.T) {
	checkCheck(t, "nothing at all", api.Product{}, api.ErrForm)
	checkCheck(t, "a code alone", api.Product{Code: "CL"}, api.ErrArg)
	checkCheck(t, "a code and months alone", api.Product{Code: "CL", Months: []int{0, 1}}, api.ErrTick)
	checkCheck(t, "no band", api.Product{Code: "CL", Months: []int{0, 1}, Tick: 1}, api.ErrBand)
	checkCheck(t, "no settlement", api.Product{Code: "CL", Months: []int{0, 1}, Tick: 1, High: 1}, api.ErrArg)
	checkCheck(t, "no rule", api.Product{Code: "CL", Months: []int{0, 1}, Tick: 1, High: 1, Settle: []int64{0, 1}}, api.ErrKind)
	checkCheck(t, "no least share", api.Product{Code: "CL", Months: []int{0, 1}, Tick: 1, High: 1, Settle: []int64{0, 1}, Rule: api.First}, api.ErrQty)
	checkCheck(t, "the least of each number", api.Product{Code: "CL", Months: []int{0, 1}, Tick: 1, High: 1, Settle: []int64{0, 1}, Rule: api.First, Least: 1}, api.OK)
}

// TestEmptyAndNilAreAlike: both lists have no elements (R4).
func TestEmptyAndNilAreAlike(t *testing.T) {
	checkCheck(t, "nil Months", with(func(p *api.Product) { p.Months = nil }), api.ErrArg)
	checkCheck(t, "empty Months", with(func(p *api.Product) { p.Months = []int{} }), api.ErrArg)
	checkCheck(t, "nil Settle", with(func(p *api.Product) { p.Settle = nil }), api.ErrArg)
	checkCheck(t, "empty Settle", with(func(p *api.Product) { p.Settle = []int64{} }), api.ErrArg)
	checkCheck(t, "nil lists", with(func(p *api.Product) { p.Months, p.Settle = nil, nil }), api.ErrArg)
	checkCheck(t, "empty lists", with(func(p *api.Product) { p.Months, p.Settle = []int{}, []int64{} }), api.ErrArg)
}

func TestCount(t *testing.T) {
	for n, want := range map[int]int{2: 3, 3: 6, 4: 10, 5: 15, 6: 21} {
		checkCount(t, product(n), want)
	}
	for _, p := range products() {
		checkCount(t, p, len(p.Months)+len(pairs[len(p.Months)]))
	}
}

func TestLegs(t *testing.T) {
	checkLegs(t, product(3), 4, 0, 2, true)
	checkLegs(t, product(3), 3, 0, 1, true)
	for _, p := range products() {
		n := len(p.Months)
		for month := range n {
			checkLegs(t, p, month, month, month, false)
		}
		for i, pair := range pairs[n] {
			checkLegs(t, p, n+i, pair[0], pair[1], true)
		}
		for _, inst := range noInstruments(p) {
			checkLegs(t, p, inst, 0, 0, false)
		}
	}
}

func TestSpread(t *testing.T) {
	for _, p := range products() {
		n := len(p.Months)
		numbers := map[[2]int]int{}
		for i, pair := range pairs[n] {
			numbers[pair] = n + i
		}
		for near := -3; near <= n+20; near++ {
			for far := -3; far <= n+20; far++ {
				inst, ok := numbers[[2]int{near, far}]
				checkSpread(t, p, near, far, inst, ok)
			}
		}
		wrong := []int{math.MinInt, math.MinInt + 1, math.MaxInt, math.MaxInt - 1, 1 << 32, 1<<32 + 1, -1 << 32, 312, 323, 1199}
		for _, i := range wrong {
			for j := range n {
				checkSpread(t, p, i, j, 0, false)
				checkSpread(t, p, j, i, 0, false)
			}
			for _, j := range wrong {
				checkSpread(t, p, i, j, 0, false)
			}
		}
	}
}

// TestSpreadIsLegsBack: the spread of a spread's months is that spread, and no other pair of months has its number (P5.2).
func TestSpreadIsLegsBack(t *testing.T) {
	for _, p := range products() {
		n := len(p.Months)
		for inst := n; inst < refdata.Count(p); inst++ {
			near, far, _ := refdata.Legs(p, inst)
			checkSpread(t, p, near, far, inst, true)
			checkSpread(t, p, far, near, 0, false)
		}
	}
}

func TestName(t *testing.T) {
	p := product(6)
	for inst, want := range []string{
		"CLF00", "CLZ00", "CLF01", "CLF26", "CLZ26", "CLZ99",
		"CLF00-CLZ00", "CLF00-CLF01", "CLF00-CLF26", "CLF00-CLZ26", "CLF00-CLZ99",
		"CLZ00-CLF01", "CLZ00-CLF26", "CLZ00-CLZ26", "CLZ00-CLZ99",
		"CLF01-CLF26", "CLF01-CLZ26", "CLF01-CLZ99",
		"CLF26-CLZ26", "CLF26-CLZ99", "CLZ26-CLZ99",
	} {
		checkName(t, p, inst, want)
	}
	for _, p := range products() {
		for inst, want := range instrumentNames(p) {
			checkName(t, p, inst, want)
		}
		for _, inst := range noInstruments(p) {
			checkName(t, p, inst, "")
		}
	}
}

func TestFind(t *testing.T) {
	for _, p := range products() {
		own := map[string]int{}
		for inst, name := range instrumentNames(p) {
			own[name] = inst
			checkFind(t, p, name, inst, true)
			for _, wrong := range []string{strings.ToLower(name), name + " ", " " + name, name + "\x00", name + name, name[1:], name[:len(name)-1], name + "-", "-" + name, name + "-" + name, name + "\xff"} {
				checkFind(t, p, wrong, 0, false)
			}
		}
		// the names of other products, with more months or another code, where they are not also its own
		for _, other := range products() {
			for _, name := range instrumentNames(other) {
				inst, ok := own[name]
				checkFind(t, p, name, inst, ok)
			}
		}
		for _, wrong := range []string{
			"", "-", p.Code, p.Code + "F", p.Code + "G00", p.Code + "F02", p.Code + "Z98", p.Code + "A00", "F00", "XXF00", p.Code + p.Code + "F00",
			p.Code + "Z00-" + p.Code + "F00", p.Code + "F00-" + p.Code + "F00", p.Code + "F00-" + p.Code + "G00", p.Code + "G00-" + p.Code + "Z00", p.Code + "F00-XXZ00", "XXF00-" + p.Code + "Z00",
			p.Code + "F00-Z00", p.Code + "F00" + p.Code + "Z00", p.Code + "F00--" + p.Code + "Z00", p.Code + "F00-" + p.Code + "Z00-" + p.Code + "F01", "\xff", "0", "1", strings.Repeat(p.Code, 1<<16),
		} {
			checkFind(t, p, wrong, 0, false)
		}
	}
}

func TestFindIsNameBack(t *testing.T) {
	for _, p := range products() {
		seen := map[string]bool{}
		for inst := range refdata.Count(p) {
			name := refdata.Name(p, inst)
			if seen[name] {
				t.Errorf("P5.2: %+q names two instruments (%s)", name, tell(p))
			}
			seen[name] = true
			checkFind(t, p, name, inst, true)
		}
	}
}

func TestPrice(t *testing.T) {
	for _, p := range products() {
		for inst := range len(p.Months) + len(pairs[len(p.Months)]) {
			low, high := int64(-40), int64(40)
			if inst < len(p.Months) {
				low, high = -100, 200
			}
			for price := int64(-320); price <= 320; price++ {
				want := api.OK
				if price < low || price > high {
					want = api.ErrBand
				}
				if price%5 != 0 {
					want = api.ErrTick
				}
				checkPrice(t, p, inst, price, want)
			}
		}
	}
}

// TestPriceOfEachTick: on the Tick and off it, at the ends of both bands and one Tick beyond them (P5.2).
func TestPriceOfEachTick(t *testing.T) {
	for tick := int64(1); tick <= 1000; tick++ {
		p := product(3)
		p.Tick, p.Low, p.High, p.Wide, p.Settle = tick, -3*tick, 7*tick, 2*tick, []int64{0, 0, 0}
		for _, r := range []struct {
			inst      int
			low, high int64
		}{{0, p.Low, p.High}, {2, p.Low, p.High}, {3, -p.Wide, p.Wide}, {5, -p.Wide, p.Wide}} {
			checkPrice(t, p, r.inst, 0, api.OK)
			checkPrice(t, p, r.inst, r.low, api.OK)
			checkPrice(t, p, r.inst, r.high, api.OK)
			checkPrice(t, p, r.inst, r.low-tick, api.ErrBand)
			checkPrice(t, p, r.inst, r.high+tick, api.ErrBand)
			if tick == 1 {
				continue
			}
			for _, off := range []int64{1, -1, tick - 1, 1 - tick} {
				for _, from := range []int64{0, r.low, r.high, r.low - tick, r.high + tick} {
					checkPrice(t, p, r.inst, from+off, api.ErrTick)
				}
			}
		}
	}
}

func TestPriceOfGreatNumbers(t *testing.T) {
	for tick, wants := range map[int64]map[int64]api.Errno{
		1:    {math.MinInt64: api.ErrBand, math.MinInt64 + 1: api.ErrBand, math.MaxInt64 - 1: api.ErrBand, math.MaxInt64: api.ErrBand, -1 << 40: api.ErrBand, 1 << 40: api.ErrBand},
		2:    {math.MinInt64: api.ErrBand, math.MinInt64 + 1: api.ErrTick, math.MaxInt64 - 1: api.ErrBand, math.MaxInt64: api.ErrTick},
		7:    {math.MinInt64: api.ErrTick, math.MinInt64 + 1: api.ErrBand, math.MinInt64 + 2: api.ErrTick, math.MaxInt64 - 1: api.ErrTick, math.MaxInt64: api.ErrBand},
		512:  {math.MinInt64: api.ErrBand, math.MinInt64 + 1: api.ErrTick, math.MaxInt64 - 511: api.ErrBand, math.MaxInt64: api.ErrTick},
		1000: {math.MinInt64: api.ErrTick, math.MinInt64 + 808: api.ErrBand, math.MaxInt64 - 807: api.ErrBand, math.MaxInt64: api.ErrTick},
	} {
		p := product(3)
		p.Tick, p.Low, p.High, p.Wide, p.Settle = tick, -3*tick, 7*tick, 2*tick, []int64{0, 0, 0}
		for price, want := range wants {
			for inst := range 6 {
				checkPrice(t, p, inst, price, want)
			}
			for _, inst := range noInstruments(p) {
				checkPrice(t, p, inst, price, api.ErrInst)
			}
		}
	}
}

// TestPriceOfNarrowAndWideSpreads: spreads have their own band, which may be one price and may reach beyond that of months (P5.2).
func TestPriceOfNarrowAndWideSpreads(t *testing.T) {
	for _, r := range []struct {
		low, high, wide, price int64
		month, spread          api.Errno
	}{
		{-100, 200, 0, 0, api.OK, api.OK},
		{-100, 200, 0, 5, api.OK, api.ErrBand},
		{-100, 200, 0, -5, api.OK, api.ErrBand},
		{-100, 200, 0, 1, api.ErrTick, api.ErrTick},
		{-100, 200, 300, 300, api.ErrBand, api.OK},
		{-100, 200, 300, -300, api.ErrBand, api.OK},
		{-100, 200, 300, 305, api.ErrBand, api.ErrBand},
		{-100, 200, 300, -305, api.ErrBand, api.ErrBand},
		{50, 60, 5, 0, api.ErrBand, api.OK},
		{50, 60, 5, 50, api.OK, api.ErrBand},
		{-60, -50, 5, -50, api.OK, api.ErrBand},
		{-60, -50, 10, -10, api.ErrBand, api.OK},
		{-60, -50, 10, 10, api.ErrBand, api.OK},
		{-1000000, 1000000, 2000000, 2000000, api.ErrBand, api.OK},
		{-1000000, 1000000, 2000000, -2000000, api.ErrBand, api.OK},
		{-1000000, 1000000, 2000000, 2000005, api.ErrBand, api.ErrBand},
		{-1000000, 1000000, 2000000, -2000005, api.ErrBand, api.ErrBand},
		{-1000000, 1000000, 0, -1000000, api.OK, api.ErrBand},
		{-1000000, 1000000, 0, 1000000, api.OK, api.ErrBand},
		{-1000000, 1000000, 0, 1000005, api.ErrBand, api.ErrBand},
	} {
		p := product(3)
		p.Low, p.High, p.Wide, p.Settle = r.low, r.high, r.wide, []int64{r.low, r.low, r.high}
		for inst := range 3 {
			checkPrice(t, p, inst, r.price, r.month)
			checkPrice(t, p, 3+inst, r.price, r.spread)
		}
	}
}

// TestPriceErrors: each error before those after it (P5.2, R8).
func TestPriceErrors(t *testing.T) {
	// on the Tick and in both bands, beyond them, off the Tick, both
	prices := []int64{0, 1000, 1, 1001, math.MinInt64, math.MaxInt64}
	for _, p := range products() {
		for _, inst := range noInstruments(p) {
			for _, price := range prices {
				checkPrice(t, p, inst, price, api.ErrInst)
			}
		}
		for inst := range refdata.Count(p) {
			checkPrice(t, p, inst, 1001, api.ErrTick)
			checkPrice(t, p, inst, 1000, api.ErrBand)
		}
	}
	for _, p := range invalid() {
		for inst := -2; inst <= 22; inst++ {
			for _, price := range prices {
				checkPrice(t, p, inst, price, api.ErrArg)
			}
		}
	}
}

// TestInstrumentsOfInvalidProducts: they have none (P5.2).
func TestInstrumentsOfInvalidProducts(t *testing.T) {
	for _, p := range invalid() {
		if refdata.Check(p) == api.OK {
			t.Errorf("P5.1: Check: 0, want an error (%s)", tell(p))
		}
		checkCount(t, p, 0)
		for inst := -2; inst <= 22; inst++ {
			checkLegs(t, p, inst, 0, 0, false)
			checkName(t, p, inst, "")
		}
		for near := -1; near <= 6; near++ {
			for far := -1; far <= 6; far++ {
				checkSpread(t, p, near, far, 0, false)
			}
		}
		for _, name := range append(instrumentNames(product(6)), "", "-", "F00", "Z00", "-F00", "F00-F00", "cF00", "ABCDEF00") {
			checkFind(t, p, name, 0, false)
		}
		for inst := range p.Months[:min(len(p.Months), 7)] {
			checkFind(t, p, p.Code+monthNames[inst%6], 0, false)
		}
	}
}

// callAll asks p of everything, with arguments that it has and that it has not.
func callAll(p api.Product) string {
	answers := fmt.Sprint(int(refdata.Check(p)), refdata.Count(p))
	for inst := -1; inst <= 22; inst++ {
		near, far, ok := refdata.Legs(p, inst)
		name := refdata.Name(p, inst)
		found, has := refdata.Find(p, name)
		answers += fmt.Sprint(" ", near, far, ok, name, found, has)
		for _, price := range []int64{0, 1, -40, 200, 205} {
			answers += fmt.Sprint(" ", int(refdata.Price(p, inst, price)))
		}
	}
	for near := -1; near <= 6; near++ {
		for far := -1; far <= 6; far++ {
			inst, ok := refdata.Spread(p, near, far)
			answers += fmt.Sprint(" ", inst, ok)
		}
	}
	return answers
}

// roomy returns p with lists that are the same but have spare capacity, filled with those values.
func roomy(p api.Product, month int, settle int64) api.Product {
	months := append(slices.Clone(p.Months), month, month, month, month)
	settles := append(slices.Clone(p.Settle), settle, settle, settle, settle)
	p.Months, p.Settle = months[:len(p.Months)], settles[:len(p.Settle)]
	return p
}

// TestSlicesStay: no call writes to the lists of a product or to their spare capacity, and none reads that (R2, R5).
func TestSlicesStay(t *testing.T) {
	all := []api.Product{{}, with(func(p *api.Product) { p.Months = []int{3, 2, 1} }), with(func(p *api.Product) { p.Settle = []int64{200, 0} })}
	for n := 2; n <= api.MaxExp; n++ {
		all = append(all, product(n))
	}
	for _, plain := range all {
		for _, spare := range []int{-7, 0, 1199, 5000} {
			p := roomy(plain, spare, int64(spare))
			months, settles := slices.Clone(p.Months[:cap(p.Months)]), slices.Clone(p.Settle[:cap(p.Settle)])
			if got, want := callAll(p), callAll(plain); got != want {
				t.Errorf("R5: with spare capacity: %s, without: %s (%s)", got, want, tell(p))
			}
			if !slices.Equal(p.Months[:cap(p.Months)], months) || !slices.Equal(p.Settle[:cap(p.Settle)], settles) {
				t.Errorf("R2: the lists were changed (%s)", tell(p))
			}
		}
	}
}

// TestNothingIsKept: what a product was when an earlier call saw it does not matter (R2, R4).
func TestNothingIsKept(t *testing.T) {
	p := product(3)
	before := callAll(p)
	p.Months[2], p.Settle[0] = 11, 201
	if got, want := callAll(p), callAll(with(func(p *api.Product) { p.Months[2], p.Settle[0] = 11, 201 })); got != want || got == before {
		t.Errorf("R4: after a change: %s, want %s", got, want)
	}
	p.Months[2], p.Settle[0] = 12, -100
	if got := callAll(p); got != before {
		t.Errorf("R4: after the change was taken back: %s, want %s", got, before)
	}
	callAll(product(6))
	callAll(api.Product{})
	if got := callAll(p); got != before {
		t.Errorf("R4: after calls for other products: %s, want %s", got, before)
	}
}

func TestNamesAreNewMemory(t *testing.T) {
	p := product(3)
	p.Code = strings.Clone("CL")
	for inst := range 6 {
		first, second := refdata.Name(p, inst), refdata.Name(p, inst)
		if unsafe.StringData(first) == unsafe.StringData(p.Code) || unsafe.StringData(first) == unsafe.StringData(second) {
			t.Errorf("R2: Name(%d): %+q shares its memory", inst, first)
		}
	}
}
