package implied_test

import (
	"slices"
	"testing"

	"cornhill/api"
	"cornhill/implied"
)

// TestRoomBehindTheLists: it is neither read nor written (R2, R5).
func TestRoomBehindTheLists(t *testing.T) {
	for months := 2; months <= api.MaxExp; months++ {
		count := len(made[months])
		tops := append(low(count), top(5, 1, 5, 1), implied.Top{}, top(lowest, -1, highest, 0))
		p := product(months)
		p.Months, p.Settle = append(slices.Clone(p.Months), 1199, -3), append(slices.Clone(p.Settle), 7, 205)
		allMonths, allSettle := p.Months, p.Settle
		p.Months, p.Settle = p.Months[:months], p.Settle[:months]
		before := ask{p: api.Product{Months: allMonths, Settle: allSettle}, tops: tops}.state()
		for inst := -1; inst <= count+3; inst++ {
			for _, side := range append([]int{0, 3}, sides...) {
				a := ask{p, tops[:count], inst, side}
				if inst < 0 || inst >= count || side < api.Buy || side > api.Sell {
					checkNone(t, "with room behind the lists", a)
					continue
				}
				checkModel(t, a)
			}
		}
		if !before.same(ask{p: api.Product{Months: allMonths, Settle: allSettle}, tops: tops}.state()) {
			t.Errorf("R2: %d months: the room behind the lists has changed: %v, %v, %v", months, allMonths, allSettle, tops[count:])
		}
	}
}

// TestRoomBehindTheQuotes: Best and Show neither read nor write it (R2, R5).
func TestRoomBehindTheQuotes(t *testing.T) {
	all := list(level{20, 3}, level{20, 5}, level{10, 2}, level{20, 9}, level{30, 9}, level{5, 9}, level{highest, 1}, level{lowest, 1})
	before := slices.Clone(all)
	checkBestOn(t, all[:3], buy, 0, shown{20, 5, 2, true})
	checkBestOn(t, all[:3], sell, 2, shown{10, 2, 1, true})
	checkBestOn(t, all[:2], sell, 0, shown{20, 5, 2, true})
	if got := show(all[:0], buy); got != (shown{}) {
		t.Errorf("R5: Show of no quotes with room behind them: %v, want zeros and false", got)
	}
	if _, ok := implied.Best(all[:0], sell); ok {
		t.Error("R5: Best of no quotes with room behind them: true, want false")
	}
	if !slices.Equal(all, before) {
		t.Errorf("R2: the room behind the quotes has changed: %v, was %v", all, before)
	}
}

// spoil overwrites a list, and its spare capacity too.
func spoil(l []implied.Quote) {
	l = l[:cap(l)]
	for i := range l {
		l[i] = quote(-7, -7, -7, -7, -7, -7)
	}
}

// TestQuotesAreTheCallersOwn: they have no memory in common with the arguments or with other quotes (R2).
func TestQuotesAreTheCallersOwn(t *testing.T) {
	for name, f := range map[string]func(a ask) []implied.Quote{
		"All":    func(a ask) []implied.Quote { return a.all(t) },
		"Quotes": func(a ask) []implied.Quote { return a.quotes(t) },
	} {
		eachAsk(low, func(a ask) {
			a.p = own(a.p)
			before, want := a.state(), a.model()
			if name == "Quotes" {
				want = a.accepted(want)
			}
			first, second := f(a), f(a)
			spoil(first)
			spoil(append(f(a), implied.Quote{}))
			if !slices.Equal(second, want) || !before.same(a.state()) {
				t.Errorf("R2: %s%s: %v after other quotes were changed, want %v, the arguments are %v", name, a, second, want, a.state())
			}
			third := f(a)
			for i := range a.tops {
				a.tops[i] = top(lowest, -1, highest, -1)
			}
			for i := range a.p.Months {
				a.p.Months[i], a.p.Settle[i] = -5, -5
			}
			if !slices.Equal(third, want) {
				t.Errorf("R2: %s%s: %v after the arguments were changed, want %v", name, a, third, want)
			}
		})
	}
}

// TestBestIsACopy: it doesn't change with the list that it comes from (R2).
func TestBestIsACopy(t *testing.T) {
	l := list(level{20, 3}, level{30, 5})
	want := l[1]
	got, _ := implied.Best(l, buy)
	spoil(l)
	if got != want {
		t.Errorf("R2: Best: %v after the quotes were changed, want %v", got, want)
	}
}

// TestCallsApart: what was asked before does not matter (R4).
func TestCallsApart(t *testing.T) {
	var asks []ask
	for _, months := range []int{2, 3, 6} {
		count := len(made[months])
		for _, inst := range []int{0, months - 1, months, count - 1} {
			asks = append(asks, ask{product(months), low(count), inst, buy}, ask{product(months), masked(low(count), 0x55), inst, sell}, ask{product(months), full(count), inst, sell})
		}
	}
	wrong := []ask{{product(3), low(6), -1, buy}, {product(3), low(6), 6, sell}, {product(3), low(6), 1, 3}, {product(3), low(5), 1, sell}, {api.Product{}, low(6), 1, buy}}
	for _, before := range append(slices.Clone(asks), wrong...) {
		for _, now := range asks {
			before.all(t)
			before.quotes(t)
			checkModel(t, now)
		}
		for _, now := range wrong {
			before.quotes(t)
			checkNone(t, "after another call", now)
		}
	}
}
