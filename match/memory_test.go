package match_test

import (
	"fmt"
	"slices"
	"testing"

	"cornhill/api"
	"cornhill/book"
	"cornhill/implied"
	"cornhill/match"
)

// mess returns orders of each instrument and side, with several levels and several orders on a level.
func mess(months int) []o {
	var l []o
	for inst := range months * (months + 1) / 2 {
		for _, side := range sides {
			for i := range int64(4) {
				l = append(l, o{inst, side, (i+1)/2*5 - int64(inst%3*5) + int64(side*10), i + 2})
			}
		}
	}
	return l
}

// spoil writes into all of a list, and into the room behind it.
func spoil[T any](l []T, value T) {
	l = l[:cap(l)]
	for i := range l {
		l[i] = value
	}
}

// TestAnswersAreTheCallers: who writes into them changes nothing (R2).
func TestAnswersAreTheCallers(t *testing.T) {
	for _, rule := range rules {
		p := with(t, ruled(3, rule), mess(3)...)
		before := viewOf(p.state, p.model.p)
		for inst := range 6 {
			for _, side := range sides {
				spoil(p.state.Ladder(inst, side), book.Level{Price: 5, Qty: 99, Count: 99})
			}
			spoil(p.state.Orders(inst), book.Order{ID: 1, Side: 1, Price: 5, Qty: 99, Top: true})
		}
		spoil(p.state.Tops(), implied.Top{Has: [2]bool{true, true}, Price: [2]int64{5, 5}, Qty: [2]int64{99, 99}})
		if !before.same(viewOf(p.state, p.model.p)) {
			t.Errorf("R2: what was returned is the State's own memory")
		}
		p.check()
		for inst := range 6 {
			steps, _ := p.run(inst, api.Buy, 30, 9)
			for _, step := range steps {
				spoil(step.Fills, match.Fill{ID: 1, Inst: 1, Side: 1, Price: 5, Qty: 99, Left: 99})
			}
			spoil(steps, match.Step{})
			p.check()
		}
	}
}

// TestStepsApart: no two lists of the Fills of a Run share memory, nor those of two Runs (R2).
func TestStepsApart(t *testing.T) {
	for _, rule := range rules {
		p := with(t, ruled(3, rule), mess(3)...)
		var all []match.Step
		for inst := range 6 {
			for _, side := range sides {
				steps, _ := p.run(inst, side, limitOf(side), 12)
				all = append(all, steps...)
			}
		}
		if len(all) < 20 {
			t.Fatalf("only %d Steps", len(all))
		}
		for i, step := range all {
			var others string
			rest := slices.Concat(all[:i], all[i+1:])
			for _, other := range rest {
				others += fmt.Sprint(other.Fills)
			}
			spoil(step.Fills, match.Fill{ID: -int64(i)})
			var after string
			for _, other := range rest {
				after += fmt.Sprint(other.Fills)
			}
			if others != after {
				t.Fatalf("R2: the Fills of two Steps share memory")
			}
		}
		p.check()
	}
}

// TestProductIsCopied: a State goes on with the product that New was given, whatever becomes of its lists (R2).
func TestProductIsCopied(t *testing.T) {
	for months := 2; months <= api.MaxExp; months++ {
		given := product(months)
		p := with(t, given)
		p.model.p = product(months)
		for i := range given.Months {
			given.Months[i], given.Settle[i] = -i, 1
		}
		for i, order := range mess(months)[:20] {
			p.put(order.inst, int64(i), order.side, order.price, order.qty)
		}
		for inst := range months * (months + 1) / 2 {
			for _, side := range sides {
				p.run(inst, side, limitOf(side), 7)
				p.check()
			}
		}
	}
}

// TestArgumentsAreLeft: the product that New is given stays as it is, with the room behind its lists, whatever is done with the State (R2, R5).
func TestArgumentsAreLeft(t *testing.T) {
	for months := 2; months <= api.MaxExp; months++ {
		given := product(months)
		allMonths, allSettle := append(slices.Clone(given.Months), -7, 1199), append(slices.Clone(given.Settle), 7, 205)
		given.Months, given.Settle = allMonths[:months], allSettle[:months]
		monthsBefore, settleBefore := slices.Clone(allMonths), slices.Clone(allSettle)
		p := with(t, given, mess(months)...)
		p.model.p = product(months)
		for inst := range months * (months + 1) / 2 {
			p.run(inst, api.Sell, lowest, 5)
			p.run(inst, api.Buy, highest, 5)
		}
		p.check()
		if !slices.Equal(allMonths, monthsBefore) || !slices.Equal(allSettle, settleBefore) {
			t.Errorf("R2: %d months: the product has changed: %v, %v, were %v, %v", months, allMonths, allSettle, monthsBefore, settleBefore)
		}
	}
}

// TestStatesApart: what is done with one State is nothing to another one of the same product (R2, R4).
func TestStatesApart(t *testing.T) {
	given := product(3)
	one, other := with(t, given, mess(3)...), with(t, given, ladder(4, api.Sell)...)
	for inst := range 6 {
		for _, side := range sides {
			one.run(inst, side, limitOf(side), 5)
			one.check()
			other.check()
			other.put(inst, int64(100+10*inst+side), side, 5, 5)
			other.run(inst, side, limitOf(side), 3)
			one.check()
			other.check()
		}
	}
	third := with(t, given)
	third.check()
}

// TestSameCallsSameAnswers: two States to which the same calls go (R4).
func TestSameCallsSameAnswers(t *testing.T) {
	var told []string
	for range 2 {
		p := with(t, ruled(4, api.Mixed), mess(4)...)
		var s string
		for inst := range 10 {
			for _, side := range sides {
				s += fmt.Sprint(p.state.Could(inst, side, 15, 9), p.state.Tops())
				s += fmt.Sprint(p.state.Run(inst, side, 15, 9))
				s += fmt.Sprint(p.state.Orders(inst))
			}
		}
		told = append(told, s)
	}
	if told[0] != told[1] {
		t.Errorf("R4: %s, and then %s", told[0], told[1])
	}
}
