package legs_test

import (
	"slices"
	"testing"

	"cornhill/api"
)

// TestRoomBehindTheLists: it is neither read nor written (R2, R5).
func TestRoomBehindTheLists(t *testing.T) {
	for months := 2; months <= api.MaxExp; months++ {
		for _, behind := range []int64{-3, 7, 195, 205} {
			p := product(months)
			allMonths, allSettle := append(slices.Clone(p.Months), int(behind), 1199), append(slices.Clone(p.Settle), behind, -behind)
			p.Months, p.Settle = allMonths[:months], allSettle[:months]
			monthsBefore, settleBefore := slices.Clone(allMonths), slices.Clone(allSettle)
			eachPrice(t, p, func(a ask) { check(t, a, a.model()) })
			for _, inst := range noSpreads(months) {
				checkRefused(t, "with room behind the lists", ask{p, inst, 0}, api.ErrInst)
			}
			checkRefused(t, "with room behind the lists", ask{p, months, 1}, api.ErrTick)
			checkRefused(t, "with room behind the lists", ask{p, months, 55}, api.ErrBand)
			fewer := p
			fewer.Months = p.Months[:months-1]
			checkRefused(t, "with a month behind the list", ask{fewer, months, 0}, api.ErrArg)
			fewer = p
			fewer.Settle = p.Settle[:months-1]
			checkRefused(t, "with a settlement behind the list", ask{fewer, months, 0}, api.ErrArg)
			if !slices.Equal(allMonths, monthsBefore) || !slices.Equal(allSettle, settleBefore) {
				t.Errorf("R2: %d months: the room behind the lists has changed: %v, %v, were %v, %v", months, allMonths, allSettle, monthsBefore, settleBefore)
			}
		}
	}
}

// TestNothingIsKept: a product whose lists change between two calls has the prices of the new ones (R2, R4).
func TestNothingIsKept(t *testing.T) {
	p := product(3)
	a := ask{p, 4, 10}
	check(t, a, right(45, 35))
	p.Settle[2] = 60
	check(t, a, right(70, 60))
	p.Settle[2] = 61
	checkRefused(t, "after a settlement has moved off the tick", a, api.ErrArg)
	p.Settle[2] = 35
	check(t, a, right(45, 35))
	p.Months[1] = 0
	checkRefused(t, "after a month has become another one", a, api.ErrArg)
}

// TestCallsApart: what was asked before does not matter (R4).
func TestCallsApart(t *testing.T) {
	var asks []ask
	var wants []answer
	for _, months := range []int{2, 3, 6} {
		for i := range spreads[months] {
			for _, price := range []int64{0, 50, -50} {
				a := ask{product(months), months + i, price}
				asks, wants = append(asks, a), append(wants, a.model())
			}
		}
		for _, a := range []ask{{product(months), months - 1, 0}, {product(months), count(months), 1}} {
			asks, wants = append(asks, a), append(wants, answer{err: api.ErrInst})
		}
		asks, wants = append(asks, ask{product(months), months, 3}), append(wants, answer{err: api.ErrTick})
		asks, wants = append(asks, ask{product(months), months, 55}), append(wants, answer{err: api.ErrBand})
		asks, wants = append(asks, ask{api.Product{}, months, 0}), append(wants, answer{err: api.ErrArg})
	}
	for _, before := range asks {
		for i, now := range asks {
			before.get(t)
			check(t, now, wants[i])
		}
	}
}
