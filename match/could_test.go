package match_test

import (
	"testing"

	"cornhill/api"
	"cornhill/refdata"
)

// wantCould asks how much would be traded, and whether all is as it was.
func (p *pair) wantCould(inst, side int, price, qty, want int64) {
	p.t.Helper()
	before := viewOf(p.state, p.model.p)
	if got := p.could(inst, side, price, qty); got != want {
		p.t.Errorf("P16.3: %v: Could(%d, %d, %d, %d): %d, want %d", p.last(), inst, side, price, qty, got, want)
	}
	if after := viewOf(p.state, p.model.p); !before.same(after) {
		p.t.Errorf("P16.3: %v: Could(%d, %d, %d, %d): %v, was %v", p.last(), inst, side, price, qty, after, before)
	}
}

// TestCouldLevels: real levels up to the limit, with quantities up to MaxQty and beyond it (P16.3).
func TestCouldLevels(t *testing.T) {
	for _, months := range []int{2, 3, 6} {
		for inst := range refdata.Count(product(months)) {
			for _, side := range sides {
				p := with(t, product(months), ladder(inst, otherOf(side))...)
				sign := int64(1)
				if side == api.Sell {
					sign = -1
				}
				for limit, most := range map[int64]int64{0: 0, 9: 0, 10: 4, 14: 4, 15: 10, 19: 10, 20: 15, highest: 15} {
					for _, qty := range []int64{1, 4, 5, 10, 11, 15, 16, largest} {
						p.wantCould(inst, side, sign*limit, qty, min(most, qty))
					}
					for _, qty := range noQuantities {
						p.wantCould(inst, side, sign*limit, qty, 0)
					}
				}
				p.wantCould(inst, otherOf(side), limitOf(otherOf(side)), 5, 0)
			}
		}
	}
}

// TestCouldGreat: up to MaxQty where more than that stands, and nothing where more is asked, as Run trades nothing then (P16.3).
func TestCouldGreat(t *testing.T) {
	p := with(t, product(2), o{0, 2, 10, largest}, o{0, 2, 10, largest}, o{0, 2, 15, largest})
	for _, limit := range []int64{10, 15, highest} {
		p.wantCould(0, api.Buy, limit, largest-1, largest-1)
		p.wantCould(0, api.Buy, limit, largest, largest)
		p.wantCould(0, api.Buy, limit, largest+1, 0)
		p.wantCould(0, api.Buy, limit, 2*largest, 0)
		p.wantCould(0, api.Buy, limit, highest, 0)
	}
}

// TestCouldImplied: implied prices too, those of the levels behind the best ones among them, and real ones between (P16.3).
func TestCouldImplied(t *testing.T) {
	// Sell of 0 is implied at 15 (2), then at 20 (3) behind the spread's first level, and at 30 (1) behind the month's.
	p := with(t, product(2), o{2, 2, 5, 2}, o{2, 2, 10, 4}, o{1, 2, 10, 5}, o{1, 2, 20, 9}, o{0, 2, 20, 7})
	for limit, most := range map[int64]int64{14: 0, 15: 2, 19: 2, 20: 12, 29: 12, 30: 13, 200: 13, highest: 13} {
		for _, qty := range []int64{1, 2, 3, 8, 9, 10, 12, 13, 14, largest} {
			p.wantCould(0, api.Buy, limit, qty, min(most, qty))
		}
	}
	// Buy of 1 is implied by nobody: it would need Sell of the spread and Buy of 0.
	p.wantCould(1, api.Sell, lowest, 5, 0)
	p.wantCould(2, api.Buy, 200, 7, 6)
	p.wantCould(2, api.Sell, lowest, 7, 0)
}

// TestCouldAsked: one question after the other, with Runs between (P16.3, R4).
func TestCouldAsked(t *testing.T) {
	p := with(t, product(2), ladder(0, api.Sell)...)
	for range 3 {
		p.wantCould(0, api.Buy, 15, 100, 10)
		p.wantCould(0, api.Buy, 10, 100, 4)
		p.wantCould(0, api.Sell, 10, 100, 0)
	}
	p.wantRun(0, api.Buy, 15, 5, "[{10 4 false [{1 0 2 10 4 0}]} {15 1 false [{2 0 2 15 1 2}]}] 0")
	for range 3 {
		p.wantCould(0, api.Buy, 15, 100, 5)
		p.wantCould(0, api.Buy, 10, 100, 0)
	}
	p.takeAll(3)
	p.wantCould(0, api.Buy, 15, 100, 3)
	p.put(0, 9, api.Sell, 5, 8)
	p.wantCould(0, api.Buy, 15, 100, 11)
}
