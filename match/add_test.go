package match_test

import (
	"slices"
	"testing"

	"cornhill/api"
	"cornhill/refdata"
)

// wantAdd adds an order, which may be refused.
func (p *pair) wantAdd(inst int, id int64, side int, price, qty int64, want api.Errno) {
	p.t.Helper()
	if err := p.add(inst, id, side, price, qty); err != want {
		p.t.Errorf("P16.1: %v: %d, want %d", p.last(), int(err), int(want))
	}
}

// fill lets as many orders stand as may, with the IDs from 1000 on, spread over all instruments and both sides.
func (p *pair) fill() {
	p.t.Helper()
	count := refdata.Count(p.model.p)
	for i := p.state.Count(); i < most; i++ {
		p.put(i%count, int64(1000+i), sides[i/count%2], int64(i%5*5), int64(i%7+1))
	}
}

// TestAddToEachBook: an order of each instrument and side stands there alone (P16.1).
func TestAddToEachBook(t *testing.T) {
	for months := 2; months <= api.MaxExp; months++ {
		p := newPair(t, product(months))
		for inst := range refdata.Count(p.model.p) {
			for _, side := range sides {
				for i, price := range []int64{0, 5, -50, 50, 0} {
					p.wantAdd(inst, int64(100*inst+10*side+i), side, price, int64(i+1), api.OK)
				}
			}
			p.check()
		}
	}
}

// TestAddIDs: any of them, as none is too great for a book (P16.1).
func TestAddIDs(t *testing.T) {
	p := newPair(t, product(3))
	for i, id := range []int64{0, 1, -1, 255, 256, 1 << 31, 1 << 32, 1<<32 + 1, api.MaxID, api.MaxID + 1, highest, lowest} {
		p.wantAdd(i%6, id, sides[i%2], 5, 5, api.OK)
		p.check()
	}
}

// TestAddNoInst: ErrInst, whatever else is wrong (P16.1).
func TestAddNoInst(t *testing.T) {
	for months := 2; months <= api.MaxExp; months++ {
		for _, full := range []bool{false, true} {
			p := newPair(t, product(months))
			p.put(0, 7, api.Buy, 5, 5)
			if full {
				p.fill()
			}
			for _, inst := range noInsts(months) {
				for _, id := range []int64{7, 8} {
					for _, price := range []int64{5, 1, 1000, highest} {
						p.wantAdd(inst, id, api.Buy, price, 5, api.ErrInst)
						p.wantAdd(inst, id, 0, price, 5, api.ErrInst)
						p.wantAdd(inst, id, api.Sell, price, 0, api.ErrInst)
					}
				}
			}
			p.check()
		}
	}
}

// TestAddTaken: an ID that stands in the same book and in each other one, until its order has gone (P16.1).
func TestAddTaken(t *testing.T) {
	for months := 2; months <= api.MaxExp; months++ {
		count := refdata.Count(product(months))
		for at := range count {
			p := newPair(t, product(months))
			p.put(at, 7, api.Sell, 5, 5)
			for inst := range count {
				for _, side := range sides {
					p.wantAdd(inst, 7, side, 5, 5, api.ErrTaken)
					p.wantAdd(inst, 7, side, 10, 1, api.ErrTaken)
				}
			}
			p.check()
			p.take(7, 4)
			p.wantAdd(count-1, 7, api.Buy, 5, 1, api.ErrTaken)
			p.take(7, 1)
			p.wantAdd(count-1, 7, api.Buy, 5, 1, api.OK)
			p.wantAdd(at, 7, api.Sell, 5, 1, api.ErrTaken)
			p.check()
		}
	}
}

// TestAddFull: the order beyond MaxOrders in all books, and room again behind a Take (P16.1).
func TestAddFull(t *testing.T) {
	for months := 2; months <= api.MaxExp; months++ {
		p := newPair(t, product(months))
		p.fill()
		p.check()
		count := refdata.Count(p.model.p)
		for inst := range count {
			for _, side := range sides {
				p.wantAdd(inst, 7, side, 5, 5, api.ErrFull)
			}
		}
		p.check()
		for i, id := range []int64{1000, 1249, 1100} {
			p.take(id, 1) // a part of it makes no room, unless it is all
			if o := p.model.find(id); o >= 0 {
				p.wantAdd(i, 7, api.Buy, 5, 5, api.ErrFull)
				p.takeAll(id)
			}
			p.wantAdd(count-1-i, int64(10+i), api.Buy, 5, 5, api.OK)
			p.wantAdd(i, 7, api.Sell, 5, 5, api.ErrFull)
			p.check()
		}
	}
}

// TestAddFullOneBook: of one side, of both sides, and of a book beside another one (P16.1).
func TestAddFullOneBook(t *testing.T) {
	for _, split := range []int64{0, 1, 125, 249} {
		for _, side := range sides {
			p := newPair(t, product(2))
			for i := range int64(most) {
				inst := 0
				if i < split {
					inst = 2
				}
				p.put(inst, i, side, i%11*5-50, 3)
			}
			for inst := range 3 {
				p.wantAdd(inst, 1000, side, 5, 5, api.ErrFull)
				p.wantAdd(inst, 1000, otherOf(side), 5, 5, api.ErrFull)
			}
			p.check()
			p.run(0, otherOf(side), []int64{0, lowest, highest}[side], 3)
			p.wantAdd(1, 1000, side, 5, 5, api.OK)
			p.wantAdd(1, 1001, side, 5, 5, api.ErrFull)
			p.check()
		}
	}
}

// TestAddPrices: those that refdata.Price accepts for the instrument, and its errors for the others (P16.1).
func TestAddPrices(t *testing.T) {
	for months := 2; months <= api.MaxExp; months++ {
		p := newPair(t, product(months))
		id := int64(0)
		for inst := range refdata.Count(p.model.p) {
			ends := []int64{-100, 200}
			if inst >= months {
				ends = []int64{-50, 50}
			}
			for i, end := range ends {
				out := []int64{-5, 5}[i]
				id += 2
				p.wantAdd(inst, id, sides[i], end, 5, api.OK)
				p.wantAdd(inst, id+1, sides[i], end-out, 5, api.OK)
				for _, price := range []int64{end + out, end + 2*out, 1000 * out, 1 << 32 * out, end + 1<<32*out} {
					p.wantAdd(inst, 999, sides[i], price, 5, api.ErrBand)
				}
				for _, price := range []int64{end + 1, end - 1, 1000*out + 1, lowest, highest, 3} {
					p.wantAdd(inst, 999, sides[i], price, 5, api.ErrTick)
				}
			}
		}
		p.check()
	}
}

// TestAddRefusedByTheBook: ErrSide, then ErrQty (P16.1).
func TestAddRefusedByTheBook(t *testing.T) {
	for months := 2; months <= api.MaxExp; months++ {
		p := newPair(t, product(months))
		for inst := range refdata.Count(p.model.p) {
			for _, side := range noSides {
				p.wantAdd(inst, 5, side, 5, 5, api.ErrSide)
				for _, qty := range noQuantities {
					p.wantAdd(inst, 5, side, 5, qty, api.ErrSide)
				}
			}
			for _, qty := range noQuantities {
				p.wantAdd(inst, 5, api.Buy, 5, qty, api.ErrQty)
				p.wantAdd(inst, 5, api.Sell, -5, qty, api.ErrQty)
			}
			p.check()
			p.wantAdd(inst, int64(10+inst), api.Buy, 5, largest, api.OK)
			p.wantAdd(inst, int64(40+inst), api.Sell, 5, 1, api.OK)
		}
		p.check()
	}
}

// TestOrderOfAddErrors: the instrument, the ID, the room, the price, the side, the quantity, in each combination (P16.1).
func TestOrderOfAddErrors(t *testing.T) {
	for _, full := range []bool{false, true} {
		p := newPair(t, product(3))
		p.put(1, 7, api.Buy, 5, 5)
		p.put(4, 8, api.Sell, 5, 5)
		if full {
			p.fill()
		}
		before := viewOf(p.state, p.model.p)
		for n := range 6 * 3 * 3 * 2 * 2 {
			inst := []int{0, 1, 4, 5, -1, 6}[n%6]
			id := []int64{7, 8, 9}[n/6%3]
			price := []int64{5, 7, 1000}[n/18%3]
			side, qty := []int{api.Buy, 3}[n/54%2], []int64{1, 0}[n/108]
			want := api.OK
			switch {
			case inst < 0 || inst > 5:
				want = api.ErrInst
			case id != 9:
				want = api.ErrTaken
			case full:
				want = api.ErrFull
			case price == 7:
				want = api.ErrTick
			case price == 1000:
				want = api.ErrBand
			case side == 3:
				want = api.ErrSide
			case qty == 0:
				want = api.ErrQty
			}
			p.wantAdd(inst, id, side, price, qty, want)
			if want == api.OK {
				p.takeAll(id)
			}
			if !before.same(viewOf(p.state, p.model.p)) {
				t.Fatalf("R3: %v: the books have changed", p.last())
			}
		}
		p.check()
	}
}

// TestTopOfASide: which order is Top is the book's to say, for each instrument and side by itself (P16.1).
func TestTopOfASide(t *testing.T) {
	p := newPair(t, product(3))
	for i, order := range []o{{0, 1, 10, 5}, {0, 1, 10, 5}, {0, 1, 15, 5}, {0, 2, 20, 5}, {1, 1, 10, 5}, {4, 2, 10, 5}, {4, 2, 5, 5}, {4, 2, 5, 5}} {
		p.put(order.inst, int64(i), order.side, order.price, order.qty)
		p.check()
	}
	var tops []int64
	for id := range int64(8) {
		if _, o, _ := p.state.Find(id); o.Top {
			tops = append(tops, id)
		}
	}
	if want := []int64{2, 3, 4, 6}; !slices.Equal(tops, want) {
		t.Errorf("P16.1: Top are %v, want %v", tops, want)
	}
}
