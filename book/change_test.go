package book_test

import (
	"math"
	"slices"
	"testing"

	"cornhill/api"
	"cornhill/book"
)

// largest is the greatest quantity of an order (MaxQty).
const largest = 1000000

// noQuantities are quantities that no order has and none is filled by.
var noQuantities = []int64{0, -1, -2, -largest, -largest - 1, -1 << 32, -1<<32 + 5, math.MinInt64, math.MinInt64 + 1}

// greatQuantities are quantities that are too much for an order.
var greatQuantities = []int64{largest + 1, largest + 2, 1 << 31, 1 << 32, 1<<32 + 5, 1 << 40, math.MaxInt64 - 1, math.MaxInt64}

// ends are the least and the greatest prices, and some about 0.
var ends = []int64{math.MinInt64, math.MinInt64 + 1, -1 << 32, -1, 0, 1, 1 << 32, math.MaxInt64 - 1, math.MaxInt64}

// toward returns a price of a side which is better the greater n is.
func toward(side int, n int64) int64 {
	if side == 1 {
		return n
	}
	return -n
}

// TestNewIsEmpty: on both sides (P9.1).
func TestNewIsEmpty(t *testing.T) {
	p := newPair(t)
	p.check()
	for _, id := range []int64{0, 1, -1, math.MinInt64, math.MaxInt64} {
		if err := p.fill(id, 1); err != api.ErrNone {
			t.Errorf("P9.1: Fill(%d, 1) of an empty book: %d, want %d", id, int(err), int(api.ErrNone))
		}
	}
	p.check()
}

// TestAddSides: Buy and Sell alone (P9.1).
func TestAddSides(t *testing.T) {
	for _, orders := range []int64{0, 1, 3} {
		p := newPair(t)
		for i := range orders {
			p.add(i, bothSides[i%2], 5, 5)
		}
		for _, side := range noSides {
			if err := p.add(7, side, 5, 5); err != api.ErrSide {
				t.Errorf("P9.1: Add on side %d: %d, want %d", side, int(err), int(api.ErrSide))
			}
			p.check()
		}
		for i, side := range bothSides {
			if err := p.add(int64(10+i), side, 5, 5); err != api.OK {
				t.Errorf("P9.1: Add on side %d: %d", side, int(err))
			}
			p.check()
		}
	}
}

// TestAddQuantities: from 1 to MaxQty (P9.1).
func TestAddQuantities(t *testing.T) {
	for _, side := range bothSides {
		p := newPair(t)
		for i, qty := range []int64{1, 2, 255, 256, 65536, largest - 1, largest} {
			if err := p.add(int64(i), side, 5, qty); err != api.OK {
				t.Errorf("P9.1: Add of %d: %d", qty, int(err))
			}
			p.check()
		}
		for _, qty := range slices.Concat(noQuantities, greatQuantities) {
			if err := p.add(7, side, 5, qty); err != api.ErrQty {
				t.Errorf("P9.1: Add of %d: %d, want %d", qty, int(err), int(api.ErrQty))
			}
			p.check()
		}
	}
}

// TestAddIDs: each of them, as long as no order has it (P9.1).
func TestAddIDs(t *testing.T) {
	ids := []int64{0, 1, -1, 255, 256, 1<<31 - 1, 1 << 31, 1 << 32, 1<<32 + 1, api.MaxID, api.MaxID + 1, math.MaxInt64, math.MinInt64}
	p := newPair(t)
	for i, id := range ids {
		if err := p.add(id, bothSides[i%2], 5, int64(i)+1); err != api.OK {
			t.Errorf("P9.1: Add of the ID %d: %d", id, int(err))
		}
		p.check()
	}
	for i, id := range ids {
		for _, side := range bothSides {
			// At its own price, at one without orders, and with a quantity of its own or another one.
			for _, price := range []int64{5, 6, 4} {
				if err := p.add(id, side, price, int64(i)+1); err != api.ErrTaken {
					t.Errorf("P9.1: Add of the ID %d, which stands: %d, want %d", id, int(err), int(api.ErrTaken))
				}
			}
		}
		p.check()
	}
	for i, id := range ids {
		p.fill(id, int64(i)) // what is left has the ID still; nothing is taken of the first one
		if err := p.add(id, 1, 5, 1); err != api.ErrTaken {
			t.Errorf("P9.1: Add of the ID %d, of which 1 is left: %d, want %d", id, int(err), int(api.ErrTaken))
		}
		p.fillAll(id)
		p.check()
		if err := p.add(id, bothSides[1-i%2], 8, 2); err != api.OK {
			t.Errorf("P9.1: Add of the ID %d, which has gone: %d", id, int(err))
		}
		p.check()
	}
}

// full returns a book with as many orders as it may have, with the IDs from 0 on. price tells where each of them stands.
func full(t *testing.T, price func(i int64) (side int, price int64)) *pair {
	t.Helper()
	p := newPair(t)
	for i := range int64(most) {
		side, price := price(i)
		if err := p.add(i, side, price, i%7+1); err != api.OK {
			t.Fatalf("P9.1: %v: %d", p.last(), int(err))
		}
		if n := p.book.Count(); int64(n) != i+1 {
			t.Fatalf("P9.2: %v: Count: %d, want %d", p.last(), n, i+1)
		}
	}
	return p
}

// fulls are full books: at one price, each order at its own, and on both sides.
func fulls(t *testing.T) []*pair {
	t.Helper()
	var l []*pair
	for _, side := range bothSides {
		l = append(l,
			full(t, func(i int64) (int, int64) { return side, 9 }),
			full(t, func(i int64) (int, int64) { return side, i }),
			full(t, func(i int64) (int, int64) { return side, -i }),
			full(t, func(i int64) (int, int64) { return side, i * 77 % most }))
	}
	return append(l,
		full(t, func(i int64) (int, int64) { return bothSides[i%2], 9 }),
		full(t, func(i int64) (int, int64) { return bothSides[i%2], i * 77 % most }),
		full(t, func(i int64) (int, int64) { return bothSides[i*i%3%2], i * i % 11 }),
		full(t, func(i int64) (int, int64) { return bothSides[i/249], 9 }),
		full(t, func(i int64) (int, int64) { return bothSides[i/125], ends[i*7%9] }))
}

// TestFullBook: the order beyond MaxOrders is refused on both sides, and has its place when another one has gone (P9.1, P9.2).
func TestFullBook(t *testing.T) {
	for _, p := range fulls(t) {
		p.check()
		for _, side := range bothSides {
			for _, price := range []int64{9, math.MinInt64, math.MaxInt64} {
				if err := p.add(1000, side, price, 5); err != api.ErrFull {
					t.Errorf("P9.1: %v: %d, want %d", p.last(), int(err), int(api.ErrFull))
				}
			}
		}
		p.check()
		for i, id := range []int64{0, 249, 125, 1, 60} {
			p.add(2000, 1, 9, 5)
			p.fillAll(id)
			p.check()
			if err := p.add(int64(1000+i), bothSides[i%2], 9+int64(i), 5); err != api.OK {
				t.Errorf("P9.1: %v: %d", p.last(), int(err))
			}
			p.add(2000, 2, 9, 5)
			p.check()
		}
	}
}

// TestFullBookIsEmptied: in several orders, and filled once more at other prices (P9.1, P9.2).
func TestFullBookIsEmptied(t *testing.T) {
	for _, step := range []int64{1, 249, 77} {
		for _, p := range fulls(t) {
			for i := range int64(most) {
				p.fillAll(i * step % most)
				if n := int64(p.book.Count()); n != most-1-i {
					t.Fatalf("P9.2: %v: Count: %d, want %d", p.last(), n, most-1-i)
				}
				if i%50 == 0 {
					p.check()
				}
			}
			p.check()
			for i := range int64(most) {
				p.add(i*step%most, bothSides[i*i%5%2], 1000-i, 3)
			}
			p.check()
			p.add(most, 1, 5, 5)
		}
	}
}

// TestOrderOfAddErrors: the side, the quantity, the ID, the room (P9.1).
func TestOrderOfAddErrors(t *testing.T) {
	room := newPair(t)
	room.add(7, 1, 5, 5)
	room.add(8, 2, 6, largest)
	full := full(t, func(i int64) (int, int64) { return bothSides[i%2], 5 - i%2 })
	for _, p := range []*pair{room, full} {
		for _, side := range slices.Concat(noSides, bothSides) {
			for _, qty := range slices.Concat(noQuantities, greatQuantities, []int64{1, largest}) {
				for _, id := range []int64{7, 8, 300} {
					want := api.OK
					switch {
					case side != 1 && side != 2:
						want = api.ErrSide
					case qty != 1 && qty != largest:
						want = api.ErrQty
					case id != 300:
						want = api.ErrTaken
					case p == full:
						want = api.ErrFull
					}
					if err := p.add(id, side, 99, qty); err != want {
						t.Errorf("P9.1: Add(%d, %d, 99, %d), %d orders: %d, want %d", id, side, qty, p.book.Count(), int(err), int(want))
					}
					if want == api.OK {
						p.fillAll(id)
					}
				}
			}
			p.check()
		}
	}
}

// TestAddPlaces: better and worse prices than those that stand, and the same ones, at every place among them (P9.1, P9.2).
func TestAddPlaces(t *testing.T) {
	for _, side := range bothSides {
		for _, standing := range [][]int64{{}, {10}, {10, 20}, {30, 20, 10}, {20, 10, 40, 30}, {50, 10, 30, 20, 40, 30, 10}} {
			for price := int64(0); price <= 60; price += 5 {
				p := newPair(t)
				for i, n := range standing {
					p.add(int64(i), side, n, 3)
					p.add(int64(100+i), 3-side, n+100, 4)
				}
				p.add(50, side, price, 7)
				p.check()
				p.add(51, side, price, 8)
				p.check()
				p.add(52, 3-side, price, 9)
				p.check()
			}
		}
	}
}

// TestAddOrders: some prices, twice the same one among them, in each order in which they can come (P9.1, P9.2).
func TestAddOrders(t *testing.T) {
	prices := []int64{-1, 0, 0, 1, 2}
	for _, come := range orders(len(prices)) {
		for _, side := range bothSides {
			p := newPair(t)
			for _, i := range come {
				p.add(int64(i), side, prices[i], 5)
				p.check()
			}
		}
	}
}

// TestAddEnds: the least and the greatest prices that there are, in several orders (P9.1, P9.2).
func TestAddEnds(t *testing.T) {
	for _, side := range bothSides {
		for _, step := range []int{1, 2, 4, 5, 7, 8} {
			p := newPair(t)
			for i := range ends {
				p.add(int64(i), side, ends[i*step%len(ends)], 5)
				p.check()
				p.add(int64(20+i), 3-side, ends[(i*step+4)%len(ends)], 6)
				p.check()
			}
			for i := range ends {
				p.add(int64(40+i), side, ends[i], 1)
				p.check()
			}
		}
	}
}

// TestCrossedPrices: the sides know nothing of each other, whatever their prices are (P9.1, P9.2).
func TestCrossedPrices(t *testing.T) {
	p := newPair(t)
	p.add(1, 1, 10, 5)
	p.add(2, 2, 5, 6)
	p.add(3, 2, 10, 7)
	p.add(4, 1, 5, 8)
	p.add(5, 1, 12, 9)
	p.check()
	want := []book.Order{{ID: 5, Side: 1, Price: 12, Qty: 9, Top: true}, {ID: 1, Side: 1, Price: 10, Qty: 5}, {ID: 4, Side: 1, Price: 5, Qty: 8},
		{ID: 2, Side: 2, Price: 5, Qty: 6, Top: true}, {ID: 3, Side: 2, Price: 10, Qty: 7}}
	if got := p.book.Orders(); !slices.Equal(got, want) {
		t.Errorf("P9.2: Orders: %v, want %v", got, want)
	}
}

// wantTops compares the top orders with those that the test names, in ascending order.
func wantTops(t *testing.T, p *pair, want ...int64) {
	t.Helper()
	if got := p.tops(); !slices.Equal(got, want) {
		t.Errorf("P9.1: %v: top orders %v, want %v", p.last(), got, want)
	}
	p.check()
}

// TestTopComes: the first order of a side is its top order, and each one at a better price is after it, one at the best price or a worse one is not (P9.1).
func TestTopComes(t *testing.T) {
	for _, side := range bothSides {
		p := newPair(t)
		p.add(1, side, toward(side, 10), 5)
		wantTops(t, p, 1)
		p.add(2, side, toward(side, 10), 5)
		wantTops(t, p, 1)
		p.add(3, side, toward(side, 9), 5)
		wantTops(t, p, 1)
		p.add(4, side, toward(side, 11), 5)
		wantTops(t, p, 4)
		p.add(5, side, toward(side, 10), 5)
		p.add(6, side, toward(side, 11), 5)
		wantTops(t, p, 4)
		p.add(7, side, toward(side, 1000), 5)
		wantTops(t, p, 7)
	}
}

// TestTopOfEachSide: one side's top order is not touched by what comes to the other one (P9.1).
func TestTopOfEachSide(t *testing.T) {
	for _, side := range bothSides {
		other := 3 - side
		p := newPair(t)
		p.add(1, side, 10, 5)
		p.add(2, other, 10, 5)
		wantTops(t, p, 1, 2)
		p.add(3, side, toward(side, 11), 5)
		wantTops(t, p, 2, 3)
		p.add(4, side, toward(side, 12), 5)
		wantTops(t, p, 2, 4)
		p.add(5, other, toward(other, 11), 5)
		wantTops(t, p, 4, 5)
		p.fillAll(4)
		wantTops(t, p, 5)
		p.fillAll(5)
		wantTops(t, p)
		p.add(6, other, toward(other, 12), 5)
		wantTops(t, p, 6)
	}
}

// TestTopGoes: nobody follows it until an order at a better price comes, or one into the empty side (P9.1).
func TestTopGoes(t *testing.T) {
	for _, side := range bothSides {
		p := newPair(t)
		p.add(1, side, toward(side, 10), 5)
		p.add(2, side, toward(side, 10), 5)
		p.add(3, side, toward(side, 9), 5)
		p.fillAll(1)
		wantTops(t, p)
		p.add(4, side, toward(side, 10), 5)
		p.add(5, side, toward(side, 8), 5)
		wantTops(t, p)
		p.fillAll(2)
		p.fillAll(4)
		wantTops(t, p)
		p.add(6, side, toward(side, 9), 5)
		wantTops(t, p)
		p.add(7, side, toward(side, 10), 5) // the price of the top order that has gone betters what stands now
		wantTops(t, p, 7)
		for _, id := range []int64{7, 3, 6} {
			p.fillAll(id)
			wantTops(t, p)
		}
		p.fillAll(5)
		wantTops(t, p)
		p.add(8, side, toward(side, -50), 5)
		wantTops(t, p, 8)
		p.fillAll(8)
		p.add(8, side, toward(side, -60), 5) // the same order again
		wantTops(t, p, 8)
	}
}

// TestTopStays: when others go, at its price, at worse ones and on the other side (P9.1).
func TestTopStays(t *testing.T) {
	for _, side := range bothSides {
		p := newPair(t)
		p.add(1, side, toward(side, 9), 5)
		p.add(2, side, toward(side, 10), 5)
		p.add(3, side, toward(side, 10), 5)
		p.add(4, 3-side, 10, 5)
		for _, id := range []int64{3, 1, 4} {
			wantTops(t, p, slices.DeleteFunc([]int64{2, 4}, func(top int64) bool { return p.model.find(top) < 0 })...)
			p.fillAll(id)
		}
		wantTops(t, p, 2)
	}
}

// TestFormerTopIsNoneAgain: one that has lost it does not get it back when the better one goes (P9.1).
func TestFormerTopIsNoneAgain(t *testing.T) {
	for _, side := range bothSides {
		p := newPair(t)
		for i := range int64(6) {
			p.add(i, side, toward(side, i), 5)
			wantTops(t, p, i)
		}
		for i := int64(5); i >= 0; i-- {
			p.fillAll(i)
			wantTops(t, p)
		}
	}
}

// TestExamples: those of the chapter.
func TestExamples(t *testing.T) {
	p := newPair(t)
	p.add(1, 1, 5, 4)
	p.add(2, 1, 6, 4)
	p.add(3, 1, 6, 4)
	wantTops(t, p, 2)
	p.fill(2, 4)
	if o, ok := p.book.Find(2); ok || o != (book.Order{}) {
		t.Errorf("P9.1: Find of the filled order: %v, %t", o, ok)
	}
	wantTops(t, p)
	p.add(4, 1, 6, 4)
	wantTops(t, p)
	p.add(5, 1, 7, 4)
	wantTops(t, p, 5)
}

// TestFillParts: an order keeps its position and its Top until nothing is left (P9.1).
func TestFillParts(t *testing.T) {
	for _, side := range bothSides {
		for id := range int64(6) {
			for _, parts := range [][]int64{{10}, {1, 9}, {9, 1}, {5, 5}, {1, 1, 1, 1, 1, 1, 1, 1, 1, 1}, {3, 4, 2, 1}} {
				p := newPair(t)
				for i := range int64(6) {
					p.add(i, side, toward(side, -i/2), 10)
					p.add(100+i, 3-side, i, 10)
				}
				left := int64(10)
				for _, part := range parts {
					if err := p.fill(id, part); err != api.OK {
						t.Errorf("P9.1: %v: %d", p.last(), int(err))
					}
					left -= part
					if o, ok := p.book.Find(id); o.Qty != left || ok != (left > 0) || o.Top != (id == 0 && left > 0) {
						t.Errorf("P9.1: %v: Find: %v, %t, want the quantity %d", p.last(), o, ok, left)
					}
					p.check()
				}
				if err := p.fill(id, 1); err != api.ErrNone {
					t.Errorf("P9.1: %v: %d, want %d", p.last(), int(err), int(api.ErrNone))
				}
				p.check()
			}
		}
	}
}

// TestFillQuantities: from 1 to the quantity of the order (P9.1).
func TestFillQuantities(t *testing.T) {
	for _, has := range []int64{1, 2, 3, 255, 256, 65536, largest - 1, largest} {
		p := newPair(t)
		p.add(1, 2, 5, largest)
		p.add(2, 2, 5, has)
		for _, qty := range slices.Concat(noQuantities, greatQuantities, []int64{has + 1, has + 2, has + largest}) {
			if err := p.fill(2, qty); err != api.ErrQty {
				t.Errorf("P9.1: Fill of %d, %d are there: %d, want %d", qty, has, int(err), int(api.ErrQty))
			}
			p.check()
		}
		if err := p.fill(2, has); err != api.OK {
			t.Errorf("P9.1: Fill of %d, which is all: %d", has, int(err))
		}
		p.check()
	}
}

// TestFillOfWhatIsLeft: what was there before counts no more (P9.1).
func TestFillOfWhatIsLeft(t *testing.T) {
	p := newPair(t)
	p.add(1, 1, 5, 10)
	p.fill(1, 7)
	for _, qty := range []int64{10, 7, 4} {
		if err := p.fill(1, qty); err != api.ErrQty {
			t.Errorf("P9.1: Fill of %d, 3 are left: %d, want %d", qty, int(err), int(api.ErrQty))
		}
		p.check()
	}
	p.fill(1, 3)
	p.check()
}

// TestOrderOfFillErrors: the order, the quantity (P9.1).
func TestOrderOfFillErrors(t *testing.T) {
	p := newPair(t)
	p.add(1, 1, 5, 4)
	p.add(2, 2, 6, 4)
	p.fillAll(2)
	for _, id := range []int64{2, 3, 0, -1, 1<<32 + 1, math.MinInt64, math.MaxInt64, 1} {
		want := api.ErrNone
		if id == 1 {
			want = api.ErrQty
		}
		for _, qty := range slices.Concat(noQuantities, greatQuantities, []int64{5}) {
			if err := p.fill(id, qty); err != want {
				t.Errorf("P9.1: %v: %d, want %d", p.last(), int(err), int(want))
			}
		}
		p.check()
	}
}

// TestFillLeavesOthers: of the same price, of other prices and of the other side (P9.1).
func TestFillLeavesOthers(t *testing.T) {
	for id := range int64(12) {
		for _, qty := range []int64{1, 2, 3} {
			p := newPair(t)
			for i := range int64(12) {
				p.add(i, bothSides[i%2], i*i%3, 3)
			}
			p.fill(id, qty)
			p.check()
		}
	}
}

// TestFindAll: orders that stand, that have gone, and that never were (P9.1).
func TestFindAll(t *testing.T) {
	p := newPair(t)
	p.add(5, 2, -8, 3)
	p.add(0, 1, 7, 4)
	p.add(9, 2, 7, largest)
	p.add(-3, 1, 7, 1)
	p.fill(9, 1)
	p.fillAll(5)
	for id, want := range map[int64]book.Order{0: {ID: 0, Side: 1, Price: 7, Qty: 4, Top: true}, 9: {ID: 9, Side: 2, Price: 7, Qty: largest - 1}, -3: {ID: -3, Side: 1, Price: 7, Qty: 1}} {
		if got, ok := p.book.Find(id); got != want || !ok {
			t.Errorf("P9.1: Find(%d): %v, %t, want %v", id, got, ok, want)
		}
	}
	for _, id := range []int64{5, 1, 7, -9, 1 << 32, 1<<32 + 9, math.MinInt64, math.MaxInt64} {
		if got, ok := p.book.Find(id); got != (book.Order{}) || ok {
			t.Errorf("P9.1: Find(%d): %v, %t, want none", id, got, ok)
		}
	}
	p.check()
}

// refuse makes calls that a book refuses, at prices that would be the best ones among others, and checks that nothing has changed.
func refuse(t *testing.T, p *pair) {
	t.Helper()
	before := p.book.Orders()
	for _, price := range []int64{math.MinInt64, -1, 0, 5, math.MaxInt64} {
		for _, side := range noSides {
			p.add(5000, side, price, 1)
		}
		for _, side := range bothSides {
			p.add(5000, side, price, 0)
			p.add(5000, side, price, largest+1)
			for _, o := range before {
				p.add(o.ID, side, price, 1)
			}
			if len(before) == most {
				p.add(5000, side, price, 1)
			}
		}
	}
	p.fill(5000, 1)
	for _, o := range before {
		p.fill(o.ID, 0)
		p.fill(o.ID, -1)
		p.fill(o.ID, o.Qty+1)
	}
	if after := p.book.Orders(); !slices.Equal(before, after) {
		t.Errorf("R3: calls that were refused have changed %v to %v", before, after)
	}
	p.check()
}

// TestRefusedCalls change nothing, nor what later calls answer (R3).
func TestRefusedCalls(t *testing.T) {
	for n := range int64(9) {
		p := newPair(t)
		refuse(t, p)
		for i := range n {
			p.add(i, bothSides[i*i%3%2], i*5%7, i+1)
			refuse(t, p)
		}
		for i := range n {
			p.add(100+i, bothSides[i%2], i*3%7, 2)
			p.fill(i, 1)
			p.check()
		}
		refuse(t, p)
		for _, o := range p.book.Orders() {
			p.fillAll(o.ID)
			p.check()
		}
		refuse(t, p)
	}
	for _, p := range fulls(t) {
		refuse(t, p)
		p.fillAll(9)
		p.add(9, 1, 9, 1)
		p.check()
	}
}
