package book_test

import (
	"slices"
	"testing"

	"cornhill/book"
)

// orders returns all orders in which the numbers below n can stand.
func orders(n int) [][]int {
	if n == 0 {
		return [][]int{{}}
	}
	var all [][]int
	for _, l := range orders(n - 1) {
		for at := range n {
			all = append(all, slices.Insert(slices.Clone(l), at, n-1))
		}
	}
	return all
}

// TestBest: the sum and the number of the best level alone (P9.2).
func TestBest(t *testing.T) {
	for _, side := range bothSides {
		p := newPair(t)
		wantBest := func(want book.Level, ok bool) {
			t.Helper()
			if got, has := p.book.Best(side); got != want || has != ok {
				t.Errorf("P9.2: %v: Best(%d): %v, %t, want %v, %t", p.last(), side, got, has, want, ok)
			}
			p.check()
		}
		wantBest(book.Level{}, false)
		p.add(1, 3-side, 5, 5)
		wantBest(book.Level{}, false)
		p.add(2, side, 5, 5)
		wantBest(book.Level{Price: 5, Qty: 5, Count: 1}, true)
		p.add(3, side, toward(side, 6), largest)
		p.add(4, side, toward(side, 6), largest)
		wantBest(book.Level{Price: toward(side, 6), Qty: 2 * largest, Count: 2}, true)
		p.add(5, side, toward(side, -6), 3)
		p.fill(3, largest-1)
		wantBest(book.Level{Price: toward(side, 6), Qty: largest + 1, Count: 2}, true)
		p.fillAll(4)
		wantBest(book.Level{Price: toward(side, 6), Qty: 1, Count: 1}, true)
		p.fillAll(3)
		wantBest(book.Level{Price: 5, Qty: 5, Count: 1}, true)
		p.fillAll(2)
		wantBest(book.Level{Price: toward(side, -6), Qty: 3, Count: 1}, true)
		p.fillAll(5)
		wantBest(book.Level{}, false)
	}
}

// TestLadderAndAt: of both sides, with several orders at a price (P9.2).
func TestLadderAndAt(t *testing.T) {
	p := newPair(t)
	for i, price := range []int64{5, 7, 6, 7, 5, 7} {
		p.add(int64(i), 1, price, int64(i)+1)
		p.add(int64(10+i), 2, price, int64(i)+11)
	}
	p.check()
	for side, want := range map[int][]book.Level{
		1: {{Price: 7, Qty: 12, Count: 3}, {Price: 6, Qty: 3, Count: 1}, {Price: 5, Qty: 6, Count: 2}},
		2: {{Price: 5, Qty: 26, Count: 2}, {Price: 6, Qty: 13, Count: 1}, {Price: 7, Qty: 42, Count: 3}},
	} {
		if got := p.book.Ladder(side); !slices.Equal(got, want) {
			t.Errorf("P9.2: Ladder(%d): %v, want %v", side, got, want)
		}
	}
	wantBuy := []book.Order{{ID: 1, Side: 1, Price: 7, Qty: 2, Top: true}, {ID: 3, Side: 1, Price: 7, Qty: 4}, {ID: 5, Side: 1, Price: 7, Qty: 6}}
	if got := p.book.At(1, 7); !slices.Equal(got, wantBuy) {
		t.Errorf("P9.2: At(1, 7): %v, want %v", got, wantBuy)
	}
	wantSell := []book.Order{{ID: 10, Side: 2, Price: 5, Qty: 11, Top: true}, {ID: 14, Side: 2, Price: 5, Qty: 15}}
	if got := p.book.At(2, 5); !slices.Equal(got, wantSell) {
		t.Errorf("P9.2: At(2, 5): %v, want %v", got, wantSell)
	}
	for _, price := range []int64{4, 8, 0, -5, -7, 1<<32 + 7} {
		for _, side := range bothSides {
			if got := p.book.At(side, price); len(got) != 0 {
				t.Errorf("P9.2: At(%d, %d): %v, want none", side, price, got)
			}
		}
	}
}

// TestOneSideOnly: what is asked of the side without orders (P9.2).
func TestOneSideOnly(t *testing.T) {
	for _, side := range bothSides {
		p := newPair(t)
		for i := range int64(4) {
			p.add(i, side, i/2, 5)
		}
		if l := p.book.Ladder(3 - side); len(l) != 0 {
			t.Errorf("P9.2: Ladder of the empty side: %v", l)
		}
		if l := p.book.At(3-side, 0); len(l) != 0 {
			t.Errorf("P9.2: At of the empty side: %v", l)
		}
		if l, ok := p.book.Best(3 - side); ok || l != (book.Level{}) {
			t.Errorf("P9.2: Best of the empty side: %v, %t", l, ok)
		}
		if l := p.book.Orders(); len(l) != 4 {
			t.Errorf("P9.2: Orders: %v, want 4", l)
		}
		p.check()
	}
}

// TestNoSide: nothing stands at a number that is no side (P9.2).
func TestNoSide(t *testing.T) {
	p := newPair(t)
	p.add(1, 1, 5, 5)
	p.add(2, 2, 5, 5)
	for _, side := range noSides {
		if l := p.book.Ladder(side); len(l) != 0 {
			t.Errorf("P9.2: Ladder(%d): %v, want none", side, l)
		}
		if l := p.book.At(side, 5); len(l) != 0 {
			t.Errorf("P9.2: At(%d, 5): %v, want none", side, l)
		}
		if l, ok := p.book.Best(side); ok || l != (book.Level{}) {
			t.Errorf("P9.2: Best(%d): %v, %t, want none", side, l, ok)
		}
	}
}

// TestLevelsComeAndGo: each set of the levels is emptied in both directions, and comes again (P9.2).
func TestLevelsComeAndGo(t *testing.T) {
	const levels = 5
	for _, side := range bothSides {
		for chosen := range 1 << levels {
			for _, backwards := range []bool{false, true} {
				p := newPair(t)
				for i := range int64(2 * levels) {
					p.add(i, side, i%levels, 2)
					p.add(100+i, 3-side, i%levels, 3)
				}
				for i := range int64(levels) {
					n := i
					if backwards {
						n = levels - 1 - i
					}
					if chosen>>n&1 == 1 {
						p.fillAll(n)
						p.fillAll(levels + n)
						p.check()
					}
				}
				for i := range int64(levels) {
					p.add(200+i, side, i*2%levels, 4)
					p.check()
				}
			}
		}
	}
}

// TestArrivalBehindRemovals: however the orders of a level leave it, with worse and better levels beside it (P9.2).
func TestArrivalBehindRemovals(t *testing.T) {
	for n := 1; n <= 5; n++ {
		for _, leave := range orders(n) {
			side := bothSides[n%2]
			p := newPair(t)
			for i := range n {
				p.add(int64(i), side, 5, int64(i)+1)
				p.add(int64(10+i), side, 4, 1)
				p.add(int64(20+i), side, 6, 1)
				p.add(int64(30+i), 3-side, 5, 1)
			}
			for _, i := range leave {
				p.fillAll(int64(i))
				p.check()
			}
			// What comes afterwards stands in the order of its arrival, whichever slots are free.
			for i := range n {
				p.add(int64(n-i), side, 5, 3)
			}
			p.check()
		}
	}
}

// TestNewcomersStandLast: behind those that stayed when others of the level left (P9.2).
func TestNewcomersStandLast(t *testing.T) {
	for one := range int64(4) {
		for other := range int64(4) {
			p := newPair(t)
			for i := range int64(4) {
				p.add(i, 2, 5, 2)
			}
			p.fillAll(one)
			p.add(9, 2, 5, 2)
			p.check()
			if other != one {
				p.fillAll(other)
			}
			p.add(8, 2, 5, 2)
			p.add(one, 2, 5, 2) // it has lost its position with its going
			p.check()
			l := p.book.At(2, 5)
			if got := l[len(l)-3:]; got[0].ID != 9 || got[1].ID != 8 || got[2].ID != one {
				t.Errorf("P9.2: %v: At: %v", p.last(), l)
			}
		}
	}
}

// TestOrdersTellsAll: Buy from the highest price on, then Sell from the lowest one on (P9.2).
func TestOrdersTellsAll(t *testing.T) {
	p := newPair(t)
	p.add(1, 2, 9, 1)
	p.add(2, 1, 3, 2)
	p.add(3, 2, 8, 3)
	p.add(4, 1, 4, 4)
	p.add(5, 2, 9, 5)
	p.add(6, 1, 3, 6)
	want := []book.Order{{ID: 4, Side: 1, Price: 4, Qty: 4, Top: true}, {ID: 2, Side: 1, Price: 3, Qty: 2}, {ID: 6, Side: 1, Price: 3, Qty: 6},
		{ID: 3, Side: 2, Price: 8, Qty: 3, Top: true}, {ID: 1, Side: 2, Price: 9, Qty: 1}, {ID: 5, Side: 2, Price: 9, Qty: 5}}
	if got := p.book.Orders(); !slices.Equal(got, want) {
		t.Errorf("P9.2: Orders: %v, want %v", got, want)
	}
}

// TestCount: behind each order that comes, each part that is filled, and each order that goes (P9.2).
func TestCount(t *testing.T) {
	p := newPair(t)
	wantCount := func(want int) {
		t.Helper()
		if got := p.book.Count(); got != want {
			t.Errorf("P9.2: %v: Count: %d, want %d", p.last(), got, want)
		}
	}
	wantCount(0)
	for i := range 6 {
		p.add(int64(i), bothSides[i%2], int64(i/4), 2)
		wantCount(i + 1)
	}
	p.add(0, 1, 0, 2)
	wantCount(6)
	for i, id := range []int64{3, 0, 5, 4, 1, 2} {
		p.fill(id, 1)
		wantCount(6 - i)
		p.fill(id, 1)
		wantCount(5 - i)
	}
}

// TestGreatestLevel: of a full book whose orders are all as large as can be (P9.2).
func TestGreatestLevel(t *testing.T) {
	for _, side := range bothSides {
		b := book.New()
		for i := range int64(most) {
			b.Add(i, side, 5, largest)
		}
		want := book.Level{Price: 5, Qty: most * largest, Count: most}
		if got, ok := b.Best(side); got != want || !ok {
			t.Errorf("P9.2: Best(%d): %v, %t, want %v", side, got, ok, want)
		}
		if got := b.Ladder(side); !slices.Equal(got, []book.Level{want}) {
			t.Errorf("P9.2: Ladder(%d): %v, want %v", side, got, want)
		}
	}
}

// TestBooksApart: two books with the same calls answer the same, and neither sees the other's (R4).
func TestBooksApart(t *testing.T) {
	first, second := newPair(t), newPair(t)
	first.add(1, 1, 5, 5)
	second.add(1, 2, 6, 6)
	first.add(2, 2, 6, 6)
	second.add(2, 1, 5, 5)
	for i := range int64(5) {
		first.add(10+i, 1, 5+i, 3)
		second.add(20+i, 1, 5-i, 4)
		first.check()
		second.check()
	}
	first.fillAll(10)
	first.check()
	second.check()
}

// spoil overwrites a list, and its spare capacity too.
func spoil[T any](l []T, by T) {
	l = l[:cap(l)]
	for i := range l {
		l[i] = by
	}
}

// spoilAll overwrites everything that a book answers.
func spoilAll(p *pair) {
	order, level := book.Order{ID: -7, Side: 3, Price: -7, Qty: -7, Top: true}, book.Level{Price: -7, Qty: -7, Count: -7}
	spoil(p.book.Orders(), order)
	spoil(append(p.book.Orders(), order), order)
	for _, side := range bothSides {
		spoil(p.book.Ladder(side), level)
		spoil(append(p.book.Ladder(side), level), level)
		for _, price := range p.prices {
			spoil(p.book.At(side, price), order)
			spoil(append(p.book.At(side, price), order), order)
		}
	}
}

// TestListsAreTheCallersOwn: what is done with them is not seen in the book or in other lists, and they stay when the book changes (R2).
func TestListsAreTheCallersOwn(t *testing.T) {
	for n := range int64(12) {
		p := newPair(t)
		for i := range n {
			p.add(i, bothSides[i%2], i/4, i+2)
		}
		all, ladder, at := p.book.Orders(), p.book.Ladder(1), p.book.At(1, 0)
		wantAll, wantLadder, wantAt := p.model.all(), p.model.ladder(1), p.model.at(1)[0]
		same := func(when string) {
			t.Helper()
			if !slices.Equal(all, wantAll) || !slices.Equal(ladder, wantLadder) || !slices.Equal(at, wantAt) {
				t.Errorf("R2: lists %v, %v, %v %s, want %v, %v, %v", all, ladder, at, when, wantAll, wantLadder, wantAt)
			}
			p.check()
		}
		spoilAll(p)
		same("after others were changed")
		for i := range n {
			p.fill(i, 1)
			p.add(100+i, bothSides[i%2], 10-i, 1)
		}
		same("after the book was changed")
		for _, o := range p.book.Orders() {
			p.fillAll(o.ID)
		}
		same("after the book was emptied")
	}
}

// TestQuestionsChangeNothing: asked twice, the answers are the same, and the next calls too (R3, R4).
func TestQuestionsChangeNothing(t *testing.T) {
	p := newPair(t)
	for i := range int64(12) {
		p.add(i, bothSides[i*i%3%2], i*i%4, 3)
		p.check()
		p.check()
	}
	for i := range int64(12) {
		p.fill(i*5%12, i%3+1)
		p.check()
		p.check()
	}
}

// act makes one of the calls that change a book: one of three prices of a side, the best order, the oldest one, a part of the newest one.
func act(p *pair, side, which int) {
	id := int64(len(p.calls))
	same := p.model.side(side)
	switch {
	case which < 3:
		p.add(id, side, int64(which), 2)
	case which == 3 && len(same) > 0:
		p.fillAll(same[0].ID)
	case which == 4 && len(p.model.orders) > 0:
		p.fillAll(p.model.orders[0].ID)
	case which == 5 && len(p.model.orders) > 0:
		p.fill(p.model.orders[len(p.model.orders)-1].ID, 1)
	}
}

// TestEverySequence: all sequences of a few calls on each side (P9.1, P9.2).
func TestEverySequence(t *testing.T) {
	const acts, longest = 6, 5
	for _, side := range bothSides {
		for length, sequences := 1, acts; length <= longest; length, sequences = length+1, sequences*acts {
			for sequence := range sequences {
				p := newPair(t)
				for rest, i := sequence, 0; i < length; rest, i = rest/acts, i+1 {
					act(p, side, rest%acts)
				}
				p.check()
			}
		}
	}
}

// TestManyCalls: long sequences over few and over many prices, made by a rule that takes each kind of call often (P9.1, P9.2).
func TestManyCalls(t *testing.T) {
	for _, width := range []int{1, 3, 12, 600} {
		p := newPair(t)
		seed := uint64(width)
		next := func(n int) int {
			seed = seed*6364136223846793005 + 1442695040888963407
			return int(seed >> 33 % uint64(n))
		}
		for i := range 4000 {
			// More come than go at first, and more go than come afterwards, over and over.
			growing := i/400%2 == 0
			switch which := next(10); {
			case which == 0:
				p.fill(int64(next(800)), int64(next(4)))
			case which == 1:
				p.add(int64(next(800)), next(4), int64(next(width)), int64(next(3)))
			case which < 8 == growing:
				p.add(int64(next(800)), 1+next(2), int64(next(width)), int64(1+next(4)))
			default:
				if n := len(p.model.orders); n > 0 {
					p.fillAll(p.model.orders[next(n)].ID)
				}
			}
			if i%40 == 0 || len(p.model.orders) < 4 && i%5 == 0 {
				p.ids, p.prices = distinct(p.ids), distinct(p.prices)
				p.check()
			}
		}
		p.check()
	}
}

// TestEverNewPrices: more levels come and go than a book can have at once (P9.2).
func TestEverNewPrices(t *testing.T) {
	for _, side := range bothSides {
		b := book.New()
		for i := range int64(20000) {
			if err := b.Add(i, side, i*7919%20000, 1); err != 0 {
				t.Fatalf("P9.1: Add(%d): %d", i, int(err))
			}
			if gone := i - most + 1; gone >= 0 {
				if err := b.Fill(gone, 1); err != 0 {
					t.Fatalf("P9.1: Fill(%d): %d", gone, int(err))
				}
			}
		}
		l := b.Ladder(side)
		if len(l) != most-1 || b.Count() != most-1 {
			t.Fatalf("P9.2: %d levels, Count %d, want %d", len(l), b.Count(), most-1)
		}
		for i, level := range l {
			if level.Qty != 1 || level.Count != 1 || i > 0 && !better(side, l[i-1].Price, level.Price) {
				t.Fatalf("P9.2: Ladder(%d): level %d: %v", side, i, level)
			}
		}
	}
}
