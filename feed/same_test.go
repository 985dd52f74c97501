package feed_test

import (
	"testing"

	"cornhill/api"
	"cornhill/book"
	"cornhill/feed"
)

// sample is a View with three instruments, levels on each side of them and implied quotes.
func sample() feed.View {
	return viewOf(3,
		part{0, 1, []int64{10, 4, 1, 5, 3, 2, -5, 1, 1}, []int64{0, 2, 1}},
		part{0, 2, []int64{20, 8, 2, 25, 1, 1, 30, 6, 3}, []int64{45, 2, 1}},
		part{1, 1, []int64{5, 2, 1, 0, 3, 1, -5, 7, 2}, nil},
		part{1, 2, []int64{15, 7, 1, 20, 2, 2, 25, 4, 1}, []int64{25, 6, 1}},
		part{2, 1, []int64{-5, 6, 1, -10, 2, 1, -50, 9, 4}, []int64{-5, 4, 1}},
		part{2, 2, []int64{30, 2, 1, 35, 1, 1, 40, 3, 2}, nil},
	)
}

// TestSame: Views that are equal (P19.1).
func TestSame(t *testing.T) {
	wantSame(t, feed.View{}, feed.View{}, true)
	for count := range 4 {
		wantSame(t, viewOf(count), viewOf(count), true)
	}
	wantSame(t, sample(), sample(), true)
	v := sample()
	wantSame(t, v, v, true)
	wantSame(t, v, cloned(v), true)
}

// TestSameNumbers: one number of one level or of one implied quote makes them unlike (P19.1).
func TestSameNumbers(t *testing.T) {
	v := sample()
	for inst := range v.Sides {
		for at := range 2 {
			w := cloned(v)
			s := &w.Sides[inst][at]
			numbers := []*int64{&s.Implied.Price, &s.Implied.Qty, &s.Implied.Count}
			for i := range s.Levels {
				numbers = append(numbers, &s.Levels[i].Price, &s.Levels[i].Qty, &s.Levels[i].Count)
			}
			for _, n := range numbers {
				old := *n
				for _, other := range []int64{old + 1, old - 1, -old - 1, old + 1<<32, old ^ 1<<8, lowest, highest} {
					*n = other
					wantSame(t, v, w, false)
				}
				*n = old
				wantSame(t, v, w, true)
			}
			s.Has = !s.Has
			wantSame(t, v, w, false)
		}
	}
}

// TestSameLevels: one more level at each place, one fewer, and two that have changed places (P19.1).
func TestSameLevels(t *testing.T) {
	v := sample()
	for inst := range v.Sides {
		for at := range 2 {
			for i := range 4 {
				w := cloned(v)
				s := &w.Sides[inst][at]
				levels := s.Levels
				s.Levels = append(append(append([]book.Level{}, levels[:i]...), book.Level{Price: 12, Qty: 1, Count: 1}), levels[i:]...)
				wantSame(t, v, w, false)
				s.Levels = append(append(append([]book.Level{}, levels[:i]...), book.Level{}), levels[i:]...)
				wantSame(t, v, w, false)
				if i == 3 {
					continue
				}
				s.Levels = append(append([]book.Level{}, levels[:i]...), levels[i+1:]...)
				wantSame(t, v, w, false)
				s.Levels = append([]book.Level{}, levels...)
				s.Levels[i], s.Levels[(i+1)%3] = s.Levels[(i+1)%3], s.Levels[i]
				wantSame(t, v, w, false)
			}
			w := cloned(v)
			w.Sides[inst][at].Levels = nil
			wantSame(t, v, w, false)
		}
	}
}

// TestSameSides: other numbers of Sides, and sides and instruments that have changed places (P19.1).
func TestSameSides(t *testing.T) {
	for a := range 5 {
		for b := range 5 {
			wantSame(t, viewOf(a), viewOf(b), a == b)
		}
	}
	v := sample()
	for inst := range v.Sides {
		w := cloned(v)
		w.Sides[inst][0], w.Sides[inst][1] = w.Sides[inst][1], w.Sides[inst][0]
		wantSame(t, v, w, false)
		w = cloned(v)
		w.Sides[inst], w.Sides[(inst+1)%3] = w.Sides[(inst+1)%3], w.Sides[inst]
		wantSame(t, v, w, false)
		w = cloned(v)
		wantSame(t, v, feed.View{Sides: w.Sides[:inst]}, false)
		w.Sides = append(w.Sides, [2]feed.Side{})
		wantSame(t, v, w, false)
	}
}

// TestSameHidden: an implied quote counts also where Has is false, as what is compared are the Views (P19.1).
func TestSameHidden(t *testing.T) {
	for at := range 2 {
		v, w := viewOf(1), viewOf(1)
		w.Sides[0][at].Implied.Qty = 1
		wantSame(t, v, w, false)
		v.Sides[0][at].Implied.Qty = 1
		wantSame(t, v, w, true)
		v.Sides[0][at].Has = true
		wantSame(t, v, w, false)
	}
}

// TestSameEmpty: nil and empty lists mean the same, and what stands behind a list means nothing (R4, R5).
func TestSameEmpty(t *testing.T) {
	wantSame(t, feed.View{}, feed.View{Sides: [][2]feed.Side{}}, true)
	v, w := viewOf(2), viewOf(2)
	for inst := range w.Sides {
		for at := range 2 {
			w.Sides[inst][at].Levels = []book.Level{{Price: 1, Qty: 1, Count: 1}}[:0]
		}
	}
	wantSame(t, v, w, true)
	if l := feed.Diff(v, w, 0); len(l) != 0 {
		t.Errorf("R4: Diff of nil and empty lists: %v", l)
	}
	a, b := sample(), sample()
	for _, l := range []*feed.View{&a, &b} {
		for inst := range l.Sides {
			for at, side := range sides {
				s := &l.Sides[inst][at]
				s.Levels = append(s.Levels, book.Level{Price: int64(side), Qty: int64(inst), Count: 1})[:3]
			}
		}
		l.Sides = append(l.Sides, [2]feed.Side{{Has: true}})[:3]
	}
	a.Sides[1][1].Levels[:4][3].Price = 99
	wantSame(t, a, b, true)
	if l := feed.Diff(a, b, 0); len(l) != 0 {
		t.Errorf("R5: Diff of Views with unlike room behind them: %v", l)
	}
	if _, err := feed.Apply(a, level(3, 1, 5, 5, 1)); err != api.ErrInst {
		t.Errorf("R5: Apply reads behind the Sides: %d", int(err))
	}
}

// TestSameEvery: of all small sides, each is the same as itself alone (P19.1).
func TestSameEvery(t *testing.T) {
	for _, side := range sides {
		l := smallViews(side)
		for i, a := range l {
			for j, b := range l {
				if feed.Same(a, b) != (i == j) {
					t.Fatalf("P19.1: Same(%v, %v): %t", a, b, i != j)
				}
			}
		}
	}
}
