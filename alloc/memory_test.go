package alloc_test

import (
	"slices"
	"testing"

	"cornhill/alloc"
	"cornhill/api"
	"cornhill/book"
)

// TestRoomBehindTheLists: it is neither read nor written (R2, R5).
func TestRoomBehindTheLists(t *testing.T) {
	for _, behind := range []book.Order{{Qty: 3, Top: true}, {Qty: -1, Top: true}, {Qty: 3}, {}, {ID: 100, Qty: highest, Top: true}} {
		for n := range 6 {
			for _, tops := range topsOf(n) {
				a := ask{terms{0, 2, 1, 50}, same(n, 3), tops, 0}
				all := append(a.orders(), behind, behind, behind)
				p := a.product()
				months, settle := []int{312, 323, -5, 324}, []int64{50, 55, -7, 60}
				p.Months, p.Settle = months[:2], settle[:2]
				before, months0, settle0 := slices.Clone(all), slices.Clone(months), slices.Clone(settle)
				for p.Rule = 0; p.Rule <= 4; p.Rule++ {
					a.rule = p.Rule
					for a.q = -1; a.q <= int64(3*n)+1; a.q++ {
						checkDressed(t, a, p, all[:n])
					}
				}
				if !slices.Equal(all, before) || !slices.Equal(months, months0) || !slices.Equal(settle, settle0) {
					t.Errorf("R2: %s: the room behind the lists has changed: %v, %v, %v", a, all[n:], months, settle)
				}
			}
		}
	}
}

// spoil overwrites a list, and its spare capacity too.
func spoil(l []int64) {
	l = l[:cap(l)]
	for i := range l {
		l[i] = -7
	}
}

// TestSharesAreTheCallersOwn: they have no memory in common with the product, the orders or other shares (R2).
func TestSharesAreTheCallersOwn(t *testing.T) {
	for _, n := range []int{0, 1, 2, 3, 17, full} {
		for _, qty := range []int64{1, 4, largest} {
			sum := int64(n) * qty
			for _, q := range []int64{-1, 0, sum / 2, sum, sum + 1} {
				for _, rule := range append([]int{0, 4}, rules...) {
					checkOwn(t, ask{terms{rule, 2, 1, 50}, same(n, qty), nil, q})
					checkOwn(t, ask{terms{rule, 0, 1, 0}, same(n, qty), nil, q})
					checkOwn(t, ask{terms{rule, qty, 3, 100}, same(n, qty), []int{n - 1}, q})
				}
			}
		}
	}
}

// checkOwn changes results and arguments, and asks whether other results and arguments have changed with them.
func checkOwn(t *testing.T, a ask) {
	t.Helper()
	p, l, want := a.product(), a.orders(), a.lower()
	p.Settle = slices.Clone(a.qtys)
	settle, orders := slices.Clone(p.Settle), slices.Clone(l)
	first, second := alloc.Share(p, l, a.q), alloc.Share(p, l, a.q)
	spoil(first)
	spoil(append(alloc.Share(p, l, a.q), 5))
	if !slices.Equal(second, want) || !slices.Equal(p.Settle, settle) || !slices.Equal(l, orders) {
		t.Errorf("R2: %s: %s after other shares were changed, want %s, Settle is %s", a, show(second), show(want), show(p.Settle))
	}
	third := alloc.Share(p, l, a.q)
	spoil(p.Settle)
	for i := range l {
		l[i] = book.Order{Qty: 1, Top: true}
	}
	if !slices.Equal(third, want) {
		t.Errorf("R2: %s: %s after the product and the orders were changed, want %s", a, show(third), show(want))
	}
}

// TestCallsApart: what was asked before does not matter (R4).
func TestCallsApart(t *testing.T) {
	l := []int64{4, 2, 10}
	asks := []struct {
		a    ask
		want []int64
	}{
		{ask{terms{api.First, 4, 1, 25}, l, []int{2}, 8}, []int64{4, 2, 2}},
		{ask{terms{api.First, -1, 0, -1}, l, nil, 9}, []int64{4, 2, 3}},
		{ask{terms{api.Share, 4, 1, 25}, l, []int{2}, 8}, []int64{2, 0, 6}},
		{ask{terms{api.Share, 4, 1, 25}, l, nil, 8}, []int64{2, 1, 5}},
		{ask{terms{api.Share, -1, 1, 25}, l, nil, 8}, nil},
		{ask{terms{api.Mixed, 4, 1, 25}, l, []int{2}, 8}, []int64{4, 0, 4}},
		{ask{terms{api.Mixed, 4, 1, 101}, l, nil, 8}, nil},
		{ask{terms{0, 4, 1, 25}, l, []int{2}, 8}, nil},
		{ask{terms{api.First, 4, 1, 25}, nil, nil, 0}, nil},
		{ask{terms{api.Share, 4, 1, 25}, same(full+1, 1), nil, 1}, nil},
		{ask{terms{api.Mixed, 4, 1, 25}, []int64{0}, nil, 0}, nil},
		{ask{terms{api.Share, largest, 1, 25}, same(full, largest), []int{7}, full * largest}, same(full, largest)},
	}
	for _, before := range asks {
		for _, now := range asks {
			alloc.Share(before.a.product(), before.a.orders(), before.a.q)
			if got := alloc.Share(now.a.product(), now.a.orders(), now.a.q); !slices.Equal(got, now.want) {
				t.Errorf("R4: %s after %s: %s, want %s", now.a, before.a, show(got), show(now.want))
			}
		}
	}
}
