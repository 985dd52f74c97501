package prorata_test

import (
	"slices"
	"testing"

	"cornhill/prorata"
)

// TestListIsLeftAlone: and the room behind it, which is neither read nor written (R2, R5).
func TestListIsLeftAlone(t *testing.T) {
	for _, behind := range []int64{0, -1, 5, largest + 1, lowest, highest} {
		for n := range 6 {
			all := append(same(n, 3), behind, behind, behind)
			before := slices.Clone(all)
			a := ask{l: all[:n]}
			for a.q = 0; a.q <= int64(3*n); a.q++ {
				for a.top = -1; a.top <= n; a.top++ {
					for _, a.most = range []int64{0, 2, highest} {
						for _, a.least = range []int64{1, 2, highest} {
							checkModel(t, a)
						}
					}
				}
			}
			checkRefused(t, all[:n], int64(3*n)+1)
			if !slices.Equal(all, before) {
				t.Errorf("R2: the list %v became %v", before, all)
			}
		}
	}
}

// spoil overwrites a list, and its spare capacity too.
func spoil(l []int64) {
	l = l[:cap(l)]
	for i := range l {
		l[i] = -7
	}
}

// TestSharesAreTheCallersOwn: they have no memory in common with the orders or with other shares (R2).
func TestSharesAreTheCallersOwn(t *testing.T) {
	for _, n := range []int{0, 1, 2, 3, 17, full} {
		for _, qty := range []int64{1, 4, largest} {
			sum := int64(n) * qty
			for _, q := range []int64{0, sum / 2, sum} {
				for _, top := range []int{-1, 0, n - 1} {
					checkOwn(t, ask{same(n, qty), top, 1, 1, q})
					checkOwn(t, ask{same(n, qty), top, qty, 3, q})
				}
			}
		}
	}
}

// checkOwn changes results and arguments, and asks whether other results and arguments have changed with them.
func checkOwn(t *testing.T, a ask) {
	t.Helper()
	plain := ask{a.l, -1, 0, a.least, a.q}
	calls := []struct {
		call func(l []int64) []int64
		want []int64
	}{
		{func(l []int64) []int64 { return prorata.Share(l, a.top, a.most, a.least, a.q) }, model(a)},
		{func(l []int64) []int64 { return prorata.Plain(l, a.least, a.q) }, model(plain)},
	}
	for _, c := range calls {
		l := slices.Clone(a.l)
		first, second := c.call(l), c.call(l)
		spoil(first)
		spoil(append(c.call(l), 5))
		if !slices.Equal(second, c.want) || !slices.Equal(l, a.l) {
			t.Errorf("R2: %s or Plain: %s after other shares were changed, want %s; the list is %s", a, show(second), show(c.want), show(l))
		}
		third := c.call(l)
		spoil(l)
		if !slices.Equal(third, c.want) {
			t.Errorf("R2: %s or Plain: %s after the list was changed, want %s", a, show(third), show(c.want))
		}
	}
}

// TestCallsApart: what was asked before does not matter (R4).
func TestCallsApart(t *testing.T) {
	asks := []struct {
		a            ask
		share, plain []int64
	}{
		{ask{nil, 0, 0, 1, 0}, nil, nil},
		{ask{same(3, 5), 1, 3, 1, 7}, []int64{3, 3, 1}, []int64{3, 2, 2}},
		{ask{same(3, 5), 1, 3, 1, 16}, nil, nil},
		{ask{same(3, 5), 1, 3, 0, 7}, nil, nil},
		{ask{same(3, 5), 1, -1, 1, 7}, nil, []int64{3, 2, 2}},
		{ask{[]int64{5, 5, 10}, 2, 10, 1, 14}, []int64{2, 2, 10}, []int64{4, 3, 7}},
		{ask{same(full, largest), 7, largest, 1, full * largest}, same(full, largest), same(full, largest)},
		{ask{same(full+1, 1), 7, 1, 1, 1}, nil, nil},
		{ask{[]int64{0}, 0, 1, 1, 0}, nil, nil},
	}
	for _, before := range asks {
		for _, now := range asks {
			before.a.share()
			prorata.Plain(before.a.l, before.a.least, before.a.q)
			if got := now.a.share(); !slices.Equal(got, now.share) {
				t.Errorf("R4: %s after %s: %s, want %s", now.a, before.a, show(got), show(now.share))
			}
			if got := prorata.Plain(now.a.l, now.a.least, now.a.q); !slices.Equal(got, now.plain) {
				t.Errorf("R4: Plain as in %s after %s: %s, want %s", now.a, before.a, show(got), show(now.plain))
			}
		}
	}
}
