package split_test

import (
	"slices"
	"testing"
)

// TestListIsLeftAlone: and the room behind it, which is neither read nor written (R2, R5).
func TestListIsLeftAlone(t *testing.T) {
	for _, behind := range []int64{0, -1, 5, largest + 1, lowest, highest} {
		for n := range 6 {
			all := append(same(n, 3), behind, behind, behind)
			before := slices.Clone(all)
			a := ask{l: all[:n]}
			for a.q = 0; a.q <= int64(3*n); a.q++ {
				for _, a.part = range parts {
					for _, a.least = range []int64{1, 2, highest} {
						checkModel(t, a)
					}
				}
			}
			checkRefused(t, all[:n], int64(3*n)+1)
			checkRefused(t, all[:n], -1)
			if !slices.Equal(all, before) {
				t.Errorf("R2: the list %v became %v", before, all)
			}
		}
	}
}

// spoil overwrites a list, and its spare capacity too.
func spoil(l []int64) {
	l = l[:cap(l)]
	for i := range l {
		l[i] = -7
	}
}

// TestSharesAreTheCallersOwn: they have no memory in common with the orders or with other shares (R2).
func TestSharesAreTheCallersOwn(t *testing.T) {
	for _, n := range []int{0, 1, 2, 3, 17, full} {
		for _, qty := range []int64{1, 4, largest} {
			sum := int64(n) * qty
			for _, q := range []int64{0, sum / 2, sum} {
				for _, part := range parts {
					checkOwn(t, ask{same(n, qty), part, 1, q})
					checkOwn(t, ask{same(n, qty), part, 3, q})
				}
			}
		}
	}
}

// checkOwn changes results and arguments, and asks whether other results and arguments have changed with them.
func checkOwn(t *testing.T, a ask) {
	t.Helper()
	want, before := model(a), slices.Clone(a.l)
	first, second := a.share(), a.share()
	spoil(first)
	spoil(append(a.share(), 5))
	if !slices.Equal(second, want) || !slices.Equal(a.l, before) {
		t.Errorf("R2: %s: %s after other shares were changed, want %s", a, show(second), show(want))
	}
	third := a.share()
	spoil(a.l)
	if !slices.Equal(third, want) {
		t.Errorf("R2: %s: %s after the list was changed, want %s", a, show(third), show(want))
	}
}

// TestCallsApart: what was asked before does not matter (R4).
func TestCallsApart(t *testing.T) {
	asks := []struct {
		a    ask
		want []int64
	}{
		{ask{nil, 50, 1, 0}, nil},
		{ask{[]int64{10, 10}, 50, 1, 10}, []int64{7, 3}},
		{ask{[]int64{10, 10}, 50, 1, 21}, nil},
		{ask{[]int64{10, 10}, 50, 0, 10}, nil},
		{ask{[]int64{10, 10}, 101, 1, 10}, nil},
		{ask{[]int64{5, 5, 10}, 50, 1, 10}, []int64{5, 2, 3}},
		{ask{same(full, largest), 33, 1, full * largest}, same(full, largest)},
		{ask{same(full+1, 1), 50, 1, 1}, nil},
		{ask{[]int64{0}, 50, 1, 0}, nil},
	}
	for _, before := range asks {
		for _, now := range asks {
			before.a.share()
			if got := now.a.share(); !slices.Equal(got, now.want) {
				t.Errorf("R4: %s after %s: %s, want %s", now.a, before.a, show(got), show(now.want))
			}
		}
	}
}
