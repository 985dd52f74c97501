package command_test

import (
	"math"
	"strings"
	"testing"

	"cornhill/api"
	"cornhill/command"
)

// edit sets one field of a command.
type edit struct {
	field string
	do    func(c *api.Command)
}

// fault is an edit for which Right must return an error if the Kind uses the field. Its class is the line of the chapter's list that says so.
type fault struct {
	edit
	class int
	err   api.Errno
}

// usedBy are the Kinds for which each class is checked.
var usedBy = map[int][]int{1: {1, 2, 3, 4}, 2: {1, 2, 3, 4}, 3: {1}, 4: {1}, 5: {1, 3, 4}, 6: {1}, 7: {1}, 8: {1, 4}, 9: {1}}

// far are numbers beyond each limit, among them those of which the lowest bits are within.
var far = []int64{math.MinInt64, math.MinInt64 + 1, math.MinInt64 + 2, math.MinInt64 / 2, -1<<40 - 1, -1 << 32, -1<<32 + 1, 1<<40 + 1, 1<<41 + 1, 1<<48 + 2, math.MaxInt64 / 2, math.MaxInt64 - 1, math.MaxInt64}

// edits returns an edit for each of the values.
func edits[T any](field string, set func(c *api.Command, value T), values ...T) []edit {
	var all []edit
	for _, value := range values {
		all = append(all, edit{field, func(c *api.Command) { set(c, value) }})
	}
	return all
}

func setKind(c *api.Command, n int)     { c.Kind = n }
func setID(c *api.Command, n int64)     { c.ID = n }
func setInst(c *api.Command, n int)     { c.Inst = n }
func setSide(c *api.Command, n int)     { c.Side = n }
func setPrice(c *api.Command, n int64)  { c.Price = n }
func setQty(c *api.Command, n int64)    { c.Qty = n }
func setLeast(c *api.Command, n int64)  { c.Least = n }
func setTime(c *api.Command, n int)     { c.Time = n }
func setLabel(c *api.Command, s string) { c.Label = s }

func ints(l []int64) []int {
	var all []int
	for _, n := range l {
		all = append(all, int(n))
	}
	return all
}

// wrongLabels are neither empty nor valid.
func wrongLabels() []string {
	all := []string{
		strings.Repeat("a", 13), strings.Repeat("é", 13), strings.Repeat("\u2020", 13), strings.Repeat("\U0001f600", 13), strings.Repeat("a", 255), strings.Repeat("a", 256), strings.Repeat("a", 1<<16),
		"\xff", "\x80", "\xc3", "a\xff", "\xffa", "a\xc3", "\xe2\x80", "\xed\xa0\x80", "\xf4\x90\x80\x80", "\xc0\x80", "\ufffd", "a\ufffdb", "\x7f", "a\x7f", strings.Repeat("a", 11) + "\xff", strings.Repeat("a", 12) + "\xff",
	}
	for r := range rune(32) {
		all = append(all, string(r), "a"+string(r)+"b")
	}
	return all
}

// rightLabels are empty or valid.
func rightLabels() []string {
	return []string{
		"", " ", "a", "~", "é", "\u0080", "\u2020", "\ufffc", "\ufffe", "\U0001f600", "\U0010ffff", "a b", "            ",
		strings.Repeat("a", 12), strings.Repeat("é", 12), strings.Repeat("\u2020", 12), strings.Repeat("\U0001f600", 12), "aé\u2020\U0001f600Ω- ~Bcde",
	}
}

// faults returns the faults of each class. None of them, done to full, makes one of an earlier class.
func faults() []fault {
	var all []fault
	add := func(class int, err api.Errno, lists ...[]edit) {
		for _, l := range lists {
			for _, e := range l {
				all = append(all, fault{e, class, err})
			}
		}
	}
	add(1, api.ErrKind, edits("Kind", setKind, noKinds...))
	add(2, api.ErrArg, edits("ID", setID, 0, -1, -2, -api.MaxID, api.MaxID+1, api.MaxID+2), edits("ID", setID, far...))
	add(3, api.ErrSide, edits("Side", setSide, 0, -1, -2, 3, 4, 5, 255, 256, 257, 258, -254, -255), edits("Side", setSide, ints(far)...))
	add(4, api.ErrTime, edits("Time", setTime, 0, -1, -2, -3, 4, 5, 6, 255, 256, 257, 258, 259, -253, -254, -255), edits("Time", setTime, ints(far)...))
	add(5, api.ErrQty, edits("Qty", setQty, 0, -1, -2, -api.MaxQty, api.MaxQty+1, api.MaxQty+2, 2*api.MaxQty), edits("Qty", setQty, far...))
	add(6, api.ErrLeast,
		edits("Least", setLeast, -1, -2, -54321, -654321, 654322, 654323, 1000000, 1000001), edits("Least", setLeast, far...),
		edits("Qty", setQty, 54320, 54319, 1))
	add(7, api.ErrLabel, edits("Label", setLabel, wrongLabels()...))
	add(8, api.ErrBand, edits("Price", setPrice, -2000001, -2000002, -3000000, 2000001, 2000002, 3000000), edits("Price", setPrice, far...))
	add(9, api.ErrInst, edits("Inst", setInst, -1, -2, -255, -256, 256, 257, 258, 511, 512, 65536), edits("Inst", setInst, ints(far)...))
	return all
}

// applies reports whether the Kind uses the field of f, so that f counts.
func (f fault) applies(kind int) bool {
	for _, k := range usedBy[f.class] {
		if k == kind {
			return true
		}
	}
	return false
}

// edited returns the full command of that Kind, changed so.
func edited(kind int, list ...edit) api.Command {
	c := full(kind)
	for _, e := range list {
		e.do(&c)
	}
	return c
}

func checkRight(t *testing.T, c api.Command, want api.Errno) {
	t.Helper()
	if got := command.Right(c); got != want {
		t.Errorf("P6.2: Right(%s): %d, want %d", tell(c), int(got), int(want))
	}
}

// ends returns valid commands of that Kind with each field at its ends and next to them.
func ends(kind int) []api.Command {
	lists := [][]edit{
		{{"", func(*api.Command) {}}},
		edits("ID", setID, 1, 2, 255, 256, 1<<32, api.MaxID-1, api.MaxID),
		edits("Side", setSide, 1, 2),
		edits("Time", setTime, 1, 2, 3),
		edits("Qty", setQty, 54321, 54322, 999999, 1000000),
		edits("Least", setLeast, 0, 1, 654320, 654321),
		edits("Label", setLabel, rightLabels()...),
		edits("Price", setPrice, -2000000, -1999999, -1000001, -1000000, -1, 0, 1, 1000000, 1000001, 1999999, 2000000),
		edits("Inst", setInst, 0, 1, 21, 127, 128, 254, 255),
		{
			{"Qty, Least", func(c *api.Command) { c.Qty, c.Least = 1, 0 }},
			{"Qty, Least", func(c *api.Command) { c.Qty, c.Least = 1, 1 }},
			{"Qty, Least", func(c *api.Command) { c.Qty, c.Least = 2, 1 }},
			{"Qty, Least", func(c *api.Command) { c.Qty, c.Least = 1000000, 0 }},
			{"Qty, Least", func(c *api.Command) { c.Qty, c.Least = 1000000, 1000000 }},
			{"Qty, Least", func(c *api.Command) { c.Qty, c.Least = 999999, 999999 }},
		},
	}
	var all []api.Command
	for _, l := range lists {
		for _, e := range l {
			all = append(all, edited(kind, e))
		}
	}
	return append(all,
		api.Command{Kind: kind, ID: 1, Inst: 0, Side: 1, Price: -2000000, Qty: 1, Least: 0, Time: 1, Label: ""},
		api.Command{Kind: kind, ID: 1 << 40, Inst: 255, Side: 2, Price: 2000000, Qty: 1000000, Least: 1000000, Time: 3, Label: strings.Repeat("\U0010ffff", 12)})
}

func TestRightAtTheEnds(t *testing.T) {
	for _, kind := range kinds {
		for _, c := range ends(kind) {
			checkRight(t, c, api.OK)
			checkRight(t, used(c), api.OK)
		}
	}
}

// TestRightOfEachFault: alone, for the Kinds that use the field and for those that do not (P6.2).
func TestRightOfEachFault(t *testing.T) {
	for _, kind := range kinds {
		for _, f := range faults() {
			want := api.OK
			if f.applies(kind) {
				want = f.err
			}
			checkRight(t, edited(kind, f.edit), want)
		}
	}
}

// TestRightOfTwoFaults: of every two, that of the earlier class among those that apply (P6.2, R8).
func TestRightOfTwoFaults(t *testing.T) {
	all := faults()
	for _, kind := range kinds {
		for _, f := range all {
			for _, g := range all {
				if f.field == g.field {
					continue
				}
				want, class := api.OK, math.MaxInt
				for _, x := range []fault{f, g} {
					if x.applies(kind) && x.class < class {
						want, class = x.err, x.class
					}
				}
				checkRight(t, edited(kind, f.edit, g.edit), want)
			}
		}
	}
}

// TestRightOfAllFaults: with all fields wrong, and then with one after the other set right, in the order of the list (P6.2, R8).
func TestRightOfAllFaults(t *testing.T) {
	for _, r := range []struct {
		kind int
		want []api.Errno
	}{
		{1, []api.Errno{api.ErrArg, api.ErrSide, api.ErrTime, api.ErrQty, api.ErrLeast, api.ErrLabel, api.ErrBand, api.ErrInst, api.OK}},
		{2, []api.Errno{api.ErrArg, api.OK, api.OK, api.OK, api.OK, api.OK, api.OK, api.OK, api.OK}},
		{3, []api.Errno{api.ErrArg, api.ErrQty, api.ErrQty, api.ErrQty, api.OK, api.OK, api.OK, api.OK, api.OK}},
		{4, []api.Errno{api.ErrArg, api.ErrQty, api.ErrQty, api.ErrQty, api.ErrBand, api.ErrBand, api.ErrBand, api.OK, api.OK}},
	} {
		for _, c := range []api.Command{
			{ID: 0, Inst: -1, Side: 0, Price: -2000001, Qty: 0, Least: -1, Time: 0, Label: "\xff"},
			{ID: api.MaxID + 1, Inst: 256, Side: 3, Price: 2000001, Qty: 1000001, Least: 1000002, Time: 4, Label: "1234567890123"},
			{ID: math.MinInt64, Inst: math.MinInt, Side: math.MinInt, Price: math.MinInt64, Qty: math.MinInt64, Least: math.MinInt64, Time: math.MinInt, Label: strings.Repeat("\n", 1000)},
			{ID: math.MaxInt64, Inst: math.MaxInt, Side: math.MaxInt, Price: math.MaxInt64, Qty: math.MaxInt64, Least: math.MaxInt64, Time: math.MaxInt, Label: "\x7f"},
		} {
			c.Kind = 0
			checkRight(t, c, api.ErrKind)
			c.Kind = r.kind
			right := full(r.kind)
			mend := []func(){
				func() { c.ID = right.ID }, func() { c.Side = right.Side }, func() { c.Time = right.Time }, func() { c.Qty = right.Qty },
				func() { c.Least = right.Least }, func() { c.Label = right.Label }, func() { c.Price = right.Price }, func() { c.Inst = right.Inst },
			}
			for i, want := range r.want {
				checkRight(t, c, want)
				if i < len(mend) {
					mend[i]()
				}
			}
		}
	}
}

// TestRightOfLeastAndQty: every pair at which Least meets Qty (P6.2).
func TestRightOfLeastAndQty(t *testing.T) {
	for _, qty := range []int64{1, 2, 3, 10, 255, 256, 999999, 1000000} {
		for least, want := range map[int64]api.Errno{-1: api.ErrLeast, 0: api.OK, qty - 1: api.OK, qty: api.OK, qty + 1: api.ErrLeast, 2*qty + 1: api.ErrLeast, math.MaxInt64: api.ErrLeast, math.MinInt64: api.ErrLeast} {
			for _, time := range []int{1, 2, 3} {
				c := full(1)
				c.Qty, c.Least, c.Time = qty, least, time
				checkRight(t, c, want)
			}
		}
	}
	// a Least that fits a Qty that does not
	for _, qty := range []int64{0, -1, 1000001, math.MaxInt64, math.MinInt64} {
		for _, least := range []int64{0, qty, qty - 1, qty + 1} {
			checkRight(t, edited(1, edits("Qty", setQty, qty)[0], edits("Least", setLeast, least)[0]), api.ErrQty)
		}
	}
}

// TestRightOfKinds: the Kind is the first of all that is asked (P6.2).
func TestRightOfKinds(t *testing.T) {
	checkRight(t, api.Command{}, api.ErrKind)
	for _, kind := range noKinds {
		checkRight(t, api.Command{Kind: kind}, api.ErrKind)
		checkRight(t, full(kind), api.ErrKind)
	}
	for _, kind := range kinds {
		checkRight(t, api.Command{Kind: kind}, api.ErrArg)
		checkRight(t, full(kind), api.OK)
	}
	checkRight(t, api.Command{Kind: 1, ID: 1}, api.ErrSide)
	checkRight(t, api.Command{Kind: 2, ID: 1}, api.OK)
	checkRight(t, api.Command{Kind: 3, ID: 1}, api.ErrQty)
	checkRight(t, api.Command{Kind: 4, ID: 1}, api.ErrQty)
}
