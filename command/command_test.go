package command_test

import (
	"fmt"
	"math"
	"strings"
	"testing"
	"unsafe"

	"cornhill/api"
	"cornhill/command"
)

// kinds are the Kinds of commands, told as numbers so that no constant can be taken for another.
var kinds = []int{1, 2, 3, 4}

// noKinds are the numbers beside them, numbers that are one of them when only their lowest bits are kept, and great ones.
var noKinds = []int{
	0, -1, -2, -3, -4, -5, 5, 6, 7, 8, 9, 16, 127, 128, 255, 256, 257, 258, 259, 260, 261, -252, -253, -254, -255, -256,
	1<<16 + 1, 1<<32 + 1, 1<<32 + 2, 1<<32 + 3, 1<<32 + 4, -1<<32 + 1, 1 << 40, math.MaxInt32, math.MinInt32, math.MaxInt, math.MaxInt - 1, math.MinInt, math.MinInt + 1, math.MinInt + 2,
}

// orders, withdrawals, cuts and changes are valid and not valid: the functions for Values do not ask.
var (
	orders = []api.Order{
		{},
		{ID: 7, Inst: 3, Side: 2, Price: -40, Qty: 50, Least: 60, Time: 1, Label: "é b"},
		{ID: 1}, {Inst: 1}, {Side: 1}, {Price: 1}, {Qty: 1}, {Least: 1}, {Time: 1}, {Label: "a"},
		{ID: -1, Inst: -2, Side: -3, Price: -4, Qty: -5, Least: -6, Time: -7, Label: "\xff\x00"},
		{ID: math.MaxInt64, Inst: math.MaxInt, Side: math.MaxInt - 1, Price: math.MaxInt64 - 2, Qty: math.MaxInt64 - 3, Least: math.MaxInt64 - 4, Time: math.MaxInt - 5, Label: strings.Repeat("Ω", 1000)},
		{ID: math.MinInt64, Inst: math.MinInt, Side: math.MinInt + 1, Price: math.MinInt64 + 2, Qty: math.MinInt64 + 3, Least: math.MinInt64 + 4, Time: math.MinInt + 5, Label: strings.Repeat("\xff", 1<<16)},
	}
	withdrawals = []api.Withdrawal{{}, {ID: 7}, {ID: 1}, {ID: -1}, {ID: api.MaxID}, {ID: math.MaxInt64}, {ID: math.MinInt64}}
	cuts        = []api.Cut{{}, {ID: 7, Qty: 50}, {ID: 1}, {Qty: 1}, {ID: -1, Qty: -2}, {ID: math.MaxInt64, Qty: math.MinInt64}, {ID: math.MinInt64, Qty: math.MaxInt64}}
	replaces    = []api.Change{{}, {ID: 7, Price: -40, Qty: 50}, {ID: 1}, {Price: 1}, {Qty: 1}, {ID: -1, Price: -2, Qty: -3}, {ID: math.MaxInt64, Price: math.MinInt64, Qty: math.MaxInt64 - 1}, {ID: math.MinInt64, Price: math.MaxInt64, Qty: math.MinInt64 + 1}}
)

// full returns a valid command of that Kind in which every field is set, those too that the Kind does not use, and no two are alike.
func full(kind int) api.Command {
	return api.Command{Kind: kind, ID: 0x0a0b0c0d0e, Inst: 17, Side: 2, Price: -1234567, Qty: 654321, Least: 54321, Time: 3, Label: "Ωé\u2020 a"}
}

// used returns c with the fields that its Kind uses, each spelt out.
func used(c api.Command) api.Command {
	switch c.Kind {
	case 1:
		return c
	case 2:
		return api.Command{Kind: 2, ID: c.ID}
	case 3:
		return api.Command{Kind: 3, ID: c.ID, Qty: c.Qty}
	case 4:
		return api.Command{Kind: 4, ID: c.ID, Price: c.Price, Qty: c.Qty}
	}
	return api.Command{}
}

// tell writes c shortly, whatever its label.
func tell(c api.Command) string {
	return fmt.Sprintf("{Kind %d, ID %d, Inst %d, Side %d, Price %d, Qty %d, Least %d, Time %d, Label %+.60q}", c.Kind, c.ID, c.Inst, c.Side, c.Price, c.Qty, c.Least, c.Time, c.Label)
}

func checkOf(t *testing.T, what string, v command.Value, want api.Command, wantOK bool) {
	t.Helper()
	got, ok := command.Of(v)
	if got != want || ok != wantOK {
		t.Errorf("P6.1: Of(%.100s): %s, %v, want %s, %v", what, tell(got), ok, tell(want), wantOK)
	}
}

// must returns what Must returns, and whether it panicked.
func must(v command.Value) (o api.Order, panicked bool) {
	defer func() { panicked = recover() != nil }()
	return command.Must(v), false
}

func checkMust(t *testing.T, what string, v command.Value, want api.Order) {
	t.Helper()
	got, panicked := must(v)
	if got != want || panicked {
		t.Errorf("P6.1: Must(%.100s): %.100v, panicked: %v, want %.100v", what, got, panicked, want)
	}
}

func checkMustPanics(t *testing.T, what string, v command.Value) {
	t.Helper()
	if got, panicked := must(v); !panicked {
		t.Errorf("P6.1: Must(%.100s): %.100v, want a panic", what, got)
	}
}

func TestOfEachType(t *testing.T) {
	for _, o := range orders {
		want := api.Command{Kind: 1, ID: o.ID, Inst: o.Inst, Side: o.Side, Price: o.Price, Qty: o.Qty, Least: o.Least, Time: o.Time, Label: o.Label}
		checkOf(t, fmt.Sprintf("Order(%.100v)", o), command.Order(o), want, true)
	}
	for _, w := range withdrawals {
		checkOf(t, fmt.Sprintf("Withdrawal(%v)", w), command.Withdrawal(w), api.Command{Kind: 2, ID: w.ID}, true)
	}
	for _, c := range cuts {
		checkOf(t, fmt.Sprintf("Cut(%v)", c), command.Cut(c), api.Command{Kind: 3, ID: c.ID, Qty: c.Qty}, true)
	}
	for _, c := range replaces {
		checkOf(t, fmt.Sprintf("Change(%v)", c), command.Change(c), api.Command{Kind: 4, ID: c.ID, Price: c.Price, Qty: c.Qty}, true)
	}
}

func TestOfNoContent(t *testing.T) {
	checkOf(t, "the zero Value", command.Value{}, api.Command{}, false)
	var v command.Value
	checkOf(t, "a Value that nothing was assigned to", v, api.Command{}, false)
	checkOf(t, "Back of the zero Command", command.Back(api.Command{}), api.Command{}, false)
}

// TestOfBack: a command comes back, but for the fields that its Kind does not use (P6.1).
func TestOfBack(t *testing.T) {
	for _, kind := range kinds {
		for _, c := range []api.Command{full(kind), {Kind: kind}, {Kind: kind, ID: -1, Inst: -2, Side: -3, Price: -4, Qty: -5, Least: -6, Time: -7, Label: "\xff"}} {
			checkOf(t, "Back("+tell(c)+")", command.Back(c), used(c), true)
		}
		for _, o := range orders {
			c := api.Command{Kind: kind, ID: o.ID, Inst: o.Inst, Side: o.Side, Price: o.Price, Qty: o.Qty, Least: o.Least, Time: o.Time, Label: o.Label}
			checkOf(t, "Back("+tell(c)+")", command.Back(c), used(c), true)
		}
	}
}

// TestBackOf: a Value comes back as it was, and equal Values have equal contents alone (P6.1).
func TestBackOf(t *testing.T) {
	for name, v := range contents() {
		c, _ := command.Of(v)
		if command.Back(c) != v {
			t.Errorf("P6.1: Back(Of(%.100s)) is another Value", name)
		}
	}
}

func TestBackOfEachKind(t *testing.T) {
	o := api.Order{ID: 0x0a0b0c0d0e, Inst: 17, Side: 2, Price: -1234567, Qty: 654321, Least: 54321, Time: 3, Label: "Ωé\u2020 a"}
	for kind, want := range map[int]command.Value{
		1: command.Order(o),
		2: command.Withdrawal(api.Withdrawal{ID: 0x0a0b0c0d0e}),
		3: command.Cut(api.Cut{ID: 0x0a0b0c0d0e, Qty: 654321}),
		4: command.Change(api.Change{ID: 0x0a0b0c0d0e, Price: -1234567, Qty: 654321}),
	} {
		if got := command.Back(full(kind)); got != want {
			t.Errorf("P6.1: Back(%s): %v, want %v", tell(full(kind)), got, want)
		}
	}
}

func TestBackOfNoKind(t *testing.T) {
	for _, kind := range noKinds {
		for _, c := range []api.Command{full(kind), {Kind: kind}} {
			v := command.Back(c)
			if v != (command.Value{}) {
				t.Errorf("P6.1: Back(%s): %v, want the zero Value", tell(c), v)
			}
			checkOf(t, "Back("+tell(c)+")", v, api.Command{}, false)
			checkMustPanics(t, "Back("+tell(c)+")", v)
		}
	}
}

func TestMust(t *testing.T) {
	for _, o := range orders {
		checkMust(t, fmt.Sprintf("Order(%v)", o), command.Order(o), o)
	}
	o := api.Order{ID: 0x0a0b0c0d0e, Inst: 17, Side: 2, Price: -1234567, Qty: 654321, Least: 54321, Time: 3, Label: "Ωé\u2020 a"}
	checkMust(t, "Back("+tell(full(1))+")", command.Back(full(1)), o)
	checkMust(t, "Back of a New without fields", command.Back(api.Command{Kind: 1}), api.Order{})
}

func TestMustPanics(t *testing.T) {
	checkMustPanics(t, "the zero Value", command.Value{})
	for _, w := range withdrawals {
		checkMustPanics(t, fmt.Sprintf("Withdrawal(%v)", w), command.Withdrawal(w))
	}
	for _, c := range cuts {
		checkMustPanics(t, fmt.Sprintf("Cut(%v)", c), command.Cut(c))
	}
	for _, c := range replaces {
		checkMustPanics(t, fmt.Sprintf("Change(%v)", c), command.Change(c))
	}
	for _, kind := range []int{2, 3, 4} {
		checkMustPanics(t, "Back("+tell(full(kind))+")", command.Back(full(kind)))
	}
	// a panic leaves nothing behind
	checkMust(t, "Order behind panics", command.Order(orders[1]), orders[1])
}

// contents returns Values of every content, each by a name of its own.
func contents() map[string]command.Value {
	all := map[string]command.Value{"the zero Value": {}}
	for _, o := range orders {
		all[fmt.Sprintf("Order(%+v)", o)] = command.Order(o)
	}
	for _, w := range withdrawals {
		all[fmt.Sprintf("Withdrawal(%+v)", w)] = command.Withdrawal(w)
	}
	for _, c := range cuts {
		all[fmt.Sprintf("Cut(%+v)", c)] = command.Cut(c)
	}
	for _, c := range replaces {
		all[fmt.Sprintf("Change(%+v)", c)] = command.Change(c)
	}
	return all
}

// TestValuesStay: what is asked of a Value, and of others, changes nothing in it (R3, R4).
func TestValuesStay(t *testing.T) {
	all := contents()
	first := map[string]api.Command{}
	for name, v := range all {
		first[name], _ = command.Of(v)
	}
	for range 2 {
		for name, v := range all {
			must(v)
			checkOf(t, name, v, first[name], first[name] != api.Command{})
		}
	}
}

// TestLabelsAreNewMemory: no label that is handed in is kept, and none that is handed out is another's (R2).
func TestLabelsAreNewMemory(t *testing.T) {
	given := strings.Repeat("a", 12)
	v := command.Order(api.Order{Label: given})
	of, _ := command.Of(v)
	ofAgain, _ := command.Of(v)
	back := command.Back(api.Command{Kind: 1, Label: given})
	ofBack, _ := command.Of(back)
	labels := map[string]string{
		"given":        given,
		"Of(Order)":    of.Label,
		"Of, again":    ofAgain.Label,
		"Of(Back)":     ofBack.Label,
		"Must(Order)":  command.Must(v).Label,
		"Must, again":  command.Must(v).Label,
		"Must of Back": command.Must(back).Label,
	}
	owner := map[*byte]string{}
	for call, s := range labels {
		if s != given {
			t.Errorf("P6.1: %s: label %+q, want %+q", call, s, given)
		}
		if other, taken := owner[unsafe.StringData(s)]; taken {
			t.Errorf("R2: the labels of %s and %s share their memory", call, other)
		}
		owner[unsafe.StringData(s)] = call
	}
}
