package command

import (
	"strings"
	"testing"
	"unsafe"

	"cornhill/api"
)

// TestNoLabelIsKept: a Value holds a copy, which only a test within the package can see (R2).
func TestNoLabelIsKept(t *testing.T) {
	given := strings.Repeat("a", 12)
	for call, v := range map[string]Value{
		"Order": Order(api.Order{Label: given}),
		"Back":  Back(api.Command{Kind: api.New, Label: given}),
	} {
		o, ok := v.content.(api.Order)
		if !ok || o.Label != given {
			t.Errorf("P6.1: %s: content %v, want an order with the label %+q", call, v.content, given)
		}
		if unsafe.StringData(o.Label) == unsafe.StringData(given) {
			t.Errorf("R2: %s keeps the memory of its label", call)
		}
	}
}
