package book

import (
	"testing"

	"cornhill/api"
)

// TestQueuesAreUsedAgain: a book keeps no more queues than it can have levels at once, however many have come and gone.
func TestQueuesAreUsedAgain(t *testing.T) {
	b := New()
	for i := range int64(20 * api.MaxOrders) {
		if gone := i - api.MaxOrders; gone >= 0 {
			if err := b.Fill(gone, 1); err != api.OK {
				t.Fatalf("P9.1: Fill(%d, 1): %d", gone, int(err))
			}
		}
		if err := b.Add(i, api.Buy+int(i%3%2), i*7919%5000, 1); err != api.OK {
			t.Fatalf("P9.1: Add(%d): %d", i, int(err))
		}
	}
	if queues := b.arena.Open(); queues > api.MaxOrders {
		t.Errorf("the arena has %d queues for at most %d levels", queues, api.MaxOrders)
	}
}
