package level_test

import (
	"math"
	"slices"
	"testing"

	"cornhill/api"
	"cornhill/level"
)

// largest is the greatest quantity of an order (MaxQty).
const largest = 1000000

// noQuantities are quantities that no order has and none can be taken of.
var noQuantities = []int64{0, -1, -2, -largest, -largest - 1, -1 << 32, -1<<32 + 5, math.MinInt64, math.MinInt64 + 1}

// greatQuantities are quantities that are too much for an order.
var greatQuantities = []int64{largest + 1, largest + 2, 1 << 31, 1 << 32, 1<<32 + 5, 1 << 40, math.MaxInt64 - 1, math.MaxInt64}

func checkRefusedRoom(t *testing.T, room int) {
	t.Helper()
	if a, err := level.New(room); a != nil || err != api.ErrArg {
		t.Errorf("P8.1: New(%d): %v, %d, want no arena, %d", room, a, int(err), int(api.ErrArg))
	}
}

// TestNewRefusesRooms: below 1 and above 4096 (P8.1).
func TestNewRefusesRooms(t *testing.T) {
	for _, room := range []int{0, -1, -2, -4096, -4097, -1 << 16, -1 << 31, -1 << 32, -1<<32 + 1, math.MinInt, math.MinInt + 1} {
		checkRefusedRoom(t, room)
	}
	for _, room := range []int{4097, 4098, 8192, 1 << 16, 1<<16 + 1, 1 << 31, 1 << 32, 1<<32 + 1, math.MaxInt} {
		checkRefusedRoom(t, room)
	}
}

// TestNewArenas: of each room, with all slots free and no queue (P8.1).
func TestNewArenas(t *testing.T) {
	for room := 1; room <= 4096; room++ {
		if got := newArena(t, room).Free(); got != room {
			t.Errorf("P8.1: New(%d): %d free slots", room, got)
		}
	}
	for _, room := range []int{1, 2, 3, 250, 255, 256, 257, 4095, 4096} {
		p := newPair(t, room)
		p.check()
		for _, queue := range around(0) {
			p.push(queue, 1, 1, false)
		}
		for _, slot := range around(room) {
			p.take(slot, 1)
			p.top(slot, true)
		}
		p.check()
	}
}

// TestEverySlotIsUsed: an arena takes as many orders as it has slots, from the first to the last, and no more (P8.1).
func TestEverySlotIsUsed(t *testing.T) {
	for _, room := range []int{1, 2, 3, 63, 64, 65, 255, 256, 257, 1000, 4095, 4096} {
		a := newArena(t, room)
		queue := a.Open()
		for want := range room {
			if slot, err := a.Push(queue, int64(want), 1, false); slot != want || err != api.OK {
				t.Fatalf("P8.1: room %d: Push: %d, %d, want %d", room, slot, int(err), want)
			}
			if free := a.Free(); free != room-want-1 {
				t.Fatalf("P8.2: room %d: Free behind %d orders: %d", room, want+1, free)
			}
		}
		if slot, err := a.Push(queue, 7, 1, false); slot != 0 || err != api.ErrFull {
			t.Errorf("P8.1: room %d: Push into the full arena: %d, %d, want 0, %d", room, slot, int(err), int(api.ErrFull))
		}
		if n := a.Count(queue); n != room {
			t.Errorf("P8.2: room %d: Count of the full arena's queue: %d", room, n)
		}
	}
}

// TestOpenNumbers: 0, 1 and so on, whatever has come between (P8.1).
func TestOpenNumbers(t *testing.T) {
	a := newArena(t, 1)
	for want := range 5000 {
		if got := a.Open(); got != want {
			t.Fatalf("P8.1: Open: %d, want %d", got, want)
		}
	}
	if n := a.Free(); n != 1 {
		t.Errorf("P8.1: Open has used a slot: %d are free", n)
	}

	p := newPair(t, 2).opened(1)
	p.push(0, 1, 5, false)
	p.open()
	p.push(1, 2, 5, true)
	p.open()
	p.push(2, 3, 5, false) // the arena is full
	p.open()
	p.push(4, 3, 5, false) // the next number is not yet open
	p.open()
	p.takeAll(0)
	p.takeAll(1) // both queues are empty, and are queues still
	p.open()
	p.check()
	p.push(0, 4, 1, false)
	p.push(5, 5, 1, false)
	p.check()
}

// TestPushQuantities: from 1 to MaxQty (P8.1).
func TestPushQuantities(t *testing.T) {
	p := newPair(t, 8).opened(2)
	for _, qty := range []int64{1, 2, 255, 256, 65536, largest - 1, largest} {
		p.push(1, 7, qty, false)
		p.check()
	}
	for _, qty := range slices.Concat(noQuantities, greatQuantities) {
		if slot, err := p.push(1, 7, qty, false); slot != 0 || err != api.ErrQty {
			t.Errorf("P8.1: Push of %d: %d, %d, want 0, %d", qty, slot, int(err), int(api.ErrQty))
		}
		p.check()
	}
}

// TestPushKeepsItsOrder: each ID, since the chapter refuses none, and the same one twice too (P8.1, P8.2).
func TestPushKeepsItsOrder(t *testing.T) {
	ids := []int64{0, 1, 7, 7, -1, 255, 256, 1<<31 - 1, 1 << 31, 1 << 32, api.MaxID, api.MaxID + 1, math.MaxInt64, math.MinInt64, 7}
	p := newPair(t, 2*len(ids)).opened(1)
	for i, id := range ids {
		for _, top := range []bool{i%2 == 0, i%3 == 0} {
			slot, _ := p.push(0, id, int64(i)+1, top)
			want := level.Entry{Slot: slot, ID: id, Qty: int64(i) + 1, Top: top}
			if got, ok := p.arena.Get(slot); got != want || !ok {
				t.Errorf("P8.1: Get(%d): %v, %t, want %v", slot, got, ok, want)
			}
		}
	}
	p.check()
}

// TestPushIntoNoQueue: below 0, and from the number that Open would return next on (P8.1).
func TestPushIntoNoQueue(t *testing.T) {
	for queues := range 4 {
		p := newPair(t, 3).opened(queues)
		for _, queue := range slices.Concat(far, []int{queues, queues + 1, queues + 2}) {
			if slot, err := p.push(queue, 7, 1, false); slot != 0 || err != api.ErrNone {
				t.Errorf("P8.1: Push into queue %d of %d: %d, %d, want 0, %d", queue, queues, slot, int(err), int(api.ErrNone))
			}
		}
		p.check()
	}
}

// TestOrderOfPushErrors: the queue, the quantity, the room (P8.1).
func TestOrderOfPushErrors(t *testing.T) {
	room, full := newPair(t, 2).opened(1), newPair(t, 2).opened(1)
	full.push(0, 1, 5, false)
	full.push(0, 2, largest, true)
	quantities := slices.Concat(noQuantities, greatQuantities, []int64{1, largest})
	for _, queue := range []int{-1, 1, 2, math.MinInt, math.MaxInt, 0} {
		for _, qty := range quantities {
			for _, p := range []*pair{full, room} {
				want := api.OK
				switch {
				case queue != 0:
					want = api.ErrNone
				case qty != 1 && qty != largest:
					want = api.ErrQty
				case p == full:
					want = api.ErrFull
				}
				if _, err := p.push(queue, 3, qty, true); err != want {
					t.Errorf("P8.1: Push(%d, 3, %d, true), %d slots free: %d, want %d", queue, qty, p.arena.Free(), int(err), int(want))
				}
				p.check()
			}
		}
	}
}

// filled is an arena of so many slots, all of them used, whose orders went to the queues in turn.
func filled(t *testing.T, room, queues int) *pair {
	t.Helper()
	p := newPair(t, room).opened(queues)
	for i := range room {
		p.push(i%queues, int64(100+i), int64(i%3+1), i%2 == 0)
	}
	return p
}

// TestPushTakesLowestFreeSlot: whichever slots were emptied before, in whichever direction, in one queue and among several (P8.1).
func TestPushTakesLowestFreeSlot(t *testing.T) {
	const room = 6
	for queues := 1; queues <= 3; queues++ {
		for chosen := range 1 << room {
			for _, backwards := range []bool{false, true} {
				var emptied []int
				for slot := range room {
					if chosen>>slot&1 == 1 {
						emptied = append(emptied, slot)
					}
				}
				want := slices.Clone(emptied)
				if backwards {
					slices.Reverse(emptied)
				}
				p := filled(t, room, queues)
				for _, slot := range emptied {
					p.takeAll(slot)
				}
				p.check()
				for i, slot := range want {
					if got, err := p.push(i%queues, int64(i), 1, false); got != slot || err != api.OK {
						t.Errorf("P8.1: %v: Push: %d, %d, want %d", p.calls, got, int(err), slot)
					}
				}
				p.push(0, 9, 1, false) // it is full again
				p.check()
			}
		}
	}
}

// TestExamples: those of the chapter.
func TestExamples(t *testing.T) {
	p := newPair(t, 4).opened(1)
	p.push(0, 1, 5, false)
	p.push(0, 2, 6, false)
	p.take(0, 5)
	if slot, err := p.push(0, 3, 7, false); slot != 0 || err != api.OK {
		t.Errorf("P8.1: Push behind a removal: %d, %d, want 0", slot, int(err))
	}
	want := []level.Entry{{Slot: 1, ID: 2, Qty: 6}, {Slot: 0, ID: 3, Qty: 7}}
	if got := p.arena.List(0); !slices.Equal(got, want) {
		t.Errorf("P8.2: List: %v, want %v", got, want)
	}
	if got := p.arena.List(1); len(got) != 0 {
		t.Errorf("P8.2: List of a queue that does not exist: %v", got)
	}
	if err := p.take(0, 8); err != api.ErrQty {
		t.Errorf("P8.1: Take of more than there is: %d, want %d", int(err), int(api.ErrQty))
	}
	p.check()
}

// TestTakeParts: an order stays where it is until nothing is left (P8.1).
func TestTakeParts(t *testing.T) {
	for slot := range 5 {
		for _, parts := range [][]int64{{10}, {1, 9}, {9, 1}, {5, 5}, {1, 1, 1, 1, 1, 1, 1, 1, 1, 1}, {3, 4, 2, 1}} {
			p := newPair(t, 5).opened(1)
			for i := range 5 {
				p.push(0, int64(i), 10, i == slot)
			}
			left := int64(10)
			for _, part := range parts {
				if err := p.take(slot, part); err != api.OK {
					t.Errorf("P8.1: %v: %d", p.calls, int(err))
				}
				left -= part
				if e, ok := p.arena.Get(slot); e.Qty != left || ok != (left > 0) {
					t.Errorf("P8.1: %v: Get: %v, %t, want the quantity %d", p.calls, e, ok, left)
				}
				p.check()
			}
			if err := p.take(slot, 1); err != api.ErrNone {
				t.Errorf("P8.1: %v: %d, want %d", p.calls, int(err), int(api.ErrNone))
			}
			p.check()
		}
	}
}

// TestTakeQuantities: from 1 to the quantity of the order (P8.1).
func TestTakeQuantities(t *testing.T) {
	for _, has := range []int64{1, 2, 3, 255, 256, 65536, largest - 1, largest} {
		for _, qty := range slices.Concat(noQuantities, greatQuantities, []int64{has + 1, has + 2, 2 * has}) {
			if qty == has || qty == 1 {
				continue
			}
			p := newPair(t, 2).opened(1)
			p.push(0, 1, has, true)
			p.push(0, 2, largest, true)
			want := api.OK
			if qty < 1 || qty > has {
				want = api.ErrQty
			}
			if err := p.take(0, qty); err != want {
				t.Errorf("P8.1: Take of %d from %d: %d, want %d", qty, has, int(err), int(want))
			}
			p.check()
		}
		for _, qty := range []int64{1, has} {
			p := newPair(t, 1).opened(1)
			p.push(0, 1, has, false)
			if err := p.take(0, qty); err != api.OK {
				t.Errorf("P8.1: Take of %d from %d: %d", qty, has, int(err))
			}
			p.check()
		}
	}
}

// TestTakeHoldsToWhatIsLeft: not to the quantity with which the order came (P8.1).
func TestTakeHoldsToWhatIsLeft(t *testing.T) {
	p := newPair(t, 1).opened(1)
	p.push(0, 1, 10, false)
	p.take(0, 7)
	for _, qty := range []int64{4, 5, 7, 10} {
		if err := p.take(0, qty); err != api.ErrQty {
			t.Errorf("P8.1: Take of %d from 3: %d, want %d", qty, int(err), int(api.ErrQty))
		}
		p.check()
	}
	p.take(0, 3)
	p.check()
}

// TestCallsOfNoOrder: free slots and numbers of none are ErrNone, whatever is asked of them (P8.1).
func TestCallsOfNoOrder(t *testing.T) {
	quantities := slices.Concat(noQuantities, greatQuantities, []int64{1, 2, 5, largest})
	p := newPair(t, 5).opened(2)
	for i := range 5 {
		p.push(i%2, int64(i), 5, i%2 == 0)
	}
	for _, slot := range []int{0, 2, 4} {
		p.takeAll(slot)
	}
	for _, slot := range slices.Concat(far, []int{0, 2, 4, 5, 6, 7}) {
		for _, qty := range quantities {
			if err := p.take(slot, qty); err != api.ErrNone {
				t.Errorf("P8.1: Take(%d, %d): %d, want %d", slot, qty, int(err), int(api.ErrNone))
			}
		}
		for _, top := range []bool{true, false} {
			if err := p.top(slot, top); err != api.ErrNone {
				t.Errorf("P8.1: Top(%d, %t): %d, want %d", slot, top, int(err), int(api.ErrNone))
			}
		}
		p.check()
	}
	p.push(0, 6, 5, false) // the slot is as it was before any of them
	p.check()
}

// TestTop: set and set back, of orders that came with the flag and without it, each on its own (P8.1).
func TestTop(t *testing.T) {
	for slot := range 4 {
		for before := range 1 << 4 {
			p := newPair(t, 4).opened(2)
			for i := range 4 {
				p.push(i%2, int64(i), 5, before>>i&1 == 1)
			}
			for _, top := range []bool{true, true, false, false, true, false} {
				if err := p.top(slot, top); err != api.OK {
					t.Errorf("P8.1: Top(%d, %t): %d", slot, top, int(err))
				}
				if e, _ := p.arena.Get(slot); e.Top != top {
					t.Errorf("P8.1: Top(%d, %t): the order has %t", slot, top, e.Top)
				}
				p.check()
			}
		}
	}
}

// TestTopStays: through parts that are taken, and not for the next order in the slot (P8.1).
func TestTopStays(t *testing.T) {
	p := newPair(t, 2).opened(1)
	p.push(0, 1, 5, false)
	p.push(0, 2, 5, true)
	p.top(0, true)
	p.top(1, false)
	p.take(0, 2)
	p.take(1, 2)
	p.check()
	p.takeAll(0)
	p.takeAll(1)
	p.push(0, 3, 5, false)
	p.push(0, 4, 5, false)
	p.check()
}

// refuse makes calls that are all refused, and asks after each one whether anything is other than before.
func refuse(t *testing.T, p *pair) {
	t.Helper()
	queues, full := len(p.model.queues), p.arena.Free() == 0
	for _, queue := range around(queues) {
		for _, qty := range []int64{1, 0, -1, largest, largest + 1, math.MinInt64, math.MaxInt64} {
			if queue >= 0 && queue < queues && qty >= 1 && qty <= largest && !full {
				continue
			}
			if _, err := p.push(queue, 99, qty, true); err == api.OK {
				t.Errorf("P8.1: %v: not refused", p.calls)
			}
			p.check()
		}
	}
	for _, slot := range around(p.model.room) {
		e, used := p.arena.Get(slot)
		for _, qty := range []int64{0, -1, math.MinInt64, e.Qty + 1, 1 << 32, math.MaxInt64} {
			if err := p.take(slot, qty); err == api.OK {
				t.Errorf("P8.1: %v: not refused", p.calls)
			}
			p.check()
		}
		if !used {
			p.top(slot, true)
			p.check()
		}
	}
}

// TestRefusedCallsChangeNothing: neither what is asked behind them nor what the next calls do (R3).
func TestRefusedCallsChangeNothing(t *testing.T) {
	for _, queues := range []int{0, 1, 3} {
		for orders := range 5 {
			p := newPair(t, 4).opened(queues)
			for i := range min(orders, 4*queues) {
				p.push(i%queues, int64(i), int64(i)+1, i%2 == 0)
			}
			for slot := 0; slot < orders/2 && queues > 0; slot++ {
				p.takeAll(slot)
			}
			refuse(t, p)
			p.open()
			for i := range 5 {
				p.push(i%(queues+1), int64(10+i), 7, false)
				p.check()
			}
			refuse(t, p)
			p.open()
			for slot := range 4 {
				p.takeAll(slot)
				p.check()
			}
			refuse(t, p)
		}
	}
}
