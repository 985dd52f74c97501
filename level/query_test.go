package level_test

import (
	"slices"
	"testing"

	"cornhill/level"
)

// orders returns all orders in which the numbers below n can stand.
func orders(n int) [][]int {
	if n == 0 {
		return [][]int{{}}
	}
	var all [][]int
	for _, l := range orders(n - 1) {
		for at := range n {
			all = append(all, slices.Insert(slices.Clone(l), at, n-1))
		}
	}
	return all
}

// TestListBehindRemovals: however the orders of a queue leave it, alone in the arena or beside another one (P8.2).
func TestListBehindRemovals(t *testing.T) {
	for n := 1; n <= 5; n++ {
		for _, leave := range orders(n) {
			for queues := 1; queues <= 2; queues++ {
				p := newPair(t, n*queues).opened(queues)
				for slot := range n * queues {
					p.push(slot%queues, int64(100+slot), int64(slot)+1, false)
				}
				for _, i := range leave {
					p.takeAll(i * queues)
					p.check()
				}
				// What comes afterwards stands behind those that stayed, and first where none did.
				for slot := range n {
					p.push(slot%queues, int64(200+slot), 1, true)
					p.check()
				}
			}
		}
	}
}

// TestListIsByArrival: not by the number of the slot, by ID or by quantity (P8.2).
func TestListIsByArrival(t *testing.T) {
	p := newPair(t, 4).opened(1)
	for i := range 4 {
		p.push(0, int64(40-i), int64(50-10*i), false)
	}
	p.takeAll(2)
	p.takeAll(0)
	p.push(0, 1, 9, false)
	p.push(0, 50, 1, true)
	p.takeAll(1)
	p.push(0, 0, 60, false)
	p.take(3, 19)
	want := []level.Entry{{Slot: 3, ID: 37, Qty: 1}, {Slot: 0, ID: 1, Qty: 9}, {Slot: 2, ID: 50, Qty: 1, Top: true}, {Slot: 1, ID: 0, Qty: 60}}
	if got := p.arena.List(0); !slices.Equal(got, want) {
		t.Errorf("P8.2: List: %v, want %v", got, want)
	}
	p.check()
}

// TestMissingAndEmptyQueues: both are without orders (P8.2).
func TestMissingAndEmptyQueues(t *testing.T) {
	p := newPair(t, 2).opened(3)
	p.push(1, 1, 5, false)
	p.push(2, 2, 6, false)
	p.takeAll(1)
	for _, queue := range slices.Concat(far, []int{0, 2, 3, 4}) {
		if l, total, count := p.arena.List(queue), p.arena.Total(queue), p.arena.Count(queue); len(l) != 0 || total != 0 || count != 0 {
			t.Errorf("P8.2: queue %d: List %v, Total %d, Count %d, want none", queue, l, total, count)
		}
	}
	p.check()
}

// TestGetOfNoOrder: free slots and numbers that are no slot (P8.2).
func TestGetOfNoOrder(t *testing.T) {
	p := newPair(t, 3).opened(1)
	for i := range 3 {
		p.push(0, int64(i)+7, 5, true)
	}
	p.takeAll(1)
	for _, slot := range slices.Concat(far, []int{1, 3, 4}) {
		if e, ok := p.arena.Get(slot); e != (level.Entry{}) || ok {
			t.Errorf("P8.2: Get(%d): %v, %t, want none", slot, e, ok)
		}
	}
	for _, slot := range []int{0, 2} {
		want := level.Entry{Slot: slot, ID: int64(slot) + 7, Qty: 5, Top: true}
		if e, ok := p.arena.Get(slot); e != want || !ok {
			t.Errorf("P8.2: Get(%d): %v, %t, want %v", slot, e, ok, want)
		}
	}
}

// TestTotalOfFullArena: beyond what 32 bits hold (P8.2).
func TestTotalOfFullArena(t *testing.T) {
	a := newArena(t, 4096)
	queue, other := a.Open(), a.Open()
	for i := range 4096 {
		a.Push(queue, int64(i), largest, false)
	}
	if total, count := a.Total(queue), a.Count(queue); total != 4096*largest || count != 4096 {
		t.Errorf("P8.2: Total %d, Count %d, want %d, 4096", total, count, int64(4096*largest))
	}
	if total, count := a.Total(other), a.Count(other); total != 0 || count != 0 {
		t.Errorf("P8.2: Total %d, Count %d of the queue without orders", total, count)
	}
	a.Take(4095, 1)
	a.Take(0, largest)
	if total, count := a.Total(queue), a.Count(queue); total != 4095*largest-1 || count != 4095 {
		t.Errorf("P8.2: Total %d, Count %d, want %d, 4095", total, count, int64(4095*largest-1))
	}
}

// TestFree: behind each order that comes, each part that is taken, and each order that goes (P8.2).
func TestFree(t *testing.T) {
	p := newPair(t, 5).opened(2)
	checkFree := func(want int) {
		t.Helper()
		if got := p.arena.Free(); got != want {
			t.Errorf("P8.2: %v: Free: %d, want %d", p.calls, got, want)
		}
	}
	for i := range 5 {
		p.push(i%2, int64(i), 2, false)
		checkFree(4 - i)
	}
	for i, slot := range []int{3, 0, 4, 2, 1} {
		p.take(slot, 1)
		checkFree(i)
		p.top(slot, true)
		checkFree(i)
		p.take(slot, 1)
		checkFree(i + 1)
	}
	p.open()
	checkFree(5)
}

// TestQueuesApart: what is done with one queue of an arena is not seen in the others (P8.2).
func TestQueuesApart(t *testing.T) {
	for one := range 4 {
		p := newPair(t, 20).opened(4)
		for i := range 16 {
			p.push(i*i%7%4, int64(i), int64(i)+1, i%5 == 0)
		}
		var others [4][]level.Entry
		for queue := range others {
			others[queue] = p.arena.List(queue)
		}
		same := func() {
			t.Helper()
			for queue, want := range others {
				if got := p.arena.List(queue); queue != one && !slices.Equal(got, want) {
					t.Errorf("P8.2: %v: List(%d): %v, want %v", p.calls, queue, got, want)
				}
			}
			p.check()
		}
		for _, e := range p.arena.List(one) {
			p.top(e.Slot, !e.Top)
			same()
			p.takeAll(e.Slot)
			same()
		}
		for range p.arena.Free() {
			p.push(one, 9, 9, true)
			same()
		}
	}
}

// TestArenasApart: two arenas with the same calls answer the same, and neither sees the other's (R4).
func TestArenasApart(t *testing.T) {
	first, second := newPair(t, 3).opened(2), newPair(t, 3).opened(1)
	first.push(0, 1, 5, true)
	second.push(0, 2, 6, false)
	first.push(1, 3, 7, false)
	first.takeAll(0)
	second.open()
	for range 4 {
		first.push(0, 4, 8, false)
		second.push(1, 5, 9, true)
		first.check()
		second.check()
	}
}

// spoil overwrites a list, and its spare capacity too.
func spoil(l []level.Entry) {
	l = l[:cap(l)]
	for i := range l {
		l[i] = level.Entry{Slot: -7, ID: -7, Qty: -7, Top: !l[i].Top}
	}
}

// TestListIsTheCallersOwn: what is done with it is not seen in the arena or in other lists, and it stays when the arena changes (R2).
func TestListIsTheCallersOwn(t *testing.T) {
	for n := range 9 {
		p := newPair(t, 9).opened(2)
		for i := range n {
			p.push(0, int64(i), int64(i)+2, i%2 == 0)
		}
		stay := slices.Clone(p.model.list(0))
		first, second := p.arena.List(0), p.arena.List(0)
		spoil(first)
		spoil(append(p.arena.List(0), level.Entry{}))
		if !slices.Equal(second, stay) {
			t.Errorf("R2: List: %v after another list was changed, want %v", second, stay)
		}
		p.check()
		for slot := range n {
			p.take(slot, 1)
			p.top(slot, true)
		}
		p.push(0, 9, 9, true)
		for slot := range n {
			p.takeAll(slot)
		}
		if !slices.Equal(second, stay) {
			t.Errorf("R2: List: %v after the arena was changed, want %v", second, stay)
		}
		p.check()
	}
}

// TestQuestionsChangeNothing: asked twice, the answers are the same, and the next calls too (R3, R4).
func TestQuestionsChangeNothing(t *testing.T) {
	p := filled(t, 7, 3)
	for range 7 {
		p.check()
		p.check()
		p.takeAll(p.model.list(len(p.calls) % 3)[0].Slot)
		p.push((len(p.calls)+1)%3, 1, 2, false)
	}
}

// act makes one of the calls that change an arena with three slots and two queues. The orders of queue 1 leave in two parts.
func act(p *pair, which int) {
	switch which {
	case 0, 1:
		p.push(which, int64(len(p.calls)), int64(which)+1, which == 0)
	case 2, 3, 4:
		p.take(which-2, 1)
	case 5:
		p.top(1, true)
	}
}

// TestEverySequence: all sequences of a few calls on a small arena (P8.1, P8.2).
func TestEverySequence(t *testing.T) {
	const acts, longest = 6, 6
	for length, sequences := 1, acts; length <= longest; length, sequences = length+1, sequences*acts {
		for sequence := range sequences {
			p := newPair(t, 3).opened(2)
			for rest, i := sequence, 0; i < length; rest, i = rest/acts, i+1 {
				act(p, rest%acts)
			}
			p.check()
		}
	}
}

// TestManyCalls: long sequences on arenas of several rooms, made by a rule that takes each kind of call often (P8.1, P8.2).
func TestManyCalls(t *testing.T) {
	for _, room := range []int{1, 2, 5, 40, 257} {
		p := newPair(t, room).opened(3)
		seed := uint64(room)
		next := func(n int) int {
			seed = seed*6364136223846793005 + 1442695040888963407
			return int(seed >> 33 % uint64(n))
		}
		for i := range 3000 {
			// More come than go at first, and more go than come afterwards, over and over.
			growing := i/(2*room+1)%2 == 0
			switch which := next(10); {
			case which == 0:
				p.top(next(room+2)-1, next(2) == 0)
			case which == 1:
				p.take(next(room+2)-1, int64(next(5)-1))
			case which < 8 == growing:
				p.push(next(5)-1, int64(next(1000)), int64(next(4)), next(4) == 0)
			default:
				if queue := next(3); len(p.model.list(queue)) > 0 {
					p.takeAll(p.model.list(queue)[next(len(p.model.list(queue)))].Slot)
				}
			}
			if room < 50 || i%50 == 0 {
				p.check()
			}
		}
	}
}

// TestGreatestArena: all of its slots are emptied and used again, in another order each time (P8.1, P8.2).
func TestGreatestArena(t *testing.T) {
	const room = 4096
	a := newArena(t, room)
	queues := [2]int{a.Open(), a.Open()}
	for i := range room {
		a.Push(queues[i%2], int64(i), int64(i)+1, false)
	}
	// 1365 has no divisor in common with 4096, so that each slot has its turn.
	for i := range room {
		slot := i * 1365 % room
		a.Take(slot, int64(slot)+1)
		if e, ok := a.Get(slot); ok {
			t.Fatalf("P8.1: Get(%d): %v after all was taken", slot, e)
		}
		if got, err := a.Push(queues[i%2], int64(-slot), 1, true); got != slot || err != 0 {
			t.Fatalf("P8.1: Push: %d, %d, want %d", got, int(err), slot)
		}
	}
	for turn, queue := range queues {
		l := a.List(queue)
		if len(l) != room/2 || a.Count(queue) != room/2 || a.Total(queue) != room/2 {
			t.Fatalf("P8.2: queue %d: %d orders, Count %d, Total %d", queue, len(l), a.Count(queue), a.Total(queue))
		}
		for i, e := range l {
			slot := (2*i + turn) * 1365 % room
			if want := (level.Entry{Slot: slot, ID: int64(-slot), Qty: 1, Top: true}); e != want {
				t.Fatalf("P8.2: List(%d)[%d]: %v, want %v", queue, i, e, want)
			}
			if got, ok := a.Get(slot); got != e || !ok {
				t.Fatalf("P8.2: Get(%d): %v, %t, want %v", slot, got, ok, e)
			}
		}
	}
	if n := a.Free(); n != 0 {
		t.Errorf("P8.2: Free: %d, want 0", n)
	}
}
