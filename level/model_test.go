package level_test

import (
	"fmt"
	"math"
	"slices"
	"testing"

	"cornhill/api"
	"cornhill/level"
)

// model does what the chapter says with a list of orders for each queue.
type model struct {
	room   int
	queues [][]level.Entry
}

func (m *model) open() int {
	m.queues = append(m.queues, nil)
	return len(m.queues) - 1
}

// find returns the queue of the order in a slot, and its place there.
func (m *model) find(slot int) (queue, at int, ok bool) {
	for queue, l := range m.queues {
		for at, e := range l {
			if e.Slot == slot {
				return queue, at, true
			}
		}
	}
	return 0, 0, false
}

// list returns the orders of a queue, none if there is no such queue.
func (m *model) list(queue int) []level.Entry {
	if queue < 0 || queue >= len(m.queues) {
		return nil
	}
	return m.queues[queue]
}

func (m *model) push(queue int, id, qty int64, top bool) (int, api.Errno) {
	switch {
	case queue < 0 || queue >= len(m.queues):
		return 0, api.ErrNone
	case qty < 1 || qty > 1000000:
		return 0, api.ErrQty
	}
	for slot := range m.room {
		if _, _, used := m.find(slot); !used {
			m.queues[queue] = append(m.queues[queue], level.Entry{Slot: slot, ID: id, Qty: qty, Top: top})
			return slot, api.OK
		}
	}
	return 0, api.ErrFull
}

func (m *model) take(slot int, qty int64) api.Errno {
	queue, at, ok := m.find(slot)
	if !ok {
		return api.ErrNone
	}
	l := m.queues[queue]
	switch {
	case qty < 1 || qty > l[at].Qty:
		return api.ErrQty
	case qty < l[at].Qty:
		l[at].Qty -= qty
	default:
		m.queues[queue] = slices.Delete(l, at, at+1)
	}
	return api.OK
}

func (m *model) top(slot int, top bool) api.Errno {
	queue, at, ok := m.find(slot)
	if !ok {
		return api.ErrNone
	}
	m.queues[queue][at].Top = top
	return api.OK
}

// pair is an arena, and the model to which all of its calls go too.
type pair struct {
	t     *testing.T
	arena *level.Arena
	model model
	// calls are those that were made, written out for who reads of a fault.
	calls []string
}

func newPair(t *testing.T, room int) *pair {
	t.Helper()
	return &pair{t: t, arena: newArena(t, room), model: model{room: room}}
}

// newArena is for rooms that New accepts.
func newArena(t *testing.T, room int) *level.Arena {
	t.Helper()
	a, err := level.New(room)
	if a == nil || err != api.OK {
		t.Fatalf("P8.1: New(%d): %v, %d, want an arena", room, a, int(err))
	}
	return a
}

// want compares the answers to the last call, or to a question that follows it.
func (p *pair) want(promise, what string, got, want any) {
	p.t.Helper()
	if got != want {
		p.t.Fatalf("%s: room %d: %v: %s: %v, want %v", promise, p.model.room, p.calls[max(0, len(p.calls)-20):], what, got, want)
	}
}

func (p *pair) open() int {
	p.t.Helper()
	p.calls = append(p.calls, "Open()")
	want := p.model.open()
	p.want("P8.1", "the number", p.arena.Open(), want)
	return want
}

// opened opens so many queues.
func (p *pair) opened(queues int) *pair {
	p.t.Helper()
	for range queues {
		p.open()
	}
	return p
}

func (p *pair) push(queue int, id, qty int64, top bool) (int, api.Errno) {
	p.t.Helper()
	p.calls = append(p.calls, fmt.Sprintf("Push(%d, %d, %d, %t)", queue, id, qty, top))
	slot, err := p.arena.Push(queue, id, qty, top)
	want, wantErr := p.model.push(queue, id, qty, top)
	p.want("P8.1", "the error", int(err), int(wantErr))
	p.want("P8.1", "the slot", slot, want)
	return slot, err
}

func (p *pair) take(slot int, qty int64) api.Errno {
	p.t.Helper()
	p.calls = append(p.calls, fmt.Sprintf("Take(%d, %d)", slot, qty))
	err := p.arena.Take(slot, qty)
	p.want("P8.1", "the error", int(err), int(p.model.take(slot, qty)))
	return err
}

// takeAll takes what there is of the order in a slot.
func (p *pair) takeAll(slot int) {
	p.t.Helper()
	queue, at, ok := p.model.find(slot)
	if !ok {
		p.t.Fatalf("the test takes an order out of slot %d, which is free", slot)
	}
	p.take(slot, p.model.queues[queue][at].Qty)
}

func (p *pair) top(slot int, top bool) api.Errno {
	p.t.Helper()
	p.calls = append(p.calls, fmt.Sprintf("Top(%d, %t)", slot, top))
	err := p.arena.Top(slot, top)
	p.want("P8.1", "the error", int(err), int(p.model.top(slot, top)))
	return err
}

// far are numbers that no queue and no slot has.
var far = []int{math.MinInt, math.MinInt + 1, -1 << 32, -4097, -4096, -2, -1, 4096, 4097, 1 << 16, 1 << 32, math.MaxInt - 1, math.MaxInt}

// around are the numbers below n, some beyond on both sides, and some far away.
func around(n int) []int {
	l := slices.Clone(far)
	for i := range n + 3 {
		l = append(l, i)
	}
	return l
}

// check asks every question of every queue and every slot, and of some that there are not.
func (p *pair) check() {
	p.t.Helper()
	for _, queue := range around(len(p.model.queues)) {
		want := p.model.list(queue)
		if got := p.arena.List(queue); !slices.Equal(got, want) {
			p.t.Fatalf("P8.2: room %d: %v: List(%d): %v, want %v", p.model.room, p.calls, queue, got, want)
		}
		var total int64
		for _, e := range want {
			total += e.Qty
		}
		if got := p.arena.Total(queue); got != total {
			p.t.Fatalf("P8.2: room %d: %v: Total(%d): %d, want %d", p.model.room, p.calls, queue, got, total)
		}
		if got := p.arena.Count(queue); got != len(want) {
			p.t.Fatalf("P8.2: room %d: %v: Count(%d): %d, want %d", p.model.room, p.calls, queue, got, len(want))
		}
	}
	p.checkSlots()
}

// checkSlots is the part of check that asks of slots.
func (p *pair) checkSlots() {
	p.t.Helper()
	free := p.model.room
	in := map[int]level.Entry{}
	for _, l := range p.model.queues {
		free -= len(l)
		for _, e := range l {
			in[e.Slot] = e
		}
	}
	if got := p.arena.Free(); got != free {
		p.t.Fatalf("P8.2: room %d: %v: Free: %d, want %d", p.model.room, p.calls, got, free)
	}
	for _, slot := range around(p.model.room) {
		want, used := in[slot]
		if got, ok := p.arena.Get(slot); got != want || ok != used {
			p.t.Fatalf("P8.2: room %d: %v: Get(%d): %v, %t, want %v, %t", p.model.room, p.calls, slot, got, ok, want, used)
		}
	}
}
