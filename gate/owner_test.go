package gate_test

import (
	"testing"

	"cornhill/api"
)

// changes are the commands of each Kind but New for an order.
func changes(id int64) []api.Command {
	return []api.Command{cancel(id), reduce(id, 1), reduce(id, largest), replace(id, 5, 1), replace(id, 200, 9), replace(id, 1, 1), replace(id, 205, 1)}
}

// TestNoSuchOrder: a Cancel, Reduce or Replace of an ID that was never accepted, by whomever (P18.1).
func TestNoSuchOrder(t *testing.T) {
	p := newPair(t, product(3))
	p.put(0, day(1, 0, api.Buy, 5, 3))
	p.put(7, day(2, 0, api.Sell, 15, 3))
	p.refuses(3, day(4, 0, api.Buy, 1, 3), api.ErrTick)
	for session := range sessions {
		for _, id := range []int64{3, 4, 1<<32 + 1, lastID} {
			for _, c := range changes(id) {
				p.refuses(session, c, api.ErrNone)
			}
		}
	}
	p.check()
}

// TestOrdersOfOthers: a Cancel, Reduce or Replace of an order of another session, whether it is in the books or has gone, ahead of what the market would say (P18.1).
func TestOrdersOfOthers(t *testing.T) {
	for owner := range sessions {
		p := newPair(t, product(2))
		p.put(owner, day(1, 0, api.Buy, 5, 3))
		p.put(owner, timed(day(2, 0, api.Buy, 5, 3), api.Now))
		p.put(owner, day(3, 0, api.Buy, 5, 3))
		p.put(owner, cancel(3))
		for session := range sessions {
			for id := int64(1); id <= 3; id++ {
				if session == owner && id == 1 {
					continue
				}
				for _, c := range changes(id) {
					p.refuses(session, c, api.ErrNone)
				}
			}
		}
		// The session that has it may do what the others may not.
		p.refuses(owner, replace(1, 1, 1), api.ErrTick)
		p.refuses(owner, replace(1, 205, 1), api.ErrBand)
		p.put(owner, reduce(1, 1))
		p.put(owner, replace(1, 15, 9))
		p.put(owner, cancel(1))
		p.check()
	}
}

// TestTakenByAnother: a New with an ID that another session had accepted is refused, is told to the session that asked, and the owner stays, whether the order is in the books or has gone (P18.1).
func TestTakenByAnother(t *testing.T) {
	for owner := range sessions {
		p := newPair(t, product(2))
		p.put(owner, day(1, 0, api.Buy, 5, 3))
		p.put(owner, timed(day(2, 0, api.Buy, 5, 3), api.Now))
		for session := range sessions {
			for id := int64(1); id <= 2; id++ {
				for _, c := range []api.Command{day(id, 0, api.Buy, 5, 3), day(id, 1, api.Sell, 15, 1), timed(day(id, 0, api.Sell, -100, 1), api.Now)} {
					p.refuses(session, c, api.ErrTaken)
				}
				if got, ok := p.gate.Owner(id); got != owner || !ok {
					t.Errorf("P18.1: %s: Owner(%d): %d, %t, want %d", p.last(), id, got, ok, owner)
				}
			}
		}
		p.put(owner, reduce(1, 1))
		p.check()
		p.then()
	}
}

// TestRefusedHasNoOwner: a New that is refused leaves its ID free for any session (P18.1).
func TestRefusedHasNoOwner(t *testing.T) {
	for i, l := range limited {
		if l.err == api.OK || l.err == api.ErrTaken {
			continue
		}
		session, other := i%sessions, (i+3)%sessions
		p := crowded(t, session, 5)
		c := l.c
		c.ID = 9
		p.refuses(session, c, l.err)
		if got, ok := p.gate.Owner(9); got != 0 || ok {
			t.Errorf("P18.1: %s: Owner(9): %d, %t", p.last(), got, ok)
		}
		p.refuses(session, cancel(9), api.ErrNone)
		p.put(other, day(9, 0, api.Buy, -65, 2))
		if got, ok := p.gate.Owner(9); got != other || !ok {
			t.Errorf("P18.1: %s: Owner(9): %d, %t, want %d", p.last(), got, ok, other)
		}
		p.refuses(session, cancel(9), api.ErrNone)
		p.put(other, reduce(9, 1))
		p.check()
	}
	p := crowded(t, 4, most)
	p.refuses(4, day(9, 0, api.Buy, -65, 2), api.ErrLimit)
	p.put(0, day(9, 0, api.Buy, -65, 2))
	p.refuses(4, cancel(9), api.ErrNone)
	p.check()
	p.put(0, cancel(9))
	p.put(4, cancel(1001))
	p.refuses(4, day(9, 0, api.Buy, -65, 2), api.ErrTaken)
	p.check()
}

// TestOwner: of IDs that were accepted, that have gone, that were refused, and that were never seen (P18.1).
func TestOwner(t *testing.T) {
	p := newPair(t, product(2))
	owner := func(id int64, session int, ok bool) {
		t.Helper()
		if got, gotOK := p.gate.Owner(id); got != session || gotOK != ok {
			t.Errorf("P18.1: %s: Owner(%d): %d, %t, want %d, %t", p.last(), id, got, gotOK, session, ok)
		}
	}
	none := []int64{0, -1, 5, 6, 1 << 32, 1<<32 + 1, 257, lastID - 1, lastID + 1, lowest, highest}
	for _, id := range append(none, 1, lastID) {
		owner(id, 0, false)
	}
	p.put(0, day(1, 0, api.Buy, 5, 3))
	p.put(7, day(lastID, 0, api.Buy, 5, 3))
	p.refuses(3, day(5, 0, api.Buy, 1, 3), api.ErrTick)
	p.refuses(3, cancel(6), api.ErrNone)
	p.refusesBytes(3, bytesOf(day(0, 0, api.Buy, 5, 1)), api.ErrArg)
	p.refusesBytes(3, bytesOf(day(lastID+1, 0, api.Buy, 5, 1)), api.ErrArg)
	p.refusesBytes(8, bytesOf(day(6, 0, api.Buy, 5, 1)), api.ErrArg)
	p.refusesBytes(-1, bytesOf(day(6, 0, api.Buy, 5, 1)), api.ErrArg)
	known := func() {
		t.Helper()
		owner(1, 0, true)
		owner(lastID, 7, true)
		for _, id := range none {
			owner(id, 0, false)
		}
	}
	known()
	p.put(7, replace(lastID, 10, 9))
	known()
	p.put(2, day(2, 0, api.Sell, 5, 14)) // it trades with both, and the rest stands
	known()
	owner(2, 2, true)
	p.put(2, cancel(2))
	owner(2, 2, true)
	p.put(6, timed(day(3, 0, api.Buy, 5, 1), api.Now))
	owner(3, 6, true)
	known()
	for i := range int64(400) {
		p.put(int(i%sessions), timed(day(1000+i, 0, api.Sell, 200, 1), api.Now))
	}
	for i := range int64(400) {
		owner(1000+i, int(i%sessions), true)
	}
	known()
	p.check()
}

// TestOpen: the orders of each session that wait, behind what is filled wholly and in part, cancelled, reduced and replaced (P18.1).
func TestOpen(t *testing.T) {
	p := newPair(t, product(2))
	open := func(numbers ...int) {
		t.Helper()
		for session, want := range numbers {
			if got := p.gate.Open(session); got != want {
				t.Errorf("P18.1: %s: Open(%d): %d, want %d", p.last(), session, got, want)
			}
		}
		for _, session := range noSessions {
			if got := p.gate.Open(session); got != 0 {
				t.Errorf("P18.1: %s: Open(%d): %d", p.last(), session, got)
			}
		}
	}
	open(0, 0, 0, 0, 0, 0, 0, 0)
	p.put(0, day(1, 0, api.Sell, 10, 5))
	p.put(0, day(2, 1, api.Buy, 0, 5))
	p.put(7, day(3, 0, api.Sell, 10, 5))
	p.put(3, day(4, 0, api.Sell, 15, 5))
	open(2, 0, 0, 1, 0, 0, 0, 1)
	p.put(1, timed(day(5, 0, api.Buy, 5, 5), api.Now)) // it trades nothing
	open(2, 0, 0, 1, 0, 0, 0, 1)
	p.put(1, day(6, 0, api.Buy, 10, 5)) // the order 1 is filled wholly, and so is this one
	open(1, 0, 0, 1, 0, 0, 0, 1)
	p.put(1, day(7, 0, api.Buy, 10, 3)) // the order 3 in part
	open(1, 0, 0, 1, 0, 0, 0, 1)
	p.put(1, day(8, 0, api.Buy, 15, 9)) // what is left of 3, the order 4, and this one in part
	open(1, 1, 0, 0, 0, 0, 0, 0)
	p.put(1, reduce(8, 1))
	open(1, 1, 0, 0, 0, 0, 0, 0)
	p.put(1, reduce(8, 1))
	open(1, 0, 0, 0, 0, 0, 0, 0)
	p.put(0, replace(2, 5, 9))
	p.put(0, replace(2, 5, 4))
	open(1, 0, 0, 0, 0, 0, 0, 0)
	p.refuses(0, day(2, 0, api.Buy, 5, 5), api.ErrTaken)
	p.refuses(6, day(9, 0, api.Buy, 1, 5), api.ErrTick)
	open(1, 0, 0, 0, 0, 0, 0, 0)
	p.put(0, cancel(2))
	open(0, 0, 0, 0, 0, 0, 0, 0)
	// A Replace that trades, with an order of the session's own.
	p.put(4, day(10, 2, api.Sell, 20, 5))
	p.put(4, day(11, 2, api.Buy, 15, 5))
	p.put(5, day(12, 0, api.Sell, 40, 5))
	open(0, 0, 0, 0, 2, 1, 0, 0)
	p.put(4, replace(11, 20, 3))
	open(0, 0, 0, 0, 1, 1, 0, 0)
	// A spread that meets two months of two sessions.
	p.put(6, day(13, 1, api.Buy, 25, 4))
	open(0, 0, 0, 0, 1, 1, 1, 0)
	p.put(2, timed(day(14, 2, api.Buy, 15, 4), api.Whole))
	open(0, 0, 0, 0, 1, 1, 0, 0)
	p.check()
}
