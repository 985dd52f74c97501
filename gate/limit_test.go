package gate_test

import (
	"testing"

	"cornhill/api"
)

// crowd gives a session so many orders, which have the IDs behind this one. They buy CLF00 at -100 to -90.
func (p *pair) crowd(session, number int, behind int64) {
	p.t.Helper()
	for i := range int64(number) {
		p.put(session, day(behind+1+i, 0, api.Buy, -100+i%3*5, 3+i%4))
	}
}

// crowded returns a pair in which the session has so many orders with the IDs from 1001 on, and another one has two: Sell 5 of CLF00 at -60, and Buy 5 of the spread at 50. By these two CLZ00 is sold at -110, which is beyond the band.
func crowded(t *testing.T, session, number int) *pair {
	t.Helper()
	p := newPair(t, product(2))
	p.crowd(session, number, 1000)
	other := (session + 1) % sessions
	p.put(other, day(1, 0, api.Sell, -60, 5))
	p.put(other, day(2, 2, api.Buy, 50, 5))
	return p
}

// limited are commands of Kind New, with what the market of a crowd says to them.
var limited = []struct {
	err api.Errno
	c   api.Command
}{
	{api.OK, day(9, 0, api.Buy, -65, 1)},
	{api.OK, labelled(day(9, 0, api.Buy, -65, 1), "a")},
	{api.OK, day(9, 0, api.Buy, -60, 5)}, // all of it trades at once
	{api.OK, day(9, 0, api.Buy, -60, 9)},
	{api.OK, day(9, 2, api.Sell, 50, 5)},
	{api.OK, day(9, 0, api.Sell, -100, 1)}, // it trades with the session's own orders
	{api.OK, timed(day(9, 0, api.Buy, -65, 1), api.Now)},
	{api.OK, timed(day(9, 0, api.Buy, -60, 1), api.Now)},
	{api.OK, timed(day(9, 0, api.Buy, -60, 5), api.Whole)},
	{api.OK, atLeast(day(9, 0, api.Buy, -60, 5), 5)},
	{api.ErrInst, day(9, 3, api.Buy, 0, 1)},
	{api.ErrInst, timed(day(1, 255, api.Buy, 1, 1), api.Now)},
	{api.ErrTick, day(9, 0, api.Buy, -61, 1)},
	{api.ErrBand, day(9, 0, api.Buy, 205, 1)},
	{api.ErrBand, timed(day(1, 2, api.Sell, 55, 1), api.Now)},
	{api.ErrTaken, day(1, 0, api.Buy, -65, 1)},
	{api.ErrTaken, day(1001, 0, api.Buy, -65, 1)},
	{api.ErrLeast, timed(day(9, 0, api.Buy, -60, 6), api.Whole)},
	{api.ErrLeast, atLeast(timed(day(9, 0, api.Buy, -65, 9), api.Now), 1)},
	{api.ErrBand, day(9, 1, api.Buy, 0, 1)},
}

// TestLimit: a session with MaxOpen orders gets ErrLimit for each New, whatever the market would say, and with one order fewer it gets what the market says (P18.1).
func TestLimit(t *testing.T) {
	for _, session := range []int{0, 3, sessions - 1} {
		p := crowded(t, session, most)
		for _, l := range limited {
			p.refuses(session, l.c, api.ErrLimit)
		}
		p.check()
		p.then()
		for _, l := range limited {
			p := crowded(t, session, most-1)
			if l.err != api.OK {
				p.refuses(session, l.c, l.err)
				continue
			}
			p.put(session, l.c)
		}
	}
}

// TestLimitOfTheOthers: the orders of other sessions do not count (P18.1).
func TestLimitOfTheOthers(t *testing.T) {
	for session := range sessions {
		p := crowded(t, session, most)
		for other := range sessions {
			if other != session {
				p.put(other, day(int64(10+other), 0, api.Buy, -65, 1))
			}
		}
		p.refuses(session, day(9, 0, api.Buy, -65, 1), api.ErrLimit)
	}
	// Three sessions may have so many at once, and a fourth the rest that there is room for.
	p := newPair(t, product(2))
	for session := range 3 {
		p.crowd(session, most, int64(1000*session))
	}
	p.crowd(3, room-3*most, 3000)
	p.check()
	for _, c := range []api.Command{day(9000, 0, api.Buy, -65, 1), timed(day(9000, 0, api.Sell, 200, 1), api.Now)} {
		for session := range 3 {
			p.refuses(session, c, api.ErrLimit)
		}
		for session := 3; session < sessions; session++ {
			p.refuses(session, c, api.ErrFull)
		}
	}
	p.put(1, cancel(1001))
	p.refuses(0, day(9000, 0, api.Buy, -65, 1), api.ErrLimit)
	p.put(5, day(9001, 0, api.Buy, -65, 1))
	p.refuses(1, day(9000, 0, api.Buy, -65, 1), api.ErrFull)
	p.check()
	p.then()
}

// TestRoomAgain: an order that goes makes room for one, and not for two (P18.1).
func TestRoomAgain(t *testing.T) {
	const session, other = 2, 5
	next := day(9, 0, api.Buy, -100, 1)
	for why, act := range map[string]func(p *pair){
		"a Cancel":                   func(p *pair) { p.put(session, cancel(1007)) },
		"a Reduce of all":            func(p *pair) { p.put(session, reduce(1007, 5)) },
		"a Reduce of more":           func(p *pair) { p.put(session, reduce(1007, largest)) },
		"a fill":                     func(p *pair) { p.put(other, timed(day(8, 0, api.Sell, -90, 5), api.Now)) },
		"a fill that leaves a rest":  func(p *pair) { p.put(other, day(8, 0, api.Sell, -90, 7)) },
		"a fill of an implied order": func(p *pair) { p.put(other, timed(day(8, 1, api.Sell, -100, 4), api.Now)) },
		"two Reduces":                func(p *pair) { p.put(session, reduce(1007, 2)); p.put(session, reduce(1007, 3)) },
		"two fills": func(p *pair) {
			p.put(other, timed(day(7, 0, api.Sell, -90, 2), api.Now))
			p.put(other, timed(day(8, 0, api.Sell, -90, 3), api.Now))
		},
		"a Replace that trades all": func(p *pair) { p.put(session, replace(1007, -60, 5)) },
	} {
		p := newPair(t, product(2))
		// The order 1007 has 5 and comes first at -90.
		p.put(session, day(1007, 0, api.Buy, -90, 5))
		for i := range int64(most - 1) {
			p.put(session, day(2000+i, 0, api.Buy, -100, 3))
		}
		p.put(other, day(1, 0, api.Sell, -60, 5))
		p.put(other, day(2, 2, api.Sell, 0, 4))
		p.refuses(session, next, api.ErrLimit)
		if why == "a fill of an implied order" {
			p.put(session, reduce(1007, 1))
		}
		act(p)
		if n := p.gate.Open(session); n != most-1 {
			t.Errorf("P18.1: %s: Open: %d", why, n)
		}
		p.put(session, next)
		p.refuses(session, day(10, 0, api.Buy, -100, 1), api.ErrLimit)
		p.check()
	}
}

// TestNoRoomYet: what leaves an order in the books makes no room (P18.1).
func TestNoRoomYet(t *testing.T) {
	const session, other = 2, 5
	p := crowded(t, session, most)
	full := func() {
		t.Helper()
		p.refuses(session, day(9, 0, api.Buy, -65, 1), api.ErrLimit)
		if n := p.gate.Open(session); n != most {
			t.Errorf("P18.1: %s: Open: %d", p.last(), n)
		}
	}
	p.put(session, reduce(1003, 1))
	full()
	p.put(other, timed(day(8, 0, api.Sell, -100, 2), api.Now))
	full()
	p.refuses(other, cancel(1001), api.ErrNone)
	full()
	p.refuses(session, cancel(1), api.ErrNone)
	full()
	p.refuses(session, replace(1003, -61, 1), api.ErrTick)
	full()
	p.put(other, day(50, 1, api.Sell, 200, 1))
	p.put(other, cancel(50))
	full()
	p.check()
}

// TestReplaceAtTheLimit: a Replace is not refused with ErrLimit, whether the order keeps its position, loses it, or trades (P18.1).
func TestReplaceAtTheLimit(t *testing.T) {
	p := crowded(t, 0, most)
	p.want(0, replace(1003, -90, 4), "0: less 1003 0 1 -90 1 4 0")
	p.want(0, replace(1003, -90, 9), "0: gone 1003 0 1 -90 4 0 0", "0: ok 1003 0 1 -90 9 9 0")
	p.want(0, replace(1004, -65, 2), "0: gone 1004 0 1 -100 6 0 0", "0: ok 1004 0 1 -65 2 2 0")
	p.want(0, replace(1006, -60, 6), "0: gone 1006 0 1 -90 4 0 0", "0: ok 1006 0 1 -60 6 6 0", "1: trade 1 0 2 -60 5 0 0", "0: trade 1006 0 1 -60 5 1 0")
	p.refuses(0, day(9, 0, api.Buy, -65, 1), api.ErrLimit)
	p.refuses(0, replace(2, 45, 1), api.ErrNone)
	p.refuses(0, replace(1003, 205, 1), api.ErrBand)
	p.want(0, replace(1001, -100, largest), "0: gone 1001 0 1 -100 3 0 0", "0: ok 1001 0 1 -100 1000000 1000000 0")
	p.refuses(0, day(9, 0, api.Buy, -65, 1), api.ErrLimit)
	p.then()
}
