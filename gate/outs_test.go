package gate_test

import (
	"testing"

	"cornhill/api"
)

// TestExamples: those of the chapter (P18.1).
func TestExamples(t *testing.T) {
	p := newPair(t, product(2))
	p.refusesBytes(0, []byte{9, 9, 9}, api.ErrKind)
	p.want(4, day(1, 0, api.Sell, 10, 5), "4: ok 1 0 2 10 5 5 0")
	p.refuses(0, cancel(1), api.ErrNone)
	p.want(0, day(2, 0, api.Buy, 15, 3), "0: ok 2 0 1 15 3 3 0", "4: trade 1 0 2 10 3 2 0", "0: trade 2 0 1 10 3 0 0")
}

// TestOneOwner: what a session is told of its own order, for each Kind of command (P18.1).
func TestOneOwner(t *testing.T) {
	for session := range sessions {
		p, to := newPair(t, product(2)), string(rune('0'+session))+": "
		p.want(session, day(1, 0, api.Buy, 10, 5), to+"ok 1 0 1 10 5 5 0")
		p.want(session, reduce(1, 2), to+"less 1 0 1 10 2 3 0")
		p.want(session, replace(1, 10, 2), to+"less 1 0 1 10 1 2 0")
		p.want(session, replace(1, 15, 4), to+"gone 1 0 1 10 2 0 0", to+"ok 1 0 1 15 4 4 0")
		p.want(session, cancel(1), to+"gone 1 0 1 15 4 0 0")
		p.want(session, timed(day(2, 2, api.Sell, -5, 1), api.Now), to+"ok 2 2 2 -5 1 1 0", to+"gone 2 2 2 -5 1 0 0")
		p.want(session, cancel(1), to+"no 1 0 0 0 0 0 26")
		p.want(session, reduce(1, 1), to+"no 1 0 0 0 0 0 26")
		p.want(session, replace(1, 5, 1), to+"no 1 0 0 0 0 0 26")
		p.want(session, day(2, 0, api.Buy, 10, 5), to+"no 2 0 0 0 0 0 25")
		p.want(session, timed(day(3, 0, api.Buy, 10, 5), api.Whole), to+"no 3 0 0 0 0 0 28")
	}
}

// TestManyOwners: fills of orders of several sessions and of the session's own, in the order of the market's reports (P18.1).
func TestManyOwners(t *testing.T) {
	p := newPair(t, product(2))
	p.put(0, day(1, 0, api.Sell, 10, 2))
	p.put(7, day(2, 0, api.Sell, 10, 2))
	p.put(3, day(3, 0, api.Sell, 10, 2))
	p.put(0, day(4, 0, api.Sell, 15, 2))
	p.put(5, day(5, 0, api.Sell, 15, 2))
	p.want(3, timed(day(9, 0, api.Buy, 20, 12), api.Now), "3: ok 9 0 1 20 12 12 0",
		"0: trade 1 0 2 10 2 0 0", "7: trade 2 0 2 10 2 0 0", "3: trade 3 0 2 10 2 0 0", "3: trade 9 0 1 10 6 6 0",
		"0: trade 4 0 2 15 2 0 0", "5: trade 5 0 2 15 2 0 0", "3: trade 9 0 1 15 4 2 0", "3: gone 9 0 1 20 2 0 0")
	// All orders are of the session that asks.
	p.put(6, day(20, 1, api.Buy, 10, 2))
	p.put(6, day(21, 1, api.Buy, 10, 2))
	p.want(6, day(22, 1, api.Sell, 10, 3), "6: ok 22 1 2 10 3 3 0", "6: trade 20 1 1 10 2 0 0", "6: trade 21 1 1 10 1 1 0", "6: trade 22 1 2 10 3 0 0")
	// A Replace that trades.
	p.put(1, day(23, 1, api.Sell, 30, 4))
	p.want(6, replace(21, 35, 3), "6: gone 21 1 1 10 1 0 0", "6: ok 21 1 1 35 3 3 0", "1: trade 23 1 2 30 3 1 0", "6: trade 21 1 1 30 3 0 0")
	// What is refused is told to the session that asked, also of an order of another one.
	p.want(2, day(23, 1, api.Sell, 30, 4), "2: no 23 0 0 0 0 0 25")
	p.want(2, cancel(23), "2: no 23 0 0 0 0 0 26")
	p.want(0, reduce(23, 1), "0: no 23 0 0 0 0 0 26")
}

// TestOwnersOfSpreads: the legs go to the owner of the order that they are of (P18.1).
func TestOwnersOfSpreads(t *testing.T) {
	// The settlement prices are -100, 0, 35.
	p := newPair(t, product(3))
	p.put(1, day(1, 4, api.Sell, 20, 3))
	p.put(0, day(2, 4, api.Sell, 20, 4))
	p.want(7, day(9, 4, api.Buy, 30, 5), "7: ok 9 4 1 30 5 5 0",
		"1: trade 1 4 2 20 3 0 0", "1: trade 1 0 2 55 3 0 0", "1: trade 1 2 1 35 3 0 0",
		"0: trade 2 4 2 20 2 2 0", "0: trade 2 0 2 55 2 2 0", "0: trade 2 2 1 35 2 2 0",
		"7: trade 9 4 1 20 5 0 0", "7: trade 9 0 1 55 5 0 0", "7: trade 9 2 2 35 5 0 0")
	// A spread that meets two months, one of them of its own session.
	p = newPair(t, product(3))
	p.put(4, day(1, 0, api.Sell, 70, 3))
	p.put(2, day(2, 2, api.Buy, 60, 1))
	p.put(0, day(3, 2, api.Buy, 55, 9))
	p.want(2, day(9, 4, api.Buy, 20, 5), "2: ok 9 4 1 20 5 5 0",
		"4: trade 1 0 2 70 1 2 0", "2: trade 2 2 1 60 1 0 0", "2: trade 9 4 1 10 1 4 0", "2: trade 9 0 1 70 1 4 0", "2: trade 9 2 2 60 1 4 0",
		"4: trade 1 0 2 70 2 0 0", "0: trade 3 2 1 55 2 7 0", "2: trade 9 4 1 15 2 2 0", "2: trade 9 0 1 70 2 2 0", "2: trade 9 2 2 55 2 2 0")
	// A month that meets a spread and the other month.
	p = newPair(t, product(3))
	p.put(6, day(1, 4, api.Sell, 20, 3))
	p.put(5, day(2, 2, api.Sell, 50, 7))
	p.want(0, day(9, 0, api.Buy, 80, 4), "0: ok 9 0 1 80 4 4 0",
		"6: trade 1 4 2 20 3 0 0", "6: trade 1 0 2 70 3 0 0", "6: trade 1 2 1 50 3 0 0", "5: trade 2 2 2 50 3 4 0", "0: trade 9 0 1 70 3 1 0")
}

// TestOneOut: a command that is refused gives one Out, however many sessions there are with orders (P18.1).
func TestOneOut(t *testing.T) {
	p := newPair(t, product(2))
	for session := range sessions {
		p.put(session, day(int64(session+1), 0, api.Sell, 10, 5))
	}
	for session := range sessions {
		for _, c := range []api.Command{day(1, 0, api.Buy, 5, 1), timed(day(99, 0, api.Buy, 10, 41), api.Whole), day(99, 0, api.Buy, 1, 1), day(99, 0, api.Buy, 205, 1), day(99, 3, api.Buy, 0, 1)} {
			if l := p.ask(session, c); len(l) != 1 || l[0].Session != session || l[0].Report.Kind != api.Rejected {
				t.Errorf("P18.1: %s: %s", p.last(), texts(l))
			}
		}
	}
	p.check()
}
