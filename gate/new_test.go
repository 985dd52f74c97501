package gate_test

import (
	"fmt"
	"testing"

	"cornhill/api"
	"cornhill/gate"
	"cornhill/market"
	"cornhill/refdata"
)

// breaks are products that are not valid, with the error of each.
var breaks = map[string]struct {
	err api.Errno
	f   func(p *api.Product)
}{
	"no product":                    {api.ErrForm, func(p *api.Product) { *p = api.Product{} }},
	"no code":                       {api.ErrForm, func(p *api.Product) { p.Code = "" }},
	"a long code":                   {api.ErrForm, func(p *api.Product) { p.Code = "CLCLC" }},
	"no months":                     {api.ErrArg, func(p *api.Product) { p.Months = nil }},
	"one month":                     {api.ErrArg, func(p *api.Product) { p.Months, p.Settle = p.Months[:1], p.Settle[:1] }},
	"a month before the first one":  {api.ErrArg, func(p *api.Product) { p.Months[0] = -1 }},
	"months the wrong way round":    {api.ErrArg, func(p *api.Product) { p.Months[0], p.Months[1] = p.Months[1], p.Months[0] }},
	"no tick":                       {api.ErrTick, func(p *api.Product) { p.Tick = 0 }},
	"a low off the tick":            {api.ErrTick, func(p *api.Product) { p.Low = -101 }},
	"a high beyond the prices":      {api.ErrBand, func(p *api.Product) { p.High = api.MaxPrice + 5 }},
	"a low of the high":             {api.ErrBand, func(p *api.Product) { p.Low = p.High }},
	"a width above the band":        {api.ErrBand, func(p *api.Product) { p.Wide = 305 }},
	"no settlement":                 {api.ErrArg, func(p *api.Product) { p.Settle = nil }},
	"a settlement below the band":   {api.ErrArg, func(p *api.Product) { p.Settle[0] = -105 }},
	"no rule":                       {api.ErrKind, func(p *api.Product) { p.Rule = 0 }},
	"a rule too many":               {api.ErrKind, func(p *api.Product) { p.Rule = api.Mixed + 1 }},
	"a great top":                   {api.ErrQty, func(p *api.Product) { p.Top = api.MaxQty + 1 }},
	"a least of 0":                  {api.ErrQty, func(p *api.Product) { p.Least = 0 }},
	"a part of more than the whole": {api.ErrQty, func(p *api.Product) { p.Part = 101 }},
	"all but the rule":              {api.ErrKind, func(p *api.Product) { p.Rule, p.Least = 0, 0 }},
	"code and tick":                 {api.ErrForm, func(p *api.Product) { p.Code, p.Tick = "c", 0 }},
}

// TestWrongProducts: the error of market.New, and no Gate (P18.1).
func TestWrongProducts(t *testing.T) {
	for why, b := range breaks {
		for months := 2; months <= api.MaxExp; months++ {
			p := product(months)
			b.f(&p)
			if m, err := market.New(p); m != nil || err != b.err {
				t.Errorf("%s: market.New: %v, %d, want %d", why, m, int(err), int(b.err))
			}
			if g, err := gate.New(p); g != nil || err != b.err {
				t.Errorf("P18.1: New, %s, %d months: %v, %d, want %d", why, months, g, int(err), int(b.err))
			}
		}
	}
}

// TestNewIsEmpty: no orders in the books and of no session, and no ID has an owner (P18.1).
func TestNewIsEmpty(t *testing.T) {
	for months := 2; months <= api.MaxExp; months++ {
		for _, rule := range rules {
			p := newPair(t, ruled(months, rule))
			p.check()
			m := p.gate.Market()
			if m.Count() != 0 || len(m.State().Tops()) != refdata.Count(p.model.p) {
				t.Errorf("P18.1: Market: %d orders of %d instruments", m.Count(), len(m.State().Tops()))
			}
			for session := -2; session < sessions+2; session++ {
				if n := p.gate.Open(session); n != 0 {
					t.Errorf("P18.1: Open(%d): %d", session, n)
				}
			}
			for id := int64(-2); id < 300; id++ {
				if session, ok := p.gate.Owner(id); session != 0 || ok || m.Used(id) {
					t.Errorf("P18.1: Owner(%d): %d, %t", id, session, ok)
				}
			}
			for session := range sessions {
				for _, c := range []api.Command{cancel(1), reduce(1, 1), replace(1, 0, 1)} {
					p.refuses(session, c, api.ErrNone)
				}
			}
			p.then()
		}
	}
}

// wrong are bytes of which command.Decode tells an error.
var wrong = []struct {
	err api.Errno
	b   []byte
}{
	{api.ErrKind, nil},
	{api.ErrKind, []byte{}},
	{api.ErrKind, []byte{0}},
	{api.ErrKind, []byte{5}},
	{api.ErrKind, []byte{255, 1, 0, 0, 0, 0, 0, 0, 0}},
	{api.ErrKind, bytesOf(api.Command{ID: 1})},
	{api.ErrKind, bytesOf(api.Command{Kind: 5, ID: 1})},
	{api.ErrForm, []byte{api.New}},
	{api.ErrForm, []byte{api.Cancel}},
	{api.ErrForm, []byte{api.Replace}},
	{api.ErrForm, short(day(9, 0, api.Buy, 0, 1))},
	{api.ErrForm, short(labelled(day(9, 0, api.Buy, 0, 1), "a"))},
	{api.ErrForm, short(cancel(1))},
	{api.ErrForm, short(reduce(1, 1))},
	{api.ErrForm, short(replace(1, 0, 1))},
	{api.ErrForm, long(day(9, 0, api.Buy, 0, 1))},
	{api.ErrForm, long(cancel(1))},
	{api.ErrForm, long(reduce(1, 1))},
	{api.ErrForm, long(replace(1, 0, 1))},
	{api.ErrForm, append(bytesOf(cancel(1)), bytesOf(cancel(1))...)},
	{api.ErrArg, bytesOf(day(0, 0, api.Buy, 0, 1))},
	{api.ErrArg, bytesOf(day(-1, 0, 9, 1, 0))},
	{api.ErrArg, bytesOf(day(lastID+1, 0, api.Buy, 0, 1))},
	{api.ErrArg, bytesOf(cancel(0))},
	{api.ErrArg, bytesOf(reduce(lowest, 0))},
	{api.ErrArg, bytesOf(replace(highest, 1, 0))},
	{api.ErrSide, bytesOf(day(9, 0, 0, 0, 1))},
	{api.ErrSide, bytesOf(day(1, 99, 3, 1, 0))},
	{api.ErrTime, bytesOf(timed(day(9, 0, api.Buy, 0, 1), 0))},
	{api.ErrTime, bytesOf(timed(day(1, 99, api.Buy, 1, 0), 4))},
	{api.ErrQty, bytesOf(day(9, 0, api.Buy, 0, 0))},
	{api.ErrQty, bytesOf(day(1, 99, api.Buy, 1, largest+1))},
	{api.ErrQty, bytesOf(reduce(1, 0))},
	{api.ErrQty, bytesOf(reduce(9, -1))},
	{api.ErrQty, bytesOf(replace(1, 10, largest+1))},
	{api.ErrLeast, bytesOf(atLeast(day(9, 0, api.Buy, 0, 5), 6))},
	{api.ErrLeast, bytesOf(atLeast(day(1, 99, api.Buy, 1, 5), -1))},
	{api.ErrLabel, bytesOf(labelled(day(9, 0, api.Buy, 0, 5), "\xff"))},
	{api.ErrLabel, bytesOf(labelled(day(1, 99, api.Buy, 1, 5), "1234567890123"))},
	{api.ErrBand, bytesOf(day(9, 0, api.Buy, 2*api.MaxPrice+1, 5))},
	{api.ErrBand, bytesOf(day(1, 99, api.Buy, lowest, 5))},
	{api.ErrBand, bytesOf(replace(9, 2*api.MaxPrice+1, 5))},
	{api.ErrBand, bytesOf(replace(1, -2*api.MaxPrice-1, 5))},
}

// short are the bytes of a command without the last one.
func short(c api.Command) []byte {
	b := bytesOf(c)
	return b[:len(b)-1]
}

// long are the bytes of a command and one more.
func long(c api.Command) []byte { return append(bytesOf(c), 0) }

// right are commands that command.Decode accepts, whatever a market would say to them.
var right = []api.Command{
	day(9, 0, api.Buy, 0, 1), day(1, 0, api.Buy, 0, 1), day(lastID, 255, api.Sell, 1, largest), day(9, 0, api.Sell, 2*api.MaxPrice, 1),
	timed(day(9, 0, api.Buy, 200, 5), api.Now), timed(day(9, 0, api.Sell, -100, 5), api.Whole), atLeast(day(9, 0, api.Buy, 0, 5), 5),
	labelled(day(9, 0, api.Buy, 0, 5), "é 日本"), cancel(1), cancel(lastID), reduce(1, 1), reduce(9, largest), replace(1, 10, 3), replace(9, -2*api.MaxPrice, 1),
}

// TestCheck: ErrArg of a session that is none, ahead of any error of the bytes, and else that of command.Decode. It changes nothing (P18.1).
func TestCheck(t *testing.T) {
	for _, months := range []int{2, 6} {
		p := newPair(t, product(months))
		p.put(0, day(1, 0, api.Sell, 10, 5))
		p.put(7, day(2, 0, api.Sell, 15, 5))
		before := p.sight(9, lastID)
		check := func(session int, b []byte, want api.Errno) {
			t.Helper()
			for range 2 { // what is checked once is not known the second time
				if err := p.gate.Check(session, b); err != want {
					t.Errorf("P18.1: Check(%d, % x): %d, want %d", session, b, int(err), int(want))
				}
			}
		}
		for session := range sessions {
			for _, w := range wrong {
				check(session, w.b, w.err)
			}
			for _, c := range right {
				check(session, bytesOf(c), api.OK)
			}
		}
		for _, session := range noSessions {
			for _, w := range wrong {
				check(session, w.b, api.ErrArg)
			}
			for _, c := range right {
				check(session, bytesOf(c), api.ErrArg)
			}
		}
		p.unchanged(before, 9, lastID)
		p.check()
		p.then()
	}
}

// TestWrongBytes: one Out to the session that was given, with the error of Check and no ID, and nothing is changed (P18.1).
func TestWrongBytes(t *testing.T) {
	p := newPair(t, product(2))
	p.put(0, day(1, 0, api.Sell, 10, 5))
	p.put(7, day(2, 0, api.Sell, 15, 5))
	for _, session := range []int{0, 3, sessions - 1} {
		for _, w := range wrong {
			p.refusesBytes(session, w.b, w.err)
		}
	}
	for _, session := range noSessions {
		for _, b := range [][]byte{nil, bytesOf(cancel(1)), bytesOf(timed(day(9, 0, api.Buy, 200, 5), api.Now)), bytesOf(day(0, 0, 0, 0, 0)), bytesOf(reduce(2, 9))} {
			p.refusesBytes(session, b, api.ErrArg)
		}
	}
	p.check()
	p.then()
	if got := fmt.Sprint(p.gate.Do(-1, nil)); got != "[{-1 {2 0 0 0 0 0 0 an argument that may not be}}]" {
		t.Errorf("P18.1: Do(-1, nil): %s", got)
	}
}

// TestEmptyBytes: none and nil are the same (R4).
func TestEmptyBytes(t *testing.T) {
	p := newPair(t, product(2))
	for _, b := range [][]byte{nil, {}, make([]byte, 0, 9), bytesOf(cancel(1))[:0]} {
		if got := texts(p.send(0, b)); got != "0: no 0 0 0 0 0 0 31" {
			t.Errorf("P18.1: Do(0, no bytes): %s", got)
		}
		if err := p.gate.Check(3, b); err != api.ErrKind {
			t.Errorf("P18.1: Check(3, no bytes): %d", int(err))
		}
	}
}
