package market_test

import (
	"testing"

	"cornhill/api"
	"cornhill/market"
	"cornhill/match"
	"cornhill/refdata"
)

// breaks are products that are not valid, with the error of each.
var breaks = map[string]struct {
	err api.Errno
	f   func(p *api.Product)
}{
	"no product":                    {api.ErrForm, func(p *api.Product) { *p = api.Product{} }},
	"no code":                       {api.ErrForm, func(p *api.Product) { p.Code = "" }},
	"a long code":                   {api.ErrForm, func(p *api.Product) { p.Code = "CLCLC" }},
	"no months":                     {api.ErrArg, func(p *api.Product) { p.Months = nil }},
	"one month":                     {api.ErrArg, func(p *api.Product) { p.Months, p.Settle = p.Months[:1], p.Settle[:1] }},
	"a month before the first one":  {api.ErrArg, func(p *api.Product) { p.Months[0] = -1 }},
	"a month behind the last one":   {api.ErrArg, func(p *api.Product) { p.Months[len(p.Months)-1] = api.MaxMonth + 1 }},
	"months the wrong way round":    {api.ErrArg, func(p *api.Product) { p.Months[0], p.Months[1] = p.Months[1], p.Months[0] }},
	"no tick":                       {api.ErrTick, func(p *api.Product) { p.Tick = 0 }},
	"a low off the tick":            {api.ErrTick, func(p *api.Product) { p.Low = -101 }},
	"a settlement off the tick":     {api.ErrTick, func(p *api.Product) { p.Settle[1] = 1 }},
	"a high beyond the prices":      {api.ErrBand, func(p *api.Product) { p.High = api.MaxPrice + 5 }},
	"a low of the high":             {api.ErrBand, func(p *api.Product) { p.Low = p.High }},
	"a width above the band":        {api.ErrBand, func(p *api.Product) { p.Wide = 305 }},
	"no settlement":                 {api.ErrArg, func(p *api.Product) { p.Settle = nil }},
	"a settlement more":             {api.ErrArg, func(p *api.Product) { p.Settle = append(p.Settle, 5) }},
	"a settlement below the band":   {api.ErrArg, func(p *api.Product) { p.Settle[0] = -105 }},
	"no rule":                       {api.ErrKind, func(p *api.Product) { p.Rule = 0 }},
	"a rule too many":               {api.ErrKind, func(p *api.Product) { p.Rule = api.Mixed + 1 }},
	"a great top":                   {api.ErrQty, func(p *api.Product) { p.Top = api.MaxQty + 1 }},
	"a least of 0":                  {api.ErrQty, func(p *api.Product) { p.Least = 0 }},
	"a part of more than the whole": {api.ErrQty, func(p *api.Product) { p.Part = 101 }},
	"all but the rule":              {api.ErrKind, func(p *api.Product) { p.Rule, p.Least = 0, 0 }},
	"code and tick":                 {api.ErrForm, func(p *api.Product) { p.Code, p.Tick = "c", 0 }},
}

// TestWrongProducts: the error of match.New, and no Market (P17.1).
func TestWrongProducts(t *testing.T) {
	for why, b := range breaks {
		for months := 2; months <= api.MaxExp; months++ {
			p := product(months)
			b.f(&p)
			if s, err := match.New(p); s != nil || err != b.err {
				t.Errorf("%s: match.New: %v, %d, want %d", why, s, int(err), int(b.err))
			}
			if m, err := market.New(p); m != nil || err != b.err {
				t.Errorf("P17.1: New, %s, %d months: %v, %d, want %d", why, months, m, int(err), int(b.err))
			}
		}
	}
}

// TestNewIsEmpty: no orders, in as many books as there are instruments, and no ID was used (P17.1, P17.4).
func TestNewIsEmpty(t *testing.T) {
	for months := 2; months <= api.MaxExp; months++ {
		for _, rule := range rules {
			p := newPair(t, ruled(months, rule))
			p.check()
			if n := p.market.Count(); n != 0 {
				t.Errorf("P17.1: Count: %d", n)
			}
			if s := p.market.State(); s == nil || s.Count() != 0 || len(s.Tops()) != refdata.Count(p.model.p) {
				t.Errorf("P17.1: State: %v", s)
			}
			for id := int64(-2); id < 300; id++ {
				if _, _, ok := p.market.Find(id); ok || p.market.Used(id) {
					t.Errorf("P17.1: the order %d is known", id)
				}
			}
			for _, c := range []api.Command{cancel(1), reduce(1, 1), replace(1, 0, 1)} {
				p.refuses("P17.1", c, api.ErrNone)
			}
		}
	}
}

// wrong are commands that command.Right refuses, with its error. Most of them have a fault that would be told of later, too: no order with the ID stands but 1 and 2, or the price is none.
var wrong = []struct {
	err api.Errno
	c   api.Command
}{
	{api.ErrKind, api.Command{}},
	{api.ErrKind, api.Command{Kind: 5, ID: 1, Side: api.Buy, Qty: 1, Time: api.Day}},
	{api.ErrKind, api.Command{Kind: -1, ID: 1}},
	{api.ErrKind, api.Command{Kind: 257, ID: 1, Side: api.Buy, Qty: 1, Time: api.Day}},
	{api.ErrKind, api.Command{Kind: highest}},
	{api.ErrKind, api.Command{Kind: 1<<32 + 1, ID: 9, Side: api.Buy, Qty: 1, Time: api.Day}},
	{api.ErrArg, day(0, 0, api.Buy, 0, 1)},
	{api.ErrArg, day(-1, 0, api.Buy, 0, 1)},
	{api.ErrArg, day(lastID+1, 0, api.Buy, 0, 1)},
	{api.ErrArg, day(lowest, 0, api.Buy, 1, 1)},
	{api.ErrArg, day(highest, 99, 9, 1, 0)},
	{api.ErrArg, cancel(0)},
	{api.ErrArg, cancel(lastID + 1)},
	{api.ErrArg, reduce(-1, 0)},
	{api.ErrArg, replace(0, 1, 0)},
	{api.ErrSide, day(9, 0, 0, 0, 1)},
	{api.ErrSide, day(1, 0, 3, 1, 0)},
	{api.ErrTime, timed(day(9, 0, api.Buy, 0, 1), 0)},
	{api.ErrTime, timed(day(1, 0, api.Buy, 1, 0), 4)},
	{api.ErrQty, day(9, 0, api.Buy, 0, 0)},
	{api.ErrQty, day(1, 0, api.Buy, 1, largest+1)},
	{api.ErrQty, timed(day(9, 99, api.Sell, 0, -1), api.Whole)},
	{api.ErrQty, reduce(1, 0)},
	{api.ErrQty, reduce(9, 0)},
	{api.ErrQty, reduce(9, -1)},
	{api.ErrQty, reduce(1, largest+1)},
	{api.ErrQty, replace(1, 10, 0)},
	{api.ErrQty, replace(9, 10, largest+1)},
	{api.ErrQty, replace(1, 3*api.MaxPrice, lowest)},
	{api.ErrLeast, atLeast(day(9, 0, api.Buy, 0, 5), 6)},
	{api.ErrLeast, atLeast(day(1, 99, api.Buy, 1, 5), -1)},
	{api.ErrLeast, atLeast(timed(day(9, 0, api.Buy, 0, 5), api.Whole), highest)},
	{api.ErrLabel, labelled(day(9, 0, api.Buy, 0, 5), "\xff")},
	{api.ErrLabel, labelled(day(1, 99, api.Buy, 1, 5), "1234567890123")},
	{api.ErrBand, day(9, 0, api.Buy, 2*api.MaxPrice+1, 5)},
	{api.ErrBand, day(9, 99, api.Buy, -2*api.MaxPrice-1, 5)},
	{api.ErrBand, day(1, 300, api.Buy, highest, 5)},
	{api.ErrBand, replace(9, 2*api.MaxPrice+1, 5)},
	{api.ErrBand, replace(1, -2*api.MaxPrice-1, 5)},
	{api.ErrBand, replace(1, lowest, 5)},
	{api.ErrInst, day(9, -1, api.Buy, 0, 5)},
	{api.ErrInst, day(1, 256, api.Buy, 1, 5)},
	{api.ErrInst, day(9, highest, api.Buy, 0, 5)},
}

// labelled is a command of Kind New like c, with a label.
func labelled(c api.Command, label string) api.Command {
	c.Label = label
	return c
}

// TestWrongCommands: the error of command.Right, ahead of all others, and nothing is changed (P17.1).
func TestWrongCommands(t *testing.T) {
	for _, months := range []int{2, 3, 6} {
		p := with(t, product(months), o{0, api.Buy, 10, 5}, o{0, api.Sell, 20, 5})
		for _, w := range wrong {
			p.refuses("P17.1", w.c, w.err)
		}
		p.check()
	}
	empty := newPair(t, product(2))
	for _, w := range wrong {
		empty.refuses("P17.1", w.c, w.err)
	}
	empty.check()
}

// TestUnusedFields: what a Kind does not use may be anything (P17.1, P17.3).
func TestUnusedFields(t *testing.T) {
	odd := func(c api.Command) api.Command {
		c.Inst, c.Side, c.Least, c.Time, c.Label = highest, -7, lowest, 99, "\xff"
		return c
	}
	p := with(t, product(2), o{0, api.Buy, 10, 5}, o{0, api.Buy, 10, 5}, o{0, api.Buy, 10, 5})
	c := odd(cancel(1))
	c.Price, c.Qty = 3, -3
	p.want(c, "gone 1 0 1 10 5 0 0")
	c = odd(reduce(2, 2))
	c.Price = lowest
	p.want(c, "less 2 0 1 10 2 3 0")
	p.want(odd(replace(3, 10, 1)), "less 3 0 1 10 4 1 0")
	p.want(odd(replace(3, 15, 9)), "gone 3 0 1 10 1 0 0", "ok 3 0 1 15 9 9 0")
	p.want(labelled(day(4, 1, api.Sell, 5, 5), "é 日本"), "ok 4 1 2 5 5 5 0")
}
