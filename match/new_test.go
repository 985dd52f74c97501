package match_test

import (
	"testing"

	"cornhill/api"
	"cornhill/implied"
	"cornhill/match"
	"cornhill/refdata"
)

// breaks are products that are not valid, with the error of each.
var breaks = map[string]struct {
	err api.Errno
	f   func(p *api.Product)
}{
	"no product":                    {api.ErrForm, func(p *api.Product) { *p = api.Product{} }},
	"no code":                       {api.ErrForm, func(p *api.Product) { p.Code = "" }},
	"a code of small letters":       {api.ErrForm, func(p *api.Product) { p.Code = "cl" }},
	"a long code":                   {api.ErrForm, func(p *api.Product) { p.Code = "CLCLC" }},
	"no months":                     {api.ErrArg, func(p *api.Product) { p.Months = nil }},
	"an empty list of months":       {api.ErrArg, func(p *api.Product) { p.Months = []int{} }},
	"one month":                     {api.ErrArg, func(p *api.Product) { p.Months, p.Settle = p.Months[:1], p.Settle[:1] }},
	"a month less":                  {api.ErrArg, func(p *api.Product) { p.Months = p.Months[:len(p.Months)-1] }},
	"a month before the first one":  {api.ErrArg, func(p *api.Product) { p.Months[0] = -1 }},
	"a month behind the last one":   {api.ErrArg, func(p *api.Product) { p.Months[len(p.Months)-1] = api.MaxMonth + 1 }},
	"a month twice":                 {api.ErrArg, func(p *api.Product) { p.Months[1] = p.Months[0] }},
	"months the wrong way round":    {api.ErrArg, func(p *api.Product) { p.Months[0], p.Months[1] = p.Months[1], p.Months[0] }},
	"no tick":                       {api.ErrTick, func(p *api.Product) { p.Tick = 0 }},
	"a tick below 0":                {api.ErrTick, func(p *api.Product) { p.Tick = -5 }},
	"a great tick":                  {api.ErrTick, func(p *api.Product) { p.Tick = 1001 }},
	"a low off the tick":            {api.ErrTick, func(p *api.Product) { p.Low = -101 }},
	"a high off the tick":           {api.ErrTick, func(p *api.Product) { p.High = 201 }},
	"a width off the tick":          {api.ErrTick, func(p *api.Product) { p.Wide = 51 }},
	"a settlement off the tick":     {api.ErrTick, func(p *api.Product) { p.Settle[1] = 1 }},
	"a low beyond the prices":       {api.ErrBand, func(p *api.Product) { p.Low = -api.MaxPrice - 5 }},
	"a low at the end of an int64":  {api.ErrTick, func(p *api.Product) { p.Low = lowest }},
	"a high beyond the prices":      {api.ErrBand, func(p *api.Product) { p.High = api.MaxPrice + 5 }},
	"a high at the end of an int64": {api.ErrTick, func(p *api.Product) { p.High = highest }},
	"a low of the high":             {api.ErrBand, func(p *api.Product) { p.Low = p.High }},
	"a low above the high":          {api.ErrBand, func(p *api.Product) { p.Low = p.High + 5 }},
	"a width below 0":               {api.ErrBand, func(p *api.Product) { p.Wide = -5 }},
	"a width above the band":        {api.ErrBand, func(p *api.Product) { p.Wide = 305 }},
	"no settlement":                 {api.ErrArg, func(p *api.Product) { p.Settle = nil }},
	"a settlement less":             {api.ErrArg, func(p *api.Product) { p.Settle = p.Settle[:len(p.Settle)-1] }},
	"a settlement more":             {api.ErrArg, func(p *api.Product) { p.Settle = append(p.Settle, 5) }},
	"a settlement above the band":   {api.ErrArg, func(p *api.Product) { p.Settle[0] = 205 }},
	"a settlement below the band":   {api.ErrArg, func(p *api.Product) { p.Settle[0] = -105 }},
	"no rule":                       {api.ErrKind, func(p *api.Product) { p.Rule = 0 }},
	"a rule too many":               {api.ErrKind, func(p *api.Product) { p.Rule = api.Mixed + 1 }},
	"a rule below 0":                {api.ErrKind, func(p *api.Product) { p.Rule = -1 }},
	"a top below 0":                 {api.ErrQty, func(p *api.Product) { p.Top = -1 }},
	"a great top":                   {api.ErrQty, func(p *api.Product) { p.Top = api.MaxQty + 1 }},
	"a least of 0":                  {api.ErrQty, func(p *api.Product) { p.Least = 0 }},
	"a great least":                 {api.ErrQty, func(p *api.Product) { p.Least = 1001 }},
	"a part below 0":                {api.ErrQty, func(p *api.Product) { p.Part = -1 }},
	"a part of more than the whole": {api.ErrQty, func(p *api.Product) { p.Part = 101 }},
	"all but the rule":              {api.ErrKind, func(p *api.Product) { p.Rule, p.Least = 0, 0 }},
	"code and tick":                 {api.ErrForm, func(p *api.Product) { p.Code, p.Tick = "c", 0 }},
}

// TestWrongProducts: the error of refdata.Check, and no State (P16.1).
func TestWrongProducts(t *testing.T) {
	for why, b := range breaks {
		for months := 2; months <= api.MaxExp; months++ {
			p := product(months)
			b.f(&p)
			if err := refdata.Check(p); err != b.err {
				t.Errorf("%s: refdata.Check: %d, want %d", why, int(err), int(b.err))
			}
			if s, err := match.New(p); s != nil || err != b.err {
				t.Errorf("P16.1: New, %s, %d months: %v, %d, want %d", why, months, s, int(err), int(b.err))
			}
		}
	}
	for _, months := range []int{0, 1, 7, 8, 300} {
		p := product(2)
		p.Months, p.Settle = nil, nil
		for m := range months {
			p.Months, p.Settle = append(p.Months, 300+m), append(p.Settle, 50)
		}
		if s, err := match.New(p); s != nil || err != api.ErrArg {
			t.Errorf("P16.1: New, %d months: %v, %d, want %d", months, s, int(err), int(api.ErrArg))
		}
	}
}

// TestNewIsEmpty: no orders, levels or tops of each instrument, of which there are as many as refdata.Count tells (P16.1).
func TestNewIsEmpty(t *testing.T) {
	for months := 2; months <= api.MaxExp; months++ {
		for _, rule := range rules {
			p := newPair(t, ruled(months, rule))
			p.check()
			count := refdata.Count(p.model.p)
			if tops := p.state.Tops(); len(tops) != count {
				t.Errorf("P16.1: %d months: %d Tops, want %d", months, len(tops), count)
			}
			for inst, top := range p.state.Tops() {
				if top != (implied.Top{}) || len(p.state.Orders(inst)) != 0 || len(p.state.Ladder(inst, api.Buy)) != 0 || len(p.state.Ladder(inst, api.Sell)) != 0 {
					t.Errorf("P16.1: %d months: something stands in the book of %d", months, inst)
				}
				for _, side := range sides {
					p.wantRun(inst, side, 0, 5, "[] 5")
				}
			}
			if err := p.take(1, 1); err != api.ErrNone {
				t.Errorf("P16.1: Take: %d", int(err))
			}
			for inst := range count {
				p.put(inst, int64(inst), api.Buy+inst%2, 0, 1) // each instrument has a book
			}
			p.check()
		}
	}
}
