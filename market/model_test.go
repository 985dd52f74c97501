package market_test

import (
	"slices"

	"cornhill/api"
	"cornhill/command"
	"cornhill/implied"
	"cornhill/legs"
	"cornhill/match"
	"cornhill/refdata"
)

// model does what the chapter says with a match.State, and keeps all that it has asked of it: so it can make another one that is the same, and try on it what would be.
type model struct {
	p     api.Product
	state *match.State
	asked []func(s *match.State)
	used  map[int64]int
}

func newModel(p api.Product) *model {
	s, _ := match.New(p)
	return &model{p: p, state: s, used: map[int64]int{}}
}

// ask asks something of the State, now and of each copy.
func (m *model) ask(f func(s *match.State)) {
	f(m.state)
	m.asked = append(m.asked, f)
}

// copy returns a State of which the same was asked.
func (m *model) copy() *match.State {
	s, _ := match.New(m.p)
	for _, f := range m.asked {
		f(s)
	}
	return s
}

func (m *model) do(c api.Command) []api.Report {
	if err := m.refusal(c); err != api.OK {
		return []api.Report{{Kind: api.Rejected, ID: c.ID, Why: err}}
	}
	inst, old, _ := m.state.Find(c.ID)
	about := api.Report{ID: c.ID, Inst: inst, Side: old.Side, Price: old.Price}
	cut := c.Qty
	if c.Kind == api.Replace {
		cut = old.Qty - c.Qty
	}
	switch {
	case c.Kind == api.New:
		return m.accept(c)
	case c.Kind == api.Replace && (c.Price != old.Price || cut < 0):
		m.take(c.ID, old.Qty)
		about.Kind, about.Qty = api.Cancelled, old.Qty
		return append([]api.Report{about}, m.accept(again(c, about))...)
	case c.Kind == api.Cancel || cut >= old.Qty:
		m.take(c.ID, old.Qty)
		about.Kind, about.Qty = api.Cancelled, old.Qty
	default:
		m.take(c.ID, cut)
		about.Kind, about.Qty, about.Left = api.Reduced, cut, old.Qty-cut
	}
	return []api.Report{about}
}

// again is the new order that a Replace makes of an old one.
func again(c api.Command, old api.Report) api.Command {
	return api.Command{Kind: api.New, ID: c.ID, Inst: old.Inst, Side: old.Side, Price: c.Price, Qty: c.Qty, Time: api.Day}
}

func (m *model) take(id, qty int64) {
	if qty > 0 {
		m.ask(func(s *match.State) { s.Take(id, qty) })
	}
}

func (m *model) refusal(c api.Command) api.Errno {
	if err := command.Right(c); err != api.OK {
		return err
	}
	if c.Kind == api.New {
		return m.refusalOfNew(c)
	}
	inst, old, ok := m.state.Find(c.ID)
	switch {
	case !ok:
		return api.ErrNone
	case c.Kind != api.Replace:
		return api.OK
	case refdata.Price(m.p, inst, c.Price) != api.OK:
		return refdata.Price(m.p, inst, c.Price)
	case c.Price == old.Price && c.Qty <= old.Qty:
		return api.OK
	case m.beyond(again(c, api.Report{Inst: inst, Side: old.Side}), func(s *match.State) { s.Take(c.ID, old.Qty) }):
		return api.ErrBand
	}
	return api.OK
}

func (m *model) refusalOfNew(c api.Command) api.Errno {
	must := c.Least
	if c.Time == api.Whole {
		must = c.Qty
	}
	switch {
	case refdata.Price(m.p, c.Inst, c.Price) != api.OK:
		return refdata.Price(m.p, c.Inst, c.Price)
	case m.used[c.ID] > 0:
		return api.ErrTaken
	case m.state.Count() == api.MaxOrders:
		return api.ErrFull
	case must > 0 && m.state.Could(c.Inst, c.Side, c.Price, must) < must:
		return api.ErrLeast
	case c.Time == api.Day && m.beyond(c, func(*match.State) {}):
		return api.ErrBand
	}
	return api.OK
}

// beyond runs an order in a copy, after what is to be done there first, and looks at what is left behind it: whether a quote of the other side that All has and Quotes hasn't would trade with the rest.
func (m *model) beyond(c api.Command, first func(s *match.State)) bool {
	if len(implied.All(m.p, m.state.Tops(), c.Inst, otherOf(c.Side))) == 0 {
		return false // a copy takes its time, and there are none behind the Run if there are none ahead of it
	}
	s := m.copy()
	first(s)
	if _, left := s.Run(c.Inst, c.Side, c.Price, c.Qty); left == 0 {
		return false
	}
	within := implied.Quotes(m.p, s.Tops(), c.Inst, otherOf(c.Side))
	for _, q := range implied.All(m.p, s.Tops(), c.Inst, otherOf(c.Side)) {
		if !slices.Contains(within, q) && (c.Side == api.Buy && q.Price <= c.Price || c.Side == api.Sell && q.Price >= c.Price) {
			return true
		}
	}
	return false
}

// accept tells of an order from its Accepted on.
func (m *model) accept(c api.Command) []api.Report {
	m.used[c.ID]++
	l := []api.Report{{Kind: api.Accepted, ID: c.ID, Inst: c.Inst, Side: c.Side, Price: c.Price, Qty: c.Qty, Left: c.Qty}}
	var steps []match.Step
	left := c.Qty
	m.ask(func(s *match.State) { steps, left = s.Run(c.Inst, c.Side, c.Price, c.Qty) })
	rest, stays := left, c.Qty
	for _, step := range steps {
		for _, f := range step.Fills {
			l = append(l, m.told(c.Inst, step, api.Report{Kind: api.Traded, ID: f.ID, Inst: f.Inst, Side: f.Side, Price: f.Price, Qty: f.Qty, Left: f.Left})...)
		}
		stays -= step.Qty
		l = append(l, m.told(c.Inst, step, api.Report{Kind: api.Traded, ID: c.ID, Inst: c.Inst, Side: c.Side, Price: step.Price, Qty: step.Qty, Left: stays})...)
	}
	if rest > 0 && c.Time == api.Day {
		m.ask(func(s *match.State) { s.Add(c.Inst, c.ID, c.Side, c.Price, rest) })
	} else if rest > 0 {
		l = append(l, api.Report{Kind: api.Cancelled, ID: c.ID, Inst: c.Inst, Side: c.Side, Price: c.Price, Qty: rest})
	}
	return l
}

// told is a report of a trade in a Step of an order for inst, and those of its legs.
func (m *model) told(inst int, step match.Step, r api.Report) []api.Report {
	near, far, spread := refdata.Legs(m.p, r.Inst)
	if !spread {
		return []api.Report{r}
	}
	one, other := r, r
	one.Inst, other.Inst, other.Side = near, far, otherOf(r.Side)
	switch prices := pricesOf(step); {
	case !step.Implied:
		one.Price, other.Price, _ = legs.Prices(m.p, r.Inst, r.Price)
	case r.Inst == inst:
		one.Price, other.Price = prices[near], prices[far]
	case near == inst:
		one.Price, other.Price = step.Price, prices[far]
	default:
		one.Price, other.Price = prices[near], step.Price
	}
	return []api.Report{r, one, other}
}

// pricesOf are the prices of a Step's Fills, by their instruments.
func pricesOf(step match.Step) map[int]int64 {
	prices := map[int]int64{}
	for _, f := range step.Fills {
		prices[f.Inst] = f.Price
	}
	return prices
}

// otherOf is the other side.
func otherOf(side int) int { return api.Buy + api.Sell - side }
