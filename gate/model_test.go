package gate_test

import (
	"testing"

	"cornhill/api"
	"cornhill/command"
	"cornhill/gate"
	"cornhill/market"
	"cornhill/report"
)

// owned is an order that was accepted.
type owned struct {
	id      int64
	session int
}

// model is a market of its own, with a list of the orders that were accepted and all that the market was given.
type model struct {
	p      api.Product
	market *market.Market
	owned  []owned
	log    []api.Command
}

func newModel(p api.Product) *model {
	m, _ := market.New(p)
	return &model{p: p, market: m}
}

// copy returns a market that was given the same commands.
func (m *model) copy() *market.Market {
	other, _ := market.New(m.p)
	for _, c := range m.log {
		other.Do(c)
	}
	return other
}

// owner returns whose order it is, or was.
func (m *model) owner(id int64) (int, bool) {
	for _, o := range m.owned {
		if o.id == id {
			return o.session, true
		}
	}
	return 0, false
}

// opens returns the number of each session's orders that the market finds.
func (m *model) opens() [sessions]int {
	var n [sessions]int
	for _, o := range m.owned {
		if _, _, ok := m.market.Find(o.id); ok {
			n[o.session]++
		}
	}
	return n
}

// do does what the chapter says.
func (m *model) do(session int, b []byte) []gate.Out {
	reject := func(id int64, why api.Errno) []gate.Out {
		return []gate.Out{{Session: session, Report: api.Report{Kind: api.Rejected, ID: id, Why: why}}}
	}
	if session < 0 || session >= sessions {
		return reject(0, api.ErrArg)
	}
	c, err := command.Decode(b)
	if err != api.OK {
		return reject(0, err)
	}
	owner, ok := m.owner(c.ID)
	if c.Kind == api.New && m.opens()[session] == most {
		return reject(c.ID, api.ErrLimit)
	}
	if c.Kind != api.New && !(ok && owner == session) {
		return reject(c.ID, api.ErrNone)
	}
	m.log = append(m.log, c)
	reports := m.market.Do(c)
	if reports[0].Kind == api.Rejected {
		return []gate.Out{{Session: session, Report: reports[0]}}
	}
	if c.Kind == api.New {
		m.owned = append(m.owned, owned{c.ID, session})
	}
	var outs []gate.Out
	for _, r := range reports {
		owner, _ := m.owner(r.ID)
		outs = append(outs, gate.Out{Session: owner, Report: r})
	}
	return outs
}

// sameThen gives two markets the same commands, which tell what can't be seen at once: which order is the top one, who came first, and which IDs are taken.
func sameThen(t *testing.T, why string, p api.Product, one, other *market.Market, ids []int64) {
	t.Helper()
	id := int64(900000)
	both := func(c api.Command) {
		t.Helper()
		a, b := one.Do(c), other.Do(c)
		if len(a) != len(b) {
			t.Fatalf("P18.1: %s: then %v tells %d reports, want %d", why, c, len(a), len(b))
		}
		for i := range a {
			if a[i] != b[i] {
				t.Fatalf("P18.1: %s: then %v tells %s, want %s", why, c, report.Text(a[i]), report.Text(b[i]))
			}
		}
	}
	for _, old := range ids {
		both(day(old, 0, api.Buy, 0, 1))
	}
	for i := range int64(3) {
		for inst := range len(one.State().Tops()) {
			for _, side := range sides {
				id += 2
				limit := map[int]int64{api.Buy: p.High, api.Sell: p.Low}[side]
				if inst >= len(p.Months) {
					limit = map[int]int64{api.Buy: p.Wide, api.Sell: -p.Wide}[side]
				}
				both(timed(day(id, inst, side, limit, 5), api.Now))
				both(day(id+1, inst, side, 5*i, 4))
			}
		}
		for n, old := range ids {
			switch int64(n) % 5 {
			case i:
				both(replace(old, 5*i, 9))
			case i + 1:
				both(reduce(old, 1))
			}
		}
	}
	if a, b := viewOf(one.State(), p), viewOf(other.State(), p); !a.same(b) {
		t.Fatalf("P18.1: %s: behind it %v, want %v", why, a, b)
	}
}

// then asks whether the copy of the Gate's market goes on as one does that was given the same commands.
func (p *pair) then() {
	p.t.Helper()
	sameThen(p.t, p.last(), p.model.p, p.gate.Market(), p.model.copy(), p.ids)
}
