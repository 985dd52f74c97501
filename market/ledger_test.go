package market_test

import (
	"fmt"

	"cornhill/api"
	"cornhill/implied"
	"cornhill/match"
	"cornhill/refdata"
)

// account is what the reports of an order with this ID come to.
type account struct {
	inst                                 int
	accepted, filled, cancelled, reduced int64
}

// ledger has an account for each ID that was accepted.
type ledger map[int64]account

// add books the reports of one command, and tells what is wrong with them.
func (l ledger) add(p api.Product, reports []api.Report) string {
	bought := map[int]int64{}
	for i, r := range reports {
		a, known := l[r.ID]
		switch {
		case r.Kind == api.Rejected:
			continue
		case r.Kind == api.Accepted:
			a.inst, a.accepted = r.Inst, a.accepted+r.Qty
		case !known:
			return fmt.Sprint("nothing is known of ", r.ID)
		case r.Kind == api.Traded && r.Inst != a.inst:
			continue // a leg
		case r.Kind == api.Traded:
			a.filled += r.Qty
			if err := bookTrade(p, bought, reports[i:]); err != "" {
				return err
			}
		case r.Kind == api.Cancelled:
			a.cancelled += r.Qty
		case r.Kind == api.Reduced:
			a.reduced += r.Qty
		}
		if left := a.accepted - a.filled - a.cancelled - a.reduced; r.Left != left {
			return fmt.Sprintf("%d are left of %+v", left, a)
		}
		l[r.ID] = a
	}
	for month, sum := range bought {
		if sum != 0 {
			return fmt.Sprint("of the month ", month, " more is bought than sold: ", sum)
		}
	}
	return ""
}

// bookTrade books the trade that the first report tells of, in its month or in those of its legs.
func bookTrade(p api.Product, bought map[int]int64, reports []api.Report) string {
	r := reports[0]
	near, far, spread := refdata.Legs(p, r.Inst)
	if !spread {
		bought[r.Inst] += signed(r)
		return rightPrice(p, r)
	}
	if len(reports) < 3 {
		return "a spread has no legs"
	}
	one, other := reports[1], reports[2]
	bought[one.Inst] += signed(one)
	bought[other.Inst] += signed(other)
	wantOne, wantOther := r, r
	wantOne.Inst, wantOne.Price = near, one.Price
	wantOther.Inst, wantOther.Price, wantOther.Side = far, other.Price, otherOf(r.Side)
	if one != wantOne || other != wantOther || one.Price-other.Price != r.Price {
		return "legs that are not those of the spread"
	}
	return rightPrice(p, r) + rightPrice(p, one) + rightPrice(p, other)
}

// signed is what a trade buys.
func signed(r api.Report) int64 {
	if r.Side == api.Sell {
		return -r.Qty
	}
	return r.Qty
}

// rightPrice tells of a price that the instrument may not have.
func rightPrice(p api.Product, r api.Report) string {
	if refdata.Price(p, r.Inst, r.Price) != api.OK {
		return fmt.Sprint("a price that may not be: ", r)
	}
	return ""
}

// compare tells of an order that has more or less in its book than its reports tell.
func (l ledger) compare(v view) string {
	stands := map[int64]int64{}
	for _, orders := range v.orders {
		for _, o := range orders {
			stands[o.ID] = o.Qty
		}
	}
	for id, a := range l {
		if stands[id] != a.accepted-a.filled-a.cancelled-a.reduced {
			return fmt.Sprintf("of the order %d there stands %d, but %+v", id, stands[id], a)
		}
		delete(stands, id)
	}
	for id := range stands {
		return fmt.Sprint("there stands an order that was not accepted: ", id)
	}
	return ""
}

// crossed tells of a real price that meets a real or an implied one of the other side, in its band or out of it.
func crossed(p api.Product, s *match.State) string {
	tops := s.Tops()
	for inst, top := range tops {
		if top.Has[0] && top.Has[1] && top.Price[0] >= top.Price[1] {
			return fmt.Sprint("the book of ", inst, " is crossed: ", top)
		}
		for _, q := range implied.All(p, tops, inst, api.Sell) {
			if top.Has[0] && top.Price[0] >= q.Price {
				return fmt.Sprint("Sell of ", inst, " is implied by ", q, ", and there stands ", top)
			}
		}
		for _, q := range implied.All(p, tops, inst, api.Buy) {
			if top.Has[1] && top.Price[1] <= q.Price {
				return fmt.Sprint("Buy of ", inst, " is implied by ", q, ", and there stands ", top)
			}
		}
	}
	return ""
}
