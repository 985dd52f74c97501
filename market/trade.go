package market

import (
	"cornhill/api"
	"cornhill/legs"
	"cornhill/match"
	"cornhill/refdata"
)

// trades returns the reports of a Step of the order o: those of each Fill, and then those of the order itself, of which so much is left behind the Step.
func (m *Market) trades(o order, step match.Step, left int64) []api.Report {
	var l []api.Report
	for _, f := range step.Fills {
		filled := order{f.ID, f.Inst, f.Side, f.Price, f.Qty}
		l = m.appendTrade(l, step, filled.report(api.Traded, f.Price, f.Qty, f.Left))
	}
	return m.appendTrade(l, step, o.report(api.Traded, step.Price, step.Qty, left))
}

// appendTrade appends a report of a Step, and behind that of a spread those of its legs.
func (m *Market) appendTrade(l []api.Report, step match.Step, r api.Report) []api.Report {
	l = append(l, r)
	near, far, spread := refdata.Legs(m.product, r.Inst)
	if !spread {
		return l
	}
	// Orders trade only at prices that their instruments may have, so there is no error.
	nearPrice, farPrice, _ := legs.Prices(m.product, r.Inst, r.Price)
	if step.Implied {
		nearPrice, farPrice = monthPrice(step, near), monthPrice(step, far)
	}
	return append(l, leg(r, near, r.Side, nearPrice), leg(r, far, other(r.Side), farPrice))
}

// leg returns the report of one month of the spread of which r reports a trade.
func leg(r api.Report, month, side int, price int64) api.Report {
	r.Inst, r.Side, r.Price = month, side, price
	return r
}

// monthPrice returns the price of a month in an implied Step: that of its Fills, or that of the Step for the order's own month, which has none.
func monthPrice(step match.Step, month int) int64 {
	for _, f := range step.Fills {
		if f.Inst == month {
			return f.Price
		}
	}
	return step.Price
}
