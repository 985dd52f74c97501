package gate_test

import (
	"bytes"
	"slices"
	"testing"

	"cornhill/api"
	"cornhill/gate"
	"cornhill/refdata"
)

// spoil writes into all of a list, and into the room behind it.
func spoil[T any](l []T, value T) {
	l = l[:cap(l)]
	for i := range l {
		l[i] = value
	}
}

// TestOutsAreTheCallers: who writes into them changes neither the Gate nor what was told before (R2).
func TestOutsAreTheCallers(t *testing.T) {
	p := newPair(t, product(3))
	p.mess(3)
	var kept [][]gate.Out
	for i := range int64(40) {
		session := int(i) % sessions
		kept = append(kept, p.ask(session, day(1000+i, int(i%6), sides[i%2], 20, 9)), p.ask(session, replace(i, 5, 7)),
			p.ask(session, cancel(i)), p.ask(session, reduce(i+8, 1)), p.send(session, nil), p.send(-1, bytesOf(cancel(1))))
	}
	for i, l := range kept {
		var others []gate.Out
		for _, other := range kept[i+1:] {
			others = append(others, other...)
		}
		spoil(l, gate.Out{Session: -7, Report: api.Report{Kind: -1, ID: -1, Left: -1}})
		var after []gate.Out
		for _, other := range kept[i+1:] {
			after = append(after, other...)
		}
		if !slices.Equal(others, after) {
			t.Fatalf("R2: the Outs of two commands share memory")
		}
	}
	p.check()
	p.then()
}

// TestBytesAreLeft: what Do and Check are given stays as it is, with the room behind it, which is not read, and what becomes of it then is nothing to the Gate (R2, R5).
func TestBytesAreLeft(t *testing.T) {
	p := newPair(t, product(3))
	d := drawer{chance: 3, p: product(3), few: sessions}
	for range 150 {
		session, c := d.draw(p.model)
		c.Label = "é"
		b := bytesOf(c)
		given := append(slices.Clone(b), 1, 2, 3)[:len(b)]
		before := slices.Clone(given[:len(b)+3])
		want := p.model.do(session, b)
		if a, b := p.gate.Check(session, given), p.gate.Check(session, b); a != b {
			t.Fatalf("R5: Check: %d, and then %d", int(a), int(b))
		}
		if got := p.gate.Do(session, given); !slices.Equal(got, want) {
			t.Fatalf("R5: %v of session %d: %s, want %s", c, session, texts(got), texts(want))
		}
		if !bytes.Equal(given[:len(b)+3], before) {
			t.Fatalf("R2: the bytes have changed: % x, were % x", given[:len(b)+3], before)
		}
		spoil(given, 0xff)
		p.ids = append(p.ids, c.ID)
	}
	p.check()
	p.then()
}

// TestProductIsCopied: a Gate goes on with the product that New was given, whatever becomes of its lists (R2).
func TestProductIsCopied(t *testing.T) {
	for months := 2; months <= api.MaxExp; months++ {
		given := product(months)
		p := newPair(t, given)
		p.model = newModel(product(months))
		for i := range given.Months {
			given.Months[i], given.Settle[i] = -i, 1
		}
		p.mess(months)
		// Legs need the settlement prices, and a Market of the Gate the whole product.
		for inst := months; inst < refdata.Count(p.model.p); inst++ {
			p.put(0, day(int64(1000+inst), inst, api.Sell, 50, 3))
			p.put(1, timed(day(int64(2000+inst), inst, api.Buy, 50, 3), api.Now))
		}
		p.check()
		p.then()
	}
}

// TestProductIsLeft: the product that New is given stays as it is, with the room behind its lists, whatever is done with the Gate (R2, R5).
func TestProductIsLeft(t *testing.T) {
	for _, behind := range []int64{-7, 7, 205} {
		for _, months := range []int{2, 3, 6} {
			given := product(months)
			allMonths, allSettle := append(slices.Clone(given.Months), int(behind), 1199), append(slices.Clone(given.Settle), behind, -behind)
			given.Months, given.Settle = allMonths[:months], allSettle[:months]
			monthsBefore, settleBefore := slices.Clone(allMonths), slices.Clone(allSettle)
			p, d := newPair(t, given), drawer{chance: 7, p: product(months), few: sessions}
			p.model = newModel(product(months))
			for range 50 {
				p.ask(d.draw(p.model))
			}
			p.check()
			if !slices.Equal(allMonths, monthsBefore) || !slices.Equal(allSettle, settleBefore) {
				t.Errorf("R2: %d months: the product has changed: %v, %v, were %v, %v", months, allMonths, allSettle, monthsBefore, settleBefore)
			}
		}
	}
}

// TestGatesApart: what is done with one Gate is nothing to another one of the same product, which may use the same IDs for other sessions (R2, R4).
func TestGatesApart(t *testing.T) {
	given := product(3)
	one, other := newPair(t, given), newPair(t, given)
	one.mess(3)
	for i := range int64(30) {
		one.ask(int(i%sessions), timed(day(1000+i, int(i%6), sides[i%2], 20, 5), api.Now))
		one.ask(int(i%sessions), cancel(i))
		other.check()
		other.put(int(i+3)%sessions, day(i+1, int(i%6), sides[i%2], 5*(i%5), 5))
		other.ask(int(i/2+3)%sessions, replace(i/2+1, 5, 9))
		one.check()
	}
	third := newPair(t, given)
	third.check()
	third.put(1, day(1, 0, api.Buy, 5, 5))
}

// TestSameBytesSameOuts: two Gates that are given the same bytes, one of them asked for copies and other things in between (R4).
func TestSameBytesSameOuts(t *testing.T) {
	for _, rule := range rules {
		given := ruled(3, rule)
		one, other := newPair(t, given), newPair(t, given)
		d := drawer{chance: 9, p: given, few: sessions}
		for n := range 150 {
			session, c := d.draw(one.model)
			l := one.ask(session, c)
			if n%5 == 0 {
				one.gate.Market().Do(timed(day(800000, int(c.ID%6), api.Buy, 50, 5), api.Now))
				one.gate.Check(session, bytesOf(day(800000, 0, api.Buy, 0, 1)))
			}
			if m := other.ask(session, c); !slices.Equal(l, m) {
				t.Fatalf("R4: %s: %s, and then %s", one.last(), texts(l), texts(m))
			}
		}
		one.check()
		other.check()
	}
}
