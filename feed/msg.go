package feed

import (
	"cornhill/api"
	"cornhill/wire"
)

// maxByte is the greatest number that a Byte holds.
const maxByte = 255

// Encode returns m as bytes.
func Encode(m api.Msg) ([]byte, api.Errno) {
	if m.Inst < 0 || m.Inst > maxByte || !isSide(m.Side) {
		return nil, api.ErrForm
	}
	w := wire.NewWriter()
	w.Long(m.Seq)
	w.Byte(m.Inst)
	w.Byte(m.Side)
	w.Long(m.Price)
	w.Long(m.Qty)
	w.Long(m.Count)
	w.Byte(number(m.Implied))
	return w.Done(), api.OK
}

// Decode returns the message whose encoding is b.
func Decode(b []byte) (api.Msg, api.Errno) {
	from := wire.NewReader(b)
	m := api.Msg{
		Seq:   from.Long(),
		Inst:  from.Byte(),
		Side:  from.Byte(),
		Price: from.Long(),
		Qty:   from.Long(),
		Count: from.Long(),
	}
	last := from.Byte()
	m.Implied = last == number(true)
	if from.End() != api.OK || !isSide(m.Side) || last != number(m.Implied) {
		return api.Msg{}, api.ErrForm
	}
	return m, api.OK
}

// number returns what stands in the bytes of a message for Implied.
func number(implied bool) int {
	if implied {
		return 1
	}
	return 0
}
