package snap_test

import (
	"encoding/binary"
	"hash/crc32"
	"slices"

	"cornhill/api"
	"cornhill/book"
	"cornhill/feed"
)

// rightModel asks of each list whether it is what it would be if it were put in order and each price stood once.
func rightModel(v feed.View) bool {
	for _, both := range v.Sides {
		for at, s := range both {
			var prices []int64
			for _, l := range s.Levels {
				prices = append(prices, l.Price)
			}
			inOrder := slices.Clone(prices)
			slices.Sort(inOrder)
			inOrder = slices.Compact(inOrder)
			if at == 0 {
				slices.Reverse(inOrder)
			}
			empty := func(l book.Level) bool { return l.Qty <= 0 || l.Count <= 0 }
			switch {
			case !slices.Equal(prices, inOrder), slices.ContainsFunc(s.Levels, empty), len(prices) > 255:
				return false
			case s.Has && empty(s.Implied):
				return false
			case !s.Has && (s.Implied.Price != 0 || s.Implied.Qty != 0 || s.Implied.Count != 0):
				return false
			}
		}
	}
	return len(v.Sides) <= 255
}

// fits reports whether bytesOf tells all of a View, whether it is valid or not.
func fits(v feed.View) bool {
	for _, both := range v.Sides {
		for _, s := range both {
			if len(s.Levels) > 255 || !s.Has && s.Implied != (book.Level{}) {
				return false
			}
		}
	}
	return len(v.Sides) <= 255
}

// bytesOf are the bytes of a View by the chapter, whether it is valid or not.
func bytesOf(v feed.View, seq int64) []byte {
	return sealed(contentOf(v, seq))
}

// sealed is the content with the right checksum behind it.
func sealed(content []byte) []byte {
	return binary.LittleEndian.AppendUint32(slices.Clone(content), crc32.ChecksumIEEE(content))
}

// contentOf are the bytes ahead of the checksum.
func contentOf(v feed.View, seq int64) []byte {
	b := append(longs(seq), byte(len(v.Sides)))
	for _, both := range v.Sides {
		for _, s := range both {
			b = append(b, byte(len(s.Levels)))
			for _, l := range s.Levels {
				b = append(b, longs(l.Price, l.Qty, l.Count)...)
			}
			if !s.Has {
				b = append(b, 0)
				continue
			}
			b = append(b, 1)
			b = append(b, longs(s.Implied.Price, s.Implied.Qty, s.Implied.Count)...)
		}
	}
	return b
}

// longs are the bytes of these numbers.
func longs(l ...int64) []byte {
	var b []byte
	for _, n := range l {
		b = binary.LittleEndian.AppendUint64(b, uint64(n))
	}
	return b
}

// source gives the bytes of a content one after the other, and tells when there were too few.
type source struct {
	b     []byte
	short bool
}

func (s *source) next(count int) []byte {
	if count > len(s.b) {
		s.short, s.b = true, nil
		return make([]byte, count)
	}
	b := s.b[:count]
	s.b = s.b[count:]
	return b
}

func (s *source) level() book.Level {
	b := s.next(24)
	n := func(at int) int64 { return int64(binary.LittleEndian.Uint64(b[at:])) }
	return book.Level{Price: n(0), Qty: n(8), Count: n(16)}
}

// decodeModel takes each list as the bytes tell it, and asks at the end whether what it found is valid and has just these bytes.
func decodeModel(b []byte) (feed.View, int64, api.Errno) {
	if len(b) < 4 || binary.LittleEndian.Uint32(b[len(b)-4:]) != crc32.ChecksumIEEE(b[:len(b)-4]) {
		return feed.View{}, 0, api.ErrSum
	}
	s := source{b: b[:len(b)-4]}
	seq := int64(binary.LittleEndian.Uint64(s.next(8)))
	v := viewOf(int(s.next(1)[0]))
	for inst := range v.Sides {
		for at := range 2 {
			if s.short {
				return feed.View{}, 0, api.ErrForm
			}
			to := &v.Sides[inst][at]
			for range s.next(1)[0] {
				to.Levels = append(to.Levels, s.level())
			}
			if to.Has = s.next(1)[0] != 0; to.Has {
				to.Implied = s.level()
			}
		}
	}
	if s.short || !rightModel(v) || string(bytesOf(v, seq)) != string(b) {
		return feed.View{}, 0, api.ErrForm
	}
	return v, seq, api.OK
}
