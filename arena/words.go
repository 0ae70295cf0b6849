package arena

import "ratchet/api"

// Where a reference's fields lie in its word: null is 0.
const (
	outShift  = 60
	kindShift = 61
)

// width is of as many bits as a part that does not take a whole word.
type width interface{ uint8 | uint16 | uint32 }

// signedWidth is likewise, with a sign.
type signedWidth interface{ int8 | int16 | int32 }

// narrow tells the bits of a width that stand in a word from a bit on, extended to 32 bits.
func narrow[U width, S signedWidth](word uint64, shift int, signed bool) uint64 {
	n := U(word >> shift)
	if signed {
		return uint64(uint32(S(n)))
	}
	return uint64(n)
}

// laidIn tells a word with other bits of a width from a bit on.
func laidIn[U width](word uint64, shift int, n uint64) uint64 {
	there := uint64(^U(0)) << shift
	return word&^there | uint64(U(n))<<shift
}

// cut tells what stands in a slot of a word.
func cut(word uint64, s api.Slot, signed bool) uint64 {
	switch s.Bits {
	case 8:
		return narrow[uint8, int8](word, s.Shift, signed)
	case 16:
		return narrow[uint16, int16](word, s.Shift, signed)
	case 32:
		return narrow[uint32, int32](word, s.Shift, signed)
	}
	return word
}

// put tells a word with other bits in a slot.
func put(word uint64, s api.Slot, n uint64) uint64 {
	switch s.Bits {
	case 8:
		return laidIn[uint8](word, s.Shift, n)
	case 16:
		return laidIn[uint16](word, s.Shift, n)
	case 32:
		return laidIn[uint32](word, s.Shift, n)
	}
	return n
}

// lies tells whether a reference may lie in a part, so that a word suffices for it.
func lies(r api.Ref) bool {
	if r.Kind == api.RNull {
		return r == api.Ref{}
	}
	return r.Kind > api.RNull && r.Kind <= api.RExn && r.Addr < 1<<outShift
}

// refWord tells a reference that lies in a part as a word.
func refWord(r api.Ref) uint64 {
	w := r.Addr | uint64(r.Kind)<<kindShift
	if r.Out {
		w |= 1 << outShift
	}
	return w
}

func refOf(w uint64) api.Ref {
	return api.Ref{
		Kind: int(w >> kindShift),
		Addr: w & (1<<outShift - 1),
		Out:  w>>outShift&1 == 1,
	}
}

// marks tells of each word, by one bit, whether it is marked.
type marks []uint64

func (m marks) has(at uint64) bool {
	return at/wordBits < uint64(len(m)) && m[at/wordBits]>>(at%wordBits)&1 == 1
}

// with marks a word, for which the list grows.
func (m marks) with(at uint64) marks {
	for uint64(len(m)) <= at/wordBits {
		m = append(m, 0)
	}
	m[at/wordBits] |= 1 << (at % wordBits)
	return m
}
