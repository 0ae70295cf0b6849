package arena

import (
	"math"

	"ratchet/api"
	"ratchet/types"
)

// wordBits is how many bits a word has.
const wordBits = 64

// part is where a part of an object lies, and its type's number.
type part struct {
	num  int
	slot api.Slot
}

// layout is how the objects of a type lie: of a struct its fields and its words; of an array the first element.
type layout struct {
	kind  int
	parts []part
	words int
}

// Layout tells where a struct's fields lie, and how many words it takes.
func Layout(s api.SubType) ([]api.Slot, int, api.Errno) {
	if s.Comp.Kind != api.CStruct {
		return nil, 0, api.ErrKind
	}
	l, e := laid(s)
	if e != api.OK {
		return nil, 0, e
	}
	slots := make([]api.Slot, len(l.parts))
	for i, p := range l.parts {
		slots[i] = p.slot
	}
	return slots, l.words, api.OK
}

// Words tells how many words an object of a type takes.
func Words(s api.SubType, n uint64) (uint64, api.Errno) {
	l, e := laid(s)
	if e != api.OK {
		return 0, e
	}
	return l.size(n), api.OK
}

// laid lays out a struct's fields, or an array's first element as though it were one.
func laid(s api.SubType) (layout, api.Errno) {
	c := s.Comp
	l := layout{kind: c.Kind}
	if c.Kind != api.CStruct && c.Kind != api.CArray {
		return layout{}, api.ErrKind
	}
	if c.Kind == api.CArray && len(c.Fields) != 1 {
		return layout{}, api.ErrKind
	}
	bit := 0
	for _, f := range c.Fields {
		w := bits(f.Type)
		if w == 0 {
			return layout{}, api.ErrKind
		}
		// Widths are powers of 2.
		bit = (bit + w - 1) &^ (w - 1)
		l.parts = append(l.parts, part{f.Type.Num, slot(bit, w)})
		bit += w
	}
	l.words = 1 + (bit+wordBits-1)/wordBits
	return l, api.OK
}

// bits tells how wide a part is; 0 of what is no part's type.
func bits(v api.ValType) int {
	if v.Num == api.TRef {
		return wordBits
	}
	return 8 * types.Bytes(v)
}

func slot(bit, width int) api.Slot {
	return api.Slot{Word: bit / wordBits, Shift: bit % wordBits, Bits: width}
}

// at tells the i-th part.
func (l layout) at(i uint64) part {
	if l.kind == api.CStruct {
		return l.parts[i]
	}
	p := l.parts[0]
	return part{p.num, slot(int(i)*p.slot.Bits, p.slot.Bits)}
}

// size tells how many words an object takes that has n elements, if it is an array.
func (l layout) size(n uint64) uint64 {
	if l.kind == api.CStruct {
		return uint64(l.words)
	}
	w := begun(n, uint64(wordBits/l.parts[0].slot.Bits))
	if w == math.MaxUint64 {
		return w
	}
	return 1 + w
}

// begun tells how many words are begun, if so many parts stand in each.
func begun(n, each uint64) uint64 {
	w := n / each
	if n%each != 0 {
		w++
	}
	return w
}
