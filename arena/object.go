package arena

import (
	"iter"

	"ratchet/api"
)

// Where the first word's fields lie: the lowest bit tells an exception, then come the id or tag, and above them how many parts.
const (
	ofShift   = 1
	manyShift = 32
)

// Of an exception the values' types stand ahead of them, perTags in a word.
const (
	perTags = 16
	tagBits = 4
)

// head is an object's first word, taken apart.
type head struct {
	exn  bool
	of   int // the id; of an exception the tag
	many uint64
}

// word tells the head as a word. An object that an arena has room for has no more parts than the bits suffice for.
func (h head) word() uint64 {
	w := uint64(h.of)<<ofShift | h.many<<manyShift
	if h.exn {
		w |= 1
	}
	return w
}

func headOf(w uint64) head {
	return head{
		exn:  w&1 == 1,
		of:   int(w >> ofShift & (1<<(manyShift-ofShift) - 1)),
		many: w >> manyShift,
	}
}

// object is an object of an arena. Its words are those behind the first one, and shared with the arena.
type object struct {
	head
	lay   layout // of a struct, an array
	words []uint64
}

// find tells the object whose address is at.
func (a *Arena) find(at uint64) (object, api.Errno) {
	if !a.made() {
		return object{}, api.ErrZero
	}
	if !a.begins.has(at) {
		return object{}, api.ErrNone
	}
	return a.object(at), api.OK
}

// object tells the object that begins at a word.
func (a *Arena) object(at uint64) object {
	o := object{head: headOf(a.taken[at]), words: a.taken[at+1:]}
	if !o.exn {
		o.lay = a.layouts[o.of]
	}
	return o
}

// size tells how many words the object takes.
func (o object) size() int {
	if o.exn {
		return int(exnSize(o.many))
	}
	return int(o.lay.size(o.many))
}

// exnSize tells how many words an exception with n values takes.
func exnSize(n uint64) uint64 { return 1 + begun(n, perTags) + n }

// tagShift tells where the type of the i-th value stands in its word.
func tagShift(i uint64) uint64 { return i % perTags * tagBits }

// part tells where the i-th part lies.
func (o object) part(i uint64) part {
	if !o.exn {
		return o.lay.at(i)
	}
	num := o.words[i/perTags] >> tagShift(i) & (1<<tagBits - 1)
	return part{int(num), api.Slot{Word: int(begun(o.many, perTags) + i), Bits: wordBits}}
}

// parts goes over the object's parts, in order.
func (o object) parts() iter.Seq[part] {
	return func(yield func(part) bool) {
		for i := range o.many {
			if !yield(o.part(i)) {
				return
			}
		}
	}
}

// refs goes over those that are references.
func (o object) refs() iter.Seq[part] {
	return func(yield func(part) bool) {
		// A long array of numbers is not to be gone through for nothing.
		if o.lay.kind == api.CArray && o.lay.parts[0].num != api.TRef {
			return
		}
		for p := range o.parts() {
			if p.num == api.TRef && !yield(p) {
				return
			}
		}
	}
}
