package sub

import (
	"iter"

	"ratchet/api"
	"ratchet/shape"
	"ratchet/types"
)

// order answers questions about the types of one closed list.
type order struct {
	list  []api.RecType
	types []*api.SubType // by their numbers
	ids   []int          // made when they are asked for first
}

// closed tells the order of a list's types, if the list is closed.
func closed(l []api.RecType) (*order, bool) {
	if _, e := types.Closed(l); e != api.OK {
		return nil, false
	}
	return newOrder(l), true
}

func newOrder(l []api.RecType) *order {
	o := &order{list: l, types: make([]*api.SubType, 0, types.Count(l))}
	for _, r := range l {
		for i := range r.Types {
			o.types = append(o.types, &r.Types[i])
		}
	}
	return o
}

// defines tells whether a number is a type's.
func (o *order) defines(n int) bool { return 0 <= n && n < len(o.types) }

// has tells whether a number is a heap type's.
func (o *order) has(h int) bool {
	_, abstract := kinOf(h)
	return abstract || o.defines(h)
}

// kin tells a heap type's kin, of a defined one that of its kind.
func (o *order) kin(h int) (kin, bool) {
	if o.defines(h) {
		h = kindOf(o.types[h].Comp)
	}
	return kinOf(h)
}

// row goes over what stands above a defined type, itself ahead. Declarations that may not be can lead round, so that it ends behind as many steps as there are types.
func (o *order) row(n int) iter.Seq[int] {
	return func(yield func(int) bool) {
		at := n
		for range o.types {
			if !yield(at) || len(o.types[at].Supers) == 0 {
				return
			}
			at = o.types[at].Supers[0]
		}
	}
}

// one tells whether two defined types are one, as canon.Same does, but makes the ids of the list only once.
func (o *order) one(a, b int) bool {
	if o.ids == nil {
		o.ids = ids(o.list)
	}
	return o.ids[a] == o.ids[b]
}

// ids tells an id of each type of a closed list. A table of package canon would refuse the lists of more than MaxTypes types, of which questions may be asked too.
func ids(l []api.RecType) []int {
	firsts, count := map[string]int{}, 0
	out, _, _ := shape.Number(l, func(r api.RecType) (int, bool) {
		key := shape.Text(r)
		first, ok := firsts[key]
		if !ok {
			first = count
			firsts[key] = first
			count += len(r.Types)
		}
		return first, true
	})
	return out
}

// below tells whether one defined type is another, or stands below it.
func (o *order) below(a, b int) bool {
	// Most often the numbers say so, and no ids are needed.
	for n := range o.row(a) {
		if n == b {
			return true
		}
	}
	for n := range o.row(a) {
		if o.one(n, b) {
			return true
		}
	}
	return false
}
