package sub

import (
	"iter"
	"slices"

	"ratchet/api"
	"ratchet/types"
)

// defined tells whether both are defined types, of which one matches the other.
func (o *order) defined(a, b int) bool { return o.defines(a) && o.defines(b) && o.below(a, b) }

// heap tells whether one heap type matches another. What is none stands neither above nor below anything, so that it matches nothing, itself neither.
func (o *order) heap(a, b int) bool {
	if k, ok := o.kin(b); ok && a == k.bottom {
		return true
	}
	if o.defines(a) && o.defines(b) {
		return o.below(a, b)
	}
	for h := range o.above(a) {
		if h == b {
			return true
		}
	}
	return false
}

// above goes over a heap type and what stands above it, the defined ones ahead of the abstract ones. A declaration that may not be can lay a type below one of another kind, so that the kinds of all of them are told.
func (o *order) above(h int) iter.Seq[int] {
	if !o.defines(h) {
		return upward(h)
	}
	return func(yield func(int) bool) {
		for n := range o.row(h) {
			if !yield(n) {
				return
			}
		}
		for n := range o.row(h) {
			for k := range upward(kindOf(o.types[n].Comp)) {
				if !yield(k) {
					return
				}
			}
		}
	}
}

// unlike tells whether two heap types are of unlike families. A type of no kind has no family, but is a type all the same: what it declares above it says what it has in common with others.
func (o *order) unlike(a, b int) bool {
	k, ok := o.kin(a)
	m, is := o.kin(b)
	return ok && is && k.top != m.top
}

// join tells the first of what stands above one heap type that the other one matches. Above what is none nothing stands.
func (o *order) join(a, b int) (int, bool) {
	if o.unlike(a, b) {
		return 0, false
	}
	if k, ok := o.kin(a); ok && a == k.bottom {
		// The least of a family stands below types that its own row does not tell; the other one's row does.
		a, b = b, a
	}
	for h := range o.above(a) {
		if o.heap(b, h) {
			return h, true
		}
	}
	return 0, false
}

// number tells whether two value types are the same number, packed or not.
func number(a, b api.ValType) bool { return a.Num == b.Num && types.Bytes(a) > 0 }

func (o *order) val(a, b api.ValType) bool {
	if a.Num != api.TRef || b.Num != api.TRef {
		return number(a, b)
	}
	return (b.Null || !a.Null) && o.heap(a.Heap, b.Heap)
}

// alike tells whether two value types match both ways.
func (o *order) alike(a, b api.ValType) bool { return o.val(a, b) && o.val(b, a) }

func (o *order) vals(a, b []api.ValType) bool { return slices.EqualFunc(a, b, o.val) }

func (o *order) field(a, b api.Field) bool {
	if a.Mut || b.Mut {
		return a.Mut && b.Mut && o.alike(a.Type, b.Type)
	}
	return o.val(a.Type, b.Type)
}

func (o *order) comp(a, b api.CompType) bool {
	if a.Kind != b.Kind {
		return false
	}
	switch a.Kind {
	case api.CFunc:
		return o.vals(b.Params, a.Params) && o.vals(a.Results, b.Results)
	case api.CStruct:
		return o.fields(a.Fields, b.Fields)
	case api.CArray:
		// An array without just one field is none.
		return len(a.Fields) == 1 && len(b.Fields) == 1 && o.field(a.Fields[0], b.Fields[0])
	}
	return false
}

// fields tells whether a struct's fields match those of another that may have fewer.
func (o *order) fields(a, b []api.Field) bool {
	if len(a) < len(b) {
		return false
	}
	common, more := a[:len(b)], a[len(b):]
	return slices.EqualFunc(common, b, o.field) && !slices.ContainsFunc(more, o.strange)
}

// strange tells whether a field speaks of a type that there isn't: of such a field nothing is answered, though it be held against no other.
func (o *order) strange(f api.Field) bool { return f.Type.Num == api.TRef && !o.has(f.Type.Heap) }
