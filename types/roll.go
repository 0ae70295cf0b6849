package types

import (
	"ratchet/api"
)

// rolled is how the first type of a rolled group is told; those behind it follow downward.
const rolled = -100

// maxFirst is the greatest number that the first type of an unrolled group may have.
const maxFirst = 1<<31 - 1

// Roll tells a group in which the types of its own are told by their places.
func Roll(l []api.RecType, g int) (api.RecType, api.Errno) {
	if g < 0 || g >= len(l) {
		return api.RecType{}, api.ErrArg
	}
	first := Count(l[:g])
	end := first + len(l[g].Types)
	return replaced(l[g], func(n int) (int, bool) {
		if n < 0 || n >= end {
			return 0, false
		}
		if n < first {
			return n, true
		}
		return rolled - (n - first), true
	})
}

// Unroll tells a rolled group with the numbers of its types, of which first is the first.
func Unroll(r api.RecType, first int) (api.RecType, api.Errno) {
	if first < 0 || first > maxFirst {
		return api.RecType{}, api.ErrArg
	}
	return replaced(r, func(n int) (int, bool) {
		if n > rolled {
			return n, true
		}
		place := rolled - n
		if place >= len(r.Types) {
			return 0, false
		}
		return first + place, true
	})
}

// replaced tells a group with what swap answers in the place of each number; no number may be one that swap refuses.
func replaced(r api.RecType, swap func(n int) (int, bool)) (api.RecType, api.Errno) {
	out := copied(r)
	ok := true
	for _, s := range out.Types {
		each(s, func(n *int) {
			m, may := swap(*n)
			*n, ok = m, ok && may
		})
	}
	if !ok {
		return api.RecType{}, api.ErrUnknown
	}
	return out, api.OK
}

// each hands see the place of every number that a type speaks of, from the left: all but the abstract heap types, which are no numbers. It hands places, so that of a copy the numbers may be changed.
func each(s api.SubType, see func(n *int)) {
	for i := range s.Supers {
		see(&s.Supers[i])
	}
	c := ofKind(s.Comp)
	for i := range c.Params {
		heapOf(&c.Params[i], see)
	}
	for i := range c.Results {
		heapOf(&c.Results[i], see)
	}
	for i := range c.Fields {
		heapOf(&c.Fields[i].Type, see)
	}
}

func heapOf(v *api.ValType, see func(n *int)) {
	if v.Num == api.TRef && !abstract(v.Heap) {
		see(&v.Heap)
	}
}

func abstract(heap int) bool { return api.HNoExn <= heap && heap <= api.HFunc }

// counted leaves of a value type what counts: a number's Null and Heap do not.
func counted(v api.ValType) api.ValType {
	if v.Num != api.TRef {
		return api.ValType{Num: v.Num}
	}
	return v
}

// ofKind leaves of a composite type the lists that its kind has.
func ofKind(c api.CompType) api.CompType {
	switch c.Kind {
	case api.CFunc:
		return api.CompType{Kind: c.Kind, Params: c.Params, Results: c.Results}
	case api.CStruct, api.CArray:
		return api.CompType{Kind: c.Kind, Fields: c.Fields}
	}
	return api.CompType{Kind: c.Kind}
}

// copied tells what counts of a group in lists of its own.
func copied(r api.RecType) api.RecType {
	out := api.RecType{Explicit: r.Explicit}
	for _, s := range r.Types {
		c := ofKind(s.Comp)
		out.Types = append(out.Types, api.SubType{
			Final:  s.Final,
			Supers: append([]int(nil), s.Supers...),
			Comp:   api.CompType{Kind: c.Kind, Params: copiedVals(c.Params), Results: copiedVals(c.Results), Fields: copiedFields(c.Fields)},
		})
	}
	return out
}

func copiedVals(l []api.ValType) []api.ValType {
	var out []api.ValType
	for _, v := range l {
		out = append(out, counted(v))
	}
	return out
}

func copiedFields(l []api.Field) []api.Field {
	var out []api.Field
	for _, f := range l {
		out = append(out, api.Field{Type: counted(f.Type), Mut: f.Mut})
	}
	return out
}
