// Package shape tells groups of types by their shape, whatever numbers their types have: layers 6 and 7 tell types apart by it.
package shape

import (
	"strconv"

	"ratchet/api"
)

// rolled marks the first place of a rolled up group; those behind it follow downward, as types.Unroll takes them.
const rolled = -100

// Number tells the ids of a closed list's types by the first id that place gives each group, rolled up; or the place of the first group that it refuses.
func Number(l []api.RecType, place func(r api.RecType) (int, bool)) ([]int, int, bool) {
	var ids []int
	for g, r := range l {
		first, ok := place(rolledUp(r, ids))
		if !ok {
			return nil, g, false
		}
		for i := range r.Types {
			ids = append(ids, first+i)
		}
	}
	return ids, 0, true
}

// rolledUp tells a group by the ids of the types ahead of it, and its own types by their places. Whether it was written as a group is left out.
func rolledUp(r api.RecType, ids []int) api.RecType {
	first := len(ids)
	told := func(n int) int {
		if n < first {
			return ids[n]
		}
		return rolled - (n - first)
	}
	return api.RecType{Types: each(r.Types, func(s api.SubType) api.SubType { return Swapped(s, told) })}
}

// Swapped tells what counts of a type in lists of its own, with what swap answers in the place of each number. A number type's Null and Heap, and lists that the kind does not have, are left out.
func Swapped(s api.SubType, swap func(n int) int) api.SubType {
	val := func(v api.ValType) api.ValType { return swappedVal(v, swap) }
	field := func(f api.Field) api.Field { return api.Field{Type: val(f.Type), Mut: f.Mut} }
	c := api.CompType{Kind: s.Comp.Kind}
	switch c.Kind {
	case api.CFunc:
		c.Params, c.Results = each(s.Comp.Params, val), each(s.Comp.Results, val)
	case api.CStruct, api.CArray:
		c.Fields = each(s.Comp.Fields, field)
	}
	return api.SubType{Final: s.Final, Supers: each(s.Supers, swap), Comp: c}
}

func swappedVal(v api.ValType, swap func(n int) int) api.ValType {
	switch {
	case v.Num != api.TRef:
		return api.ValType{Num: v.Num}
	case v.Heap >= 0:
		v.Heap = swap(v.Heap)
	}
	return v
}

func each[T any](l []T, tell func(T) T) []T {
	var out []T
	for _, x := range l {
		out = append(out, tell(x))
	}
	return out
}

// Text tells a rolled up group by numbers, each list behind its length, so that two groups are one just if their texts are. types.RecText would not do: all that is no type has one text there.
func Text(r api.RecType) string {
	w := &writer{}
	for _, s := range r.Types {
		w.sub(s)
	}
	return string(w.bytes)
}

type writer struct{ bytes []byte }

func (w *writer) sub(s api.SubType) {
	w.flag(s.Final)
	list(w, s.Supers, w.number)
	w.number(s.Comp.Kind)
	list(w, s.Comp.Params, w.val)
	list(w, s.Comp.Results, w.val)
	list(w, s.Comp.Fields, w.field)
}

func (w *writer) field(f api.Field) {
	w.flag(f.Mut)
	w.val(f.Type)
}

func (w *writer) val(v api.ValType) {
	w.number(v.Num)
	w.flag(v.Null)
	w.number(v.Heap)
}

func (w *writer) flag(set bool) {
	if set {
		w.number(1)
	} else {
		w.number(0)
	}
}

func (w *writer) number(n int) {
	w.bytes = append(strconv.AppendInt(w.bytes, int64(n), 10), ' ')
}

func list[T any](w *writer, l []T, write func(T)) {
	w.number(len(l))
	for _, x := range l {
		write(x)
	}
}
