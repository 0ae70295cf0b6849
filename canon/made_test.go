package canon_test

import (
	"fmt"
	"math/rand"

	"ratchet/api"
	"ratchet/types"
)

// equal tells whether two things are the same to the last field; nil and empty lists are.
func equal(a, b any) bool { return fmt.Sprint(a) == fmt.Sprint(b) }

// read makes a list of groups from their texts.
func read(texts ...string) []api.RecType {
	var l []api.RecType
	for _, s := range texts {
		r, at, e := types.ParseRec(s)
		if e != api.OK {
			panic(fmt.Sprint(s, ": error ", e, " at ", at))
		}
		l = append(l, r)
	}
	return l
}

func sub(text string) api.SubType { return read(text)[0].Types[0] }

// joined is a list behind another, its numbers moved.
func joined(a, b []api.RecType) []api.RecType {
	l := append([]api.RecType(nil), a...)
	by := types.Count(a)
	for _, r := range b {
		r = copied(r)
		eachNumber(r, func(n *int) { *n += by })
		l = append(l, r)
	}
	return l
}

// copied is a group in lists of its own, to the last field.
func copied(r api.RecType) api.RecType {
	out := api.RecType{Explicit: r.Explicit}
	for _, s := range r.Types {
		s.Supers = append([]int(nil), s.Supers...)
		s.Comp.Params = append([]api.ValType(nil), s.Comp.Params...)
		s.Comp.Results = append([]api.ValType(nil), s.Comp.Results...)
		s.Comp.Fields = append([]api.Field(nil), s.Comp.Fields...)
		out.Types = append(out.Types, s)
	}
	return out
}

func eachVal(s api.SubType, see func(v *api.ValType)) {
	for i := range s.Comp.Params {
		see(&s.Comp.Params[i])
	}
	for i := range s.Comp.Results {
		see(&s.Comp.Results[i])
	}
	for i := range s.Comp.Fields {
		see(&s.Comp.Fields[i].Type)
	}
}

func eachNumber(r api.RecType, see func(n *int)) {
	for _, s := range r.Types {
		for i := range s.Supers {
			see(&s.Supers[i])
		}
		eachVal(s, func(v *api.ValType) {
			if v.Num == api.TRef && v.Heap >= 0 {
				see(&v.Heap)
			}
		})
	}
}

// spoil writes over all that a type's lists hold.
func spoil(s api.SubType) {
	for i := range s.Supers {
		s.Supers[i] = 77
	}
	eachVal(s, func(v *api.ValType) { *v = api.ValType{Num: api.TRef, Null: true, Heap: 77} })
	for i := range s.Comp.Fields {
		s.Comp.Fields[i].Mut = !s.Comp.Fields[i].Mut
	}
}

func spoilAll(l []api.RecType) {
	for i := range l {
		for j := range l[i].Types {
			spoil(l[i].Types[j])
			l[i].Types[j] = api.SubType{Final: !l[i].Types[j].Final}
		}
		l[i] = api.RecType{Explicit: !l[i].Explicit}
	}
}

// generator makes closed lists from few parts, so that many of their types are one.
type generator struct{ *rand.Rand }

func newGenerator(seed int64) generator { return generator{rand.New(rand.NewSource(seed))} }

func (g generator) list() []api.RecType {
	l, _ := g.behind(nil, nil)
	return l
}

// twins are two lists that have some groups in common.
func (g generator) twins() ([]api.RecType, []api.RecType) {
	a, from := g.behind(nil, nil)
	b, _ := g.behind(a, from)
	return a, b
}

// behind is a list with groups behind it, new ones and some that were there, moved; from tells of each type which one it repeats.
func (g generator) behind(ahead []api.RecType, from []int) ([]api.RecType, []int) {
	l := append([]api.RecType(nil), ahead...)
	from = append([]int(nil), from...)
	for range g.Intn(6) {
		first := len(from)
		if len(l) > 0 && g.Intn(2) == 0 {
			k := g.Intn(len(l))
			l = append(l, g.moved(l, from, k))
			from = append(from, from[types.Count(l[:k]):][:len(l[k].Types)]...)
			continue
		}
		n := []int{1, 1, 1, 1, 0, 2, 2, 3}[g.Intn(8)]
		r := api.RecType{Explicit: g.Intn(2) == 0}
		for i := range n {
			r.Types = append(r.Types, g.sub(first, n))
			from = append(from, first+i)
		}
		l = append(l, r)
	}
	return l, from
}

// moved is the group k as it stands behind the list; in the place of each type ahead any of those that repeat it.
func (g generator) moved(l []api.RecType, from []int, k int) api.RecType {
	first := types.Count(l[:k])
	r := copied(l[k])
	r.Explicit = g.Intn(2) == 0
	eachNumber(r, func(n *int) {
		if *n >= first {
			*n += len(from) - first
			return
		}
		was := from[*n]
		for *n = g.Intn(len(from)); from[*n] != was; *n = g.Intn(len(from)) {
		}
	})
	return r
}

// number is mostly one of the group's own, or the last one ahead of it.
func (g generator) number(first, n int) int {
	if first > 0 && g.Intn(3) == 0 {
		return g.Intn(first)
	}
	if first > 0 && g.Intn(3) == 0 {
		return first - 1
	}
	return first + g.Intn(n)
}

func (g generator) val(first, n int) api.ValType {
	switch g.Intn(6) {
	case 0:
		return api.ValType{Num: api.TRef, Null: g.Intn(2) == 0, Heap: api.HAny}
	case 1, 2:
		// What a number's Null and Heap hold counts for nothing.
		return api.ValType{Num: api.TI32 + g.Intn(2), Null: g.Intn(4) == 0, Heap: g.Intn(4) - 2}
	}
	return api.ValType{Num: api.TRef, Null: g.Intn(3) == 0, Heap: g.number(first, n)}
}

func (g generator) vals(first, n int) []api.ValType {
	var l []api.ValType
	for range g.Intn(2) {
		l = append(l, g.val(first, n))
	}
	return l
}

func (g generator) sub(first, n int) api.SubType {
	s := api.SubType{Final: g.Intn(4) > 0}
	for range max(0, g.Intn(5)-2) {
		s.Supers = append(s.Supers, g.number(first, n))
	}
	switch g.Intn(3) {
	case 0:
		s.Comp = api.CompType{Kind: api.CFunc, Params: g.vals(first, n), Results: g.vals(first, n)}
	case 1:
		s.Comp = api.CompType{Kind: api.CArray, Fields: []api.Field{{Type: g.val(first, n), Mut: g.Intn(3) == 0}}}
	default:
		s.Comp = api.CompType{Kind: api.CStruct}
		for range g.Intn(2) {
			s.Comp.Fields = append(s.Comp.Fields, api.Field{Type: g.val(first, n), Mut: g.Intn(3) == 0})
		}
	}
	return s
}
