package sub_test

import (
	"fmt"
	"math/rand"
	"strconv"

	"ratchet/api"
	"ratchet/types"
)

// read makes a list of groups from their texts.
func read(texts ...string) []api.RecType {
	var l []api.RecType
	for _, s := range texts {
		r, at, e := types.ParseRec(s)
		if e != api.OK {
			panic(fmt.Sprint(s, ": error ", e, " at ", at))
		}
		l = append(l, r)
	}
	return l
}

func val(text string) api.ValType {
	v, at, e := types.Parse(text)
	if e != api.OK {
		panic(fmt.Sprint(text, ": error ", e, " at ", at))
	}
	return v
}

func vals(texts ...string) []api.ValType {
	var l []api.ValType
	for _, s := range texts {
		l = append(l, val(s))
	}
	return l
}

func comp(text string) api.CompType { return read(text)[0].Types[0].Comp }

// heap is a heap type by its word, or by its number.
func heap(text string) int { return val("(ref " + text + ")").Heap }

func ref(h int) api.ValType     { return api.ValType{Num: api.TRef, Heap: h} }
func refNull(h int) api.ValType { return api.ValType{Num: api.TRef, Null: true, Heap: h} }

// alone is a group of one type.
func alone(c api.CompType, supers ...int) api.RecType {
	return api.RecType{Types: []api.SubType{{Supers: supers, Comp: c}}}
}

// chain is a row of types, each below the one ahead of it.
func chain(many int) []api.RecType {
	l := read("(sub (struct))")
	for n := 1; n < many; n++ {
		l = append(l, read("(sub "+strconv.Itoa(n-1)+" (struct))")...)
	}
	return l
}

// heaps are all heap types of a list.
func heaps(l []api.RecType) []int {
	var out []int
	for h := api.HNoExn; h <= api.HFunc; h++ {
		out = append(out, h)
	}
	for n := range types.Count(l) {
		out = append(out, n)
	}
	return out
}

// unclosed are lists of which each has types, and is not closed; with the number of the type at fault.
func unclosed() map[string]struct {
	l []api.RecType
	n int
} {
	type fault = struct {
		l []api.RecType
		n int
	}
	return map[string]fault{
		"past the end":            {read("(sub (func))", "(struct (field (ref 2)))"), 1},
		"a later group":           {read("(sub (func))", "(struct (field (ref 2)))", "(func)"), 1},
		"a Super past the end":    {read("(sub (func))", "(func)", "(sub 3 (func))"), 2},
		"a Super of a later one":  {read("(sub 1 (func))", "(func)"), 0},
		"rolled":                  {read("(sub (func))", "(array (ref rec.0))"), 1},
		"a rolled Super":          {read("(sub (func))", "(sub rec.0 (func))"), 1},
		"an abstract one":         {append(read("(sub (func))"), alone(api.CompType{Kind: api.CArray, Fields: []api.Field{{Type: ref(-13)}}})), 1},
		"an abstract Super":       {append(read("(sub (func))"), alone(api.CompType{Kind: api.CFunc}, api.HFunc)), 1},
		"one of several Supers":   {append(read("(sub (func))"), alone(api.CompType{Kind: api.CFunc}, 0, 0, 9)), 1},
		"a result, far behind it": {append(chain(30), read("(func (result i32 (ref 31)))")...), 30},
	}
}

// generator makes closed lists in which many declarations may be, and many types are one.
type generator struct {
	*rand.Rand
	wild bool // declarations that may not be come too
}

func newGenerator(seed int64, wild bool) *generator {
	return &generator{rand.New(rand.NewSource(seed)), wild}
}

func (g *generator) list() []api.RecType {
	var l []api.RecType
	var all []api.SubType
	for range 1 + g.Intn(5) {
		r := g.group(all)
		if len(l) > 0 && g.Intn(3) == 0 {
			r = g.again(l, len(all))
		}
		l = append(l, r)
		all = append(all, r.Types...)
	}
	return l
}

// again is one of the groups, with numbers for where it stands now.
func (g *generator) again(l []api.RecType, at int) api.RecType {
	k := g.Intn(len(l))
	rolled, _ := types.Roll(l, k)
	r, _ := types.Unroll(rolled, at)
	return r
}

func (g *generator) group(ahead []api.SubType) api.RecType {
	all := append([]api.SubType(nil), ahead...)
	many := []int{1, 1, 1, 2, 2, 3}[g.Intn(6)]
	end := len(ahead) + many
	for range many {
		all = append(all, g.sub(all, end))
	}
	r := api.RecType{Types: all[len(ahead):], Explicit: g.Intn(2) == 0}
	if g.wild && g.Intn(3) == 0 {
		g.spoil(r, ahead, end)
	}
	return r
}

// spoil lays another type of the same kind above one of the group: of its own group, itself, a final one.
func (g *generator) spoil(r api.RecType, ahead []api.SubType, end int) {
	i := g.Intn(len(r.Types))
	for range 10 {
		n := g.Intn(end)
		above := append(ahead[:len(ahead):len(ahead)], r.Types...)[n]
		if above.Comp.Kind == r.Types[i].Comp.Kind {
			r.Types[i].Supers = append([]int{n}, r.Types[i].Supers...)
			return
		}
	}
}

// sub is a type below one of those ahead, if there is one that is not final.
func (g *generator) sub(ahead []api.SubType, end int) api.SubType {
	s := api.SubType{Final: g.Intn(6) == 0}
	if len(ahead) > 0 && g.Intn(4) > 0 {
		n := g.Intn(len(ahead))
		if !ahead[n].Final || g.wild && g.Intn(2) == 0 {
			s.Supers, s.Comp = []int{n}, g.lower(ahead[n].Comp, end)
			return s
		}
	}
	s.Comp = api.CompType{Kind: api.CFunc + g.Intn(3)}
	switch s.Comp.Kind {
	case api.CFunc:
		s.Comp.Params, s.Comp.Results = g.vals(end), g.vals(end)
	case api.CStruct:
		s.Comp.Fields = g.fields(end)
	default:
		s.Comp.Fields = []api.Field{g.field(end)}
	}
	return s
}

// lower is a composite type that matches another, if it does not change it too much.
func (g *generator) lower(c api.CompType, end int) api.CompType {
	out := api.CompType{Kind: c.Kind}
	for _, v := range c.Params {
		out.Params = append(out.Params, g.changed(v, end))
	}
	for _, v := range c.Results {
		out.Results = append(out.Results, g.changed(v, end))
	}
	for _, f := range c.Fields {
		out.Fields = append(out.Fields, api.Field{Type: g.changed(f.Type, end), Mut: f.Mut})
	}
	if c.Kind == api.CStruct {
		out.Fields = append(out.Fields, g.fields(end)...)
	}
	return out
}

// changed is mostly the type itself.
func (g *generator) changed(v api.ValType, end int) api.ValType {
	if v.Num != api.TRef || g.Intn(3) > 0 {
		return v
	}
	switch g.Intn(3) {
	case 0:
		v.Null = !v.Null
	case 1:
		v.Heap = g.Intn(end)
	default:
		v = g.val(end)
	}
	return v
}

func (g *generator) val(end int) api.ValType {
	switch g.Intn(8) {
	case 0:
		// What a number's Null and Heap hold counts for nothing.
		return api.ValType{Num: api.TI32 + g.Intn(2), Null: g.Intn(2) == 0, Heap: g.Intn(4) - 2}
	case 1:
		return api.ValType{Num: api.T8 + g.Intn(2)}
	case 2, 3:
		return api.ValType{Num: api.TRef, Null: g.Intn(2) == 0, Heap: -1 - g.Intn(12)}
	}
	return api.ValType{Num: api.TRef, Null: g.Intn(2) == 0, Heap: g.Intn(end)}
}

func (g *generator) vals(end int) []api.ValType {
	var l []api.ValType
	for range g.Intn(3) {
		l = append(l, g.val(end))
	}
	return l
}

func (g *generator) field(end int) api.Field {
	return api.Field{Type: g.val(end), Mut: g.Intn(3) == 0}
}

func (g *generator) fields(end int) []api.Field {
	var l []api.Field
	for range g.Intn(3) {
		l = append(l, g.field(end))
	}
	return l
}

// copied is a list in memory of its own.
func copied(l []api.RecType) []api.RecType {
	var out []api.RecType
	for _, r := range l {
		c := api.RecType{Explicit: r.Explicit}
		for _, s := range r.Types {
			s.Supers = append([]int(nil), s.Supers...)
			s.Comp.Params = append([]api.ValType(nil), s.Comp.Params...)
			s.Comp.Results = append([]api.ValType(nil), s.Comp.Results...)
			s.Comp.Fields = append([]api.Field(nil), s.Comp.Fields...)
			c.Types = append(c.Types, s)
		}
		out = append(out, c)
	}
	return out
}

// equal tells whether two things are the same to the last field; nil and empty lists are.
func equal(a, b any) bool { return fmt.Sprint(a) == fmt.Sprint(b) }
