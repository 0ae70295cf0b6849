package sub_test

import (
	"ratchet/api"
	"ratchet/canon"
	"ratchet/types"
)

// oracle knows which heap types match which by the chapter's words: each word is a step, and steps are led on till no new pair comes. It goes for lists in which no type stands below one of another kind, or of none, where it has one itself.
type oracle struct {
	l    []api.RecType
	subs []api.SubType
	rel  [][]bool
}

// place is where a heap type stands in rel: those of heaps in their order.
func place(h int) int {
	if h < 0 {
		return h - api.HNoExn
	}
	return h + 12
}

func (o *oracle) say(a, b int) { o.rel[place(a)][place(b)] = true }

func newOracle(l []api.RecType) *oracle {
	all := heaps(l)
	o := &oracle{l: l}
	for range all {
		o.rel = append(o.rel, make([]bool, len(all)))
	}
	for _, r := range l {
		o.subs = append(o.subs, r.Types...)
	}
	for _, p := range [][2]int{
		{api.HNone, api.HEq}, {api.HI31, api.HEq}, {api.HStruct, api.HEq}, {api.HArray, api.HEq}, {api.HEq, api.HAny},
		{api.HNone, api.HI31}, {api.HNone, api.HStruct}, {api.HNone, api.HArray},
		{api.HNoFunc, api.HFunc}, {api.HNoExtern, api.HExtern}, {api.HNoExn, api.HExn},
	} {
		o.say(p[0], p[1])
	}
	for n, s := range o.subs {
		o.step(n, s)
	}
	for _, h := range all {
		o.say(h, h)
	}
	for k := range all {
		for a := range all {
			for b := range all {
				o.rel[a][b] = o.rel[a][b] || o.rel[a][k] && o.rel[k][b]
			}
		}
	}
	return o
}

// step tells what a defined type matches, and is matched by, at once.
func (o *oracle) step(n int, s api.SubType) {
	if kind, ok := map[int]int{api.CFunc: api.HFunc, api.CStruct: api.HStruct, api.CArray: api.HArray}[s.Comp.Kind]; ok {
		o.say(n, kind)
		o.say(map[int]int{api.CFunc: api.HNoFunc, api.CStruct: api.HNone, api.CArray: api.HNone}[s.Comp.Kind], n)
	}
	if len(s.Supers) > 0 {
		o.say(n, s.Supers[0])
	}
	for m := range o.subs {
		if ok, _ := canon.Same(o.l, n, m); ok {
			o.say(n, m)
		}
	}
}

func (o *oracle) heap(a, b int) bool { return o.rel[place(a)][place(b)] }

func (o *oracle) val(a, b api.ValType) bool {
	if a.Num != b.Num {
		return false
	}
	return a.Num != api.TRef || !(a.Null && !b.Null) && o.heap(a.Heap, b.Heap)
}

func (o *oracle) vals(a, b []api.ValType) bool {
	if len(a) != len(b) {
		return false
	}
	for i := range a {
		if !o.val(a[i], b[i]) {
			return false
		}
	}
	return true
}

func (o *oracle) field(a, b api.Field) bool {
	both := a.Mut && b.Mut && o.val(a.Type, b.Type) && o.val(b.Type, a.Type)
	return both || !a.Mut && !b.Mut && o.val(a.Type, b.Type)
}

func (o *oracle) comp(a, b api.CompType) bool {
	if a.Kind != b.Kind {
		return false
	}
	if a.Kind == api.CFunc {
		return o.vals(b.Params, a.Params) && o.vals(a.Results, b.Results)
	}
	for i, f := range b.Fields {
		if i >= len(a.Fields) || !o.field(a.Fields[i], f) {
			return false
		}
	}
	return true
}

// decl tells what Decl tells, each type's row of those above it gone through anew.
func (o *oracle) decl() (int, api.Errno) {
	for n, s := range o.subs {
		if e := o.declared(n, s); e != api.OK {
			return n, e
		}
	}
	return 0, api.OK
}

func (o *oracle) declared(n int, s api.SubType) api.Errno {
	for _, m := range s.Supers {
		if m >= n {
			return api.ErrUnknown
		}
	}
	if len(s.Supers) > 1 {
		return api.ErrArg
	}
	if len(s.Supers) == 0 {
		return api.OK
	}
	above, deep := o.subs[s.Supers[0]], 1
	for at := above; len(at.Supers) > 0; at = o.subs[at.Supers[0]] {
		deep++
	}
	switch {
	case above.Final:
		return api.ErrFinal
	case deep > api.MaxDepth:
		return api.ErrDepth
	case !o.comp(s.Comp, above.Comp):
		return api.ErrSuper
	}
	return api.OK
}

// joins are all heap types that two match and that match each other one that they match.
func (o *oracle) joins(a, b int) []int {
	var both, least []int
	for _, h := range heaps(o.l) {
		if o.heap(a, h) && o.heap(b, h) {
			both = append(both, h)
		}
	}
	for _, h := range both {
		is := true
		for _, k := range both {
			is = is && o.heap(h, k)
		}
		if is {
			least = append(least, h)
		}
	}
	return least
}

// row is what a type declares above it, itself ahead, each once.
func (o *oracle) row(n int) []int {
	seen, out := map[int]bool{}, []int(nil)
	for !seen[n] {
		seen[n], out = true, append(out, n)
		if len(o.subs[n].Supers) > 0 {
			n = o.subs[n].Supers[0]
		}
	}
	return out
}

func tops() map[int][2]int {
	any, fun := [2]int{api.HAny, api.HNone}, [2]int{api.HFunc, api.HNoFunc}
	ext, exn := [2]int{api.HExtern, api.HNoExtern}, [2]int{api.HExn, api.HNoExn}
	return map[int][2]int{
		api.HAny: any, api.HEq: any, api.HI31: any, api.HStruct: any, api.HArray: any, api.HNone: any,
		api.HFunc: fun, api.HNoFunc: fun, api.HExtern: ext, api.HNoExtern: ext, api.HExn: exn, api.HNoExn: exn,
	}
}

// family is the top and the bottom of a heap type.
func (o *oracle) family(h int) [2]int {
	if h < 0 {
		return tops()[h]
	}
	s, _, _, _ := types.At(o.l, h)
	if s.Comp.Kind == api.CFunc {
		return tops()[api.HFunc]
	}
	return tops()[api.HAny]
}
