package vref_test

import (
	"math"
	"slices"
	"testing"

	"ratchet/api"
	"ratchet/opcode"
	"ratchet/sub"
)

// Heaps that are none: below the least abstract one, and numbers of no type.
func noHeaps() []int {
	return []int{api.HNoExn - 1, -14, -99, -100, -101, math.MinInt32, math.MinInt, noType, noType + 1, 1000, math.MaxInt32, math.MaxUint32, math.MaxInt}
}

// greatest is that of a heap type's family.
func greatest(h int) int {
	switch {
	case h >= 0 && compOf(h).Kind == api.CFunc, h == api.HFunc, h == api.HNoFunc:
		return api.HFunc
	case h == api.HExtern, h == api.HNoExtern:
		return api.HExtern
	case h == api.HExn, h == api.HNoExn:
		return api.HExn
	}
	return api.HAny
}

// Null is pushed of each heap type that there is, and may always be null.
func TestP162Null(t *testing.T) {
	for _, null := range []bool{true, false} {
		for _, h := range heaps() {
			takesAnyway(t, of(opcode.RefNull, ref(null, h)), nil, []api.ValType{ref(true, h)})
		}
		for _, h := range noHeaps() {
			refusesAnyway(t, of(opcode.RefNull, ref(null, h)), nil, api.ErrIndex)
		}
	}
}

// A reference to a function's type, if it may be named; of what is told of others nothing is asked.
func TestP162Func(t *testing.T) {
	for n, f := range context().Funcs {
		i := xy(opcode.RefFunc, uint32(n), 99)
		if n == 0 || n == 3 {
			takesAnyway(t, i, nil, []api.ValType{ref(false, f)})
		} else {
			refusesAnyway(t, i, nil, api.ErrRef)
		}
	}
	for _, n := range indices(noFunc) {
		refusesAnyway(t, x(opcode.RefFunc, n), nil, api.ErrIndex)
	}
	x1 := context()
	x1.Refs = slices.Repeat([]bool{true}, 100)
	takes(t, nested, x1, x(opcode.RefFunc, 4), place(nested).on(vals("(ref 17)")))
	refuses(t, nested, x1, x(opcode.RefFunc, noFunc), api.ErrIndex)
	x1.Refs = nil
	refuses(t, nested, x1, x(opcode.RefFunc, 0), api.ErrRef)
}

// All references, and those of no type, may be asked whether they are null, and be taken for such as are not; numbers may not.
func TestP162AnyReference(t *testing.T) {
	start := place(nested).with(vals("i64"))
	for _, v := range append(refs(), ref(true, 99), ref(false, -13)) {
		took := v
		took.Null = false
		for _, p := range []place{start, start.dead()} {
			takes(t, p.with([]api.ValType{v}), context(), plain(opcode.RefIsNull), p.on(vals("i32")))
			takes(t, p.with([]api.ValType{v}), context(), plain(opcode.RefAsNonNull), p.on([]api.ValType{took}))
		}
	}
	for _, v := range append(vals("i32, i64, f32, f64, i8, i16"), api.ValType{Num: 99}, api.ValType{Num: -1, Null: true}) {
		for _, op := range []int{opcode.RefIsNull, opcode.RefAsNonNull} {
			refuses(t, start.with([]api.ValType{v}), context(), plain(op), api.ErrType)
			refuses(t, start.dead().with([]api.ValType{v}), context(), plain(op), api.ErrType)
		}
	}
	for _, op := range []int{opcode.RefIsNull, opcode.RefAsNonNull} {
		refuses(t, nested, context(), plain(op), api.ErrUnder)
	}
	takesAnyway(t, plain(opcode.RefIsNull), vals("none"), vals("i32"))
	takesAnyway(t, plain(opcode.RefAsNonNull), vals("none"), vals("none"))
}

// References from outside become any references, and the other way round; null stays null, and what is none is not null.
func TestP162Convert(t *testing.T) {
	for op, way := range map[int][2]int{opcode.AnyConvertExtern: {api.HExtern, api.HAny}, opcode.ExternConvertAny: {api.HAny, api.HExtern}} {
		for _, v := range refs() {
			for _, p := range []place{nested, place(nested).dead()} {
				if greatest(v.Heap) == way[0] {
					takes(t, p.with([]api.ValType{v}), context(), plain(op), p.on([]api.ValType{ref(v.Null, way[1])}))
				} else {
					refuses(t, p.with([]api.ValType{v}), context(), plain(op), api.ErrType)
				}
			}
		}
		takesAnyway(t, plain(op), vals("none"), []api.ValType{ref(false, way[1])})
	}
}

// Two references that may be held against each other are such as match eq, null or not.
func TestP162Eq(t *testing.T) {
	for _, v := range refs() {
		in := []api.ValType{v, val("(ref i31)")}
		back := []api.ValType{in[1], v}
		if sub.Heap(context().Types, v.Heap, api.HEq) {
			takes(t, place(nested).with(in), context(), plain(opcode.RefEq), place(nested).on(vals("i32")))
			takes(t, place(nested).with(back), context(), plain(opcode.RefEq), place(nested).on(vals("i32")))
		} else {
			refuses(t, place(nested).with(in), context(), plain(opcode.RefEq), api.ErrType)
			refuses(t, place(nested).with(back), context(), plain(opcode.RefEq), api.ErrType)
		}
	}
}

// Tests and casts, by whether they answer the type that they name.
func casts() map[int]bool {
	return map[int]bool{opcode.RefTest: false, opcode.RefTestNull: false, opcode.RefCast: true, opcode.RefCastNull: true}
}

// A cast to each type, and a test, take each reference of its family, and no other; a cast answers what it names.
func TestP163CastLikeTest(t *testing.T) {
	t.Parallel()
	for _, to := range refs() {
		for op, answers := range casts() {
			out := vals("i32")
			if answers {
				out = []api.ValType{to}
			}
			for h := range map[int]struct{}{api.HAny: {}, api.HFunc: {}, api.HExtern: {}, api.HExn: {}, api.HI31: {}, 4: {}, 12: {}, api.HNone: {}, api.HNoFunc: {}} {
				p := place(fresh).with(vals("i64")).with([]api.ValType{ref(h%2 == 0, h)})
				if greatest(h) == greatest(to.Heap) {
					takes(t, p, context(), of(op, to), append(vals("i64"), out...))
				} else {
					refuses(t, p, context(), of(op, to), api.ErrType)
				}
			}
			takes(t, place(fresh).dead(), context(), of(op, to), out)
			refuses(t, fresh, context(), of(op, to), api.ErrUnder)
		}
	}
}

func TestP162CastUnknown(t *testing.T) {
	for op := range casts() {
		for _, h := range noHeaps() {
			refusesAnyway(t, of(op, ref(true, h)), vals("(ref any)"), api.ErrIndex)
			refusesAnyway(t, of(op, ref(false, h)), vals("(ref any)"), api.ErrIndex)
		}
	}
}

// Fewer types than an instruction has are told ahead of all else that it names; more count for nothing.
func TestP162TypesMany(t *testing.T) {
	for _, op := range []int{opcode.RefNull, opcode.RefTest, opcode.RefTestNull, opcode.RefCast, opcode.RefCastNull, opcode.BrOnCast, opcode.BrOnCastFail} {
		refusesAnyway(t, x(op, toAny), vals("i32, (ref any)"), api.ErrArg)
		refusesAnyway(t, x(op, noLabel), vals("i32, (ref any)"), api.ErrArg)
		refusesAnyway(t, api.Instr{Op: op, Types: []api.ValType{}}, vals("i32, (ref any)"), api.ErrArg)
		if op == opcode.BrOnCast || op == opcode.BrOnCastFail {
			for _, l := range []string{"(ref any)", "(ref 99)"} {
				refusesAnyway(t, api.Instr{Op: op, X: toAny, Types: vals(l)}, vals("i32, (ref any)"), api.ErrArg)
			}
			continue
		}
		more := of(op, vals("(ref i31), (ref 99), i32")...)
		p := place(nested).with(vals("(ref any)"))
		c := p()
		must(t, expect(context(), c, of(op, val("(ref i31)"))))
		takes(t, p, context(), more, c.Operands())
	}
}

// What is no type of references speaks of no type.
func TestP162NoReference(t *testing.T) {
	for _, v := range append(vals("i32, i8, none"), api.ValType{Num: 99}, api.ValType{Num: api.TI32, Null: true, Heap: api.HAny}) {
		for _, op := range []int{opcode.RefNull, opcode.RefTest, opcode.RefCastNull} {
			refusesAnyway(t, of(op, v), vals("(ref any)"), api.ErrIndex)
		}
		for _, l := range [][]api.ValType{{v, v}, {v, val("(ref i31)")}, {val("(ref any)"), v}} {
			refusesAnyway(t, api.Instr{Op: opcode.BrOnCast, X: toAny, Types: l}, vals("i32, (ref any)"), api.ErrIndex)
		}
	}
}

// Of a type of no kind there is no family, so that no cast to it is taken; null of it may be.
func TestP162NoKind(t *testing.T) {
	x1 := api.Ctx{Types: []api.RecType{{Types: []api.SubType{{}}}}}
	for op := range casts() {
		refuses(t, place(nested).dead(), x1, of(op, val("(ref 0)")), api.ErrIndex)
	}
	takes(t, place(nested), x1, of(opcode.RefNull, val("(ref 0)")), place(nested).on(vals("(ref null 0)")))
}

// Branches on casts of each type to each, to each label: as the chapter's words have it.
func TestP162Branches(t *testing.T) {
	t.Parallel()
	some := vals("(ref null any), (ref any), (ref null eq), (ref null i31), (ref i31), (ref struct), (ref null 0), (ref 0), (ref 1), (ref null 1), (ref 14), (ref null 5), (ref none), (ref null none), (ref null extern), (ref noextern), (ref null func)")
	taken := map[int]int{}
	for label := range uint32(noLabel + 1) {
		for _, a := range some {
			for _, b := range some {
				for _, op := range []int{opcode.BrOnCast, opcode.BrOnCastFail} {
					i := api.Instr{Op: op, X: label, Types: []api.ValType{a, b}}
					p := place(nested).with(likely(i))
					c := p()
					if e := expect(context(), c, i); e != api.OK {
						refuses(t, p, context(), i, e)
						continue
					}
					taken[op]++
					takes(t, p, context(), i, c.Operands())
				}
			}
		}
	}
	if taken[opcode.BrOnCast] < 100 || taken[opcode.BrOnCastFail] < 100 {
		t.Errorf("few are taken: %v", taken)
	}
}

// likely are the operands that a branch on a cast takes.
func likely(i api.Instr) []api.ValType {
	l, _ := nested().Label(i.X)
	if len(l) > 0 {
		l = l[:len(l)-1]
	}
	return append(l, i.Types[0])
}

// What is left of a reference is told by the type that is cast to: without null, if that takes it along.
func TestP162Diff(t *testing.T) {
	for _, a := range []bool{true, false} {
		for _, b := range []bool{true, false} {
			from, to := ref(a, api.HEq), ref(b, api.HI31)
			p := place(nested).with(vals("i32")).with([]api.ValType{from})
			for op, out := range map[int]api.ValType{opcode.BrOnCast: ref(a && !b, api.HEq), opcode.BrOnCastFail: to} {
				i := api.Instr{Op: op, X: toAny, Types: []api.ValType{from, to}}
				if b && !a {
					refuses(t, p, context(), i, api.ErrType)
				} else {
					takes(t, p, context(), i, place(nested).on(append(vals("i32"), out)))
				}
			}
		}
	}
	// Into a label that takes no null goes what is left behind null's having been taken out.
	p := place(nested).with(vals("f32, (ref null 0)"))
	takes(t, p, context(), branch(opcode.BrOnCastFail, toHome, "(ref null 0)", "(ref null 1)"), place(nested).on(vals("f32, (ref null 1)")))
	refuses(t, p, context(), branch(opcode.BrOnCastFail, toHome, "(ref null 0)", "(ref 1)"), api.ErrType)
	refuses(t, p, context(), branch(opcode.BrOnCast, toHome, "(ref null 0)", "(ref null 1)"), api.ErrType)
}

// The operands ahead of the reference are held against the label's types, from the last one on, and become these.
func TestP162BranchAhead(t *testing.T) {
	i := branch(opcode.BrOnCast, toAny, "(ref null any)", "(ref null eq)")
	takes(t, place(nested).with(vals("none, (ref i31)")), context(), i, place(nested).on(vals("i32, (ref any)")))
	refuses(t, place(nested).with(vals("(ref i31)")), context(), i, api.ErrUnder)
	refuses(t, place(nested).with(vals("i64, (ref i31)")), context(), i, api.ErrType)
	refuses(t, place(nested).with(vals("(ref i31), i32")), context(), i, api.ErrType)
	i = branch(opcode.BrOnCastFail, toStruct, "(ref null 0)", "(ref 1)")
	refuses(t, place(nested).with(vals("i64, i64, (ref 0)")), context(), i, api.ErrType)
	refuses(t, place(nested).with(vals("f32, f32, (ref 0)")), context(), i, api.ErrType)
	refuses(t, place(nested).with(vals("f32, (ref 0)")), context(), i, api.ErrUnder)
	dead := place(nested).dead()
	takes(t, dead, context(), i, dead.on(vals("i64, f32, (ref 1)")))
	takes(t, dead.with(vals("f32, none")), context(), i, dead.on(vals("i64, f32, (ref 1)")))
	refuses(t, dead.with(vals("i32, (ref 1)")), context(), i, api.ErrType)
}
