package vref_test

import (
	"math"
	"slices"
	"testing"

	"ratchet/api"
	"ratchet/instr"
	"ratchet/opcode"
	"ratchet/stack"
	"ratchet/vnum"
	"ratchet/vref"
)

// ops are the opcodes of the chapter's table.
func ops() []int { return append([]int{0xd0, 0xd1, 0xd2, 0xd3, 0xd4}, span(0xfb00, 0xfb1e)...) }

func TestP161Ops(t *testing.T) {
	got := vref.Ops()
	if !slices.Equal(got, ops()) {
		t.Errorf("Ops: %x", got)
	}
	for n := range got {
		got[n] = -1
	}
	if got = vref.Ops(); !slices.Equal(got, ops()) {
		t.Errorf("Ops behind a change of what was answered: %x", got)
	}
}

// numbers are all opcodes, and such as there aren't.
func numbers() []int {
	out := append(span(-0x100, 0x200), math.MinInt, -0xfb00, 0x100d0, 0xfa00, 0xfaff, 0xfc00, 0xfd00, 0xfd0c, 1<<32, 1<<32+0xd0, 1<<32+0xfb00, math.MaxInt)
	return slices.Concat(out, span(0xfb00, 0xfb40), span(0xfc00, 0xfc20), instr.Ops())
}

// An opcode that is none of these is told whatever its fields and the operands are.
func TestP162NoOp(t *testing.T) {
	t.Parallel()
	for _, op := range numbers() {
		if slices.Contains(ops(), op) {
			continue
		}
		for _, i := range []api.Instr{plain(op), {Op: op, X: 99, Y: 99, N: 1 << 63, Types: vals("(ref 99)")}} {
			refuses(t, place(nested).with(vals("(ref null any), i32, i32")), context(), i, api.ErrNone)
			refuses(t, place(nested).dead(), context(), i, api.ErrNone)
		}
	}
}

// Of types that are not closed, or are none, what is answered is free, but an answer comes, and a refusal changes nothing.
func TestNotClosed(t *testing.T) {
	odd := []api.Field{{Type: api.ValType{Num: 99}}, {}, {Type: ref(false, math.MinInt), Mut: true}}
	for _, l := range [][]api.RecType{
		read("(struct (field (ref 99)) (field (mut (ref rec.0))))", "(array (mut (ref 5)))"), read("(array (ref rec.7))", "(rec)"),
		{{Types: []api.SubType{{Comp: api.CompType{Kind: api.CStruct, Fields: odd}}, {Comp: api.CompType{Kind: api.CArray, Fields: odd[2:]}}}}},
		{{Types: []api.SubType{{Comp: api.CompType{Kind: 99, Fields: odd}}, {Comp: api.CompType{Kind: api.CArray}}, {Supers: []int{1, 7}}}}},
	} {
		x := api.Ctx{Types: l, Funcs: []int{0, -1, math.MaxInt}, Elems: vals("(ref 0), i32"), Datas: 1, Refs: []bool{true, true, true}}
		p := place(func() *stack.Checker {
			c := stack.New(l, nil, nil, vals("i32"))
			c.Enter(opcode.If, nil, vals("i32, (ref 99)"))
			return c
		})
		for _, at := range []place{p, p.dead(), p.dead().with(vals("i32, none, none, i32")), p.with(vals("i32, (ref 99)")), p.with(vals("(ref null 0), i32, i32, i32"))} {
			for _, op := range ops() {
				for _, i := range []api.Instr{plain(op), of(op, vals("(ref 0), (ref 1)")...), {Op: op, X: 1, Y: 1, N: 2, Types: []api.ValType{ref(true, 2), ref(false, math.MinInt)}}, of(op, api.ValType{}, api.ValType{})} {
					if e := vref.Step(x, at(), i); e != api.OK {
						refuses(t, at, x, i, e)
					}
				}
			}
		}
	}
}

// A context of nothing has nothing that could be named; labels are those of the checker.
func TestP162NoContext(t *testing.T) {
	start := place(nested).with(vals("(ref null any), i32, i32, i32"))
	for _, op := range ops() {
		i := api.Instr{Op: op, Types: vals("(ref 0), (ref 0)")}
		if f := instr.Form(op); f == "-" {
			continue
		} else if f == "br_cast" {
			i.X = toAny
		}
		refuses(t, start, api.Ctx{}, i, api.ErrIndex)
		refuses(t, start.dead(), api.Ctx{}, i, api.ErrIndex)
	}
	takes(t, nested, api.Ctx{}, cast(opcode.RefNull, "(ref null any)"), place(nested).on(vals("(ref null any)")))
	p := place(nested).with(vals("(ref null any)"))
	takes(t, p, api.Ctx{}, cast(opcode.RefCast, "(ref i31)"), place(nested).on(vals("(ref i31)")))
	p = place(nested).with(vals("i32, (ref any)"))
	takes(t, p, api.Ctx{}, branch(opcode.BrOnCast, toAny, "(ref null any)", "(ref null eq)"), place(nested).on(vals("i32, (ref any)")))
}

// What the chapter lets stand in a constant expression.
func constants() []int {
	return []int{0x41, 0x42, 0x43, 0x44, 0x6a, 0x6b, 0x6c, 0x7c, 0x7d, 0x7e, 0xd0, 0xd2, 0xfb00, 0xfb01, 0xfb06, 0xfb07, 0xfb08, 0xfb1a, 0xfb1b, 0xfb1c}
}

// isConst says what Const answers.
func isConst(t *testing.T, x api.Ctx, l []api.Instr, globals, want int, e api.Errno) {
	t.Helper()
	if at, got := vref.Const(x, l, globals); at != want || got != e {
		t.Errorf("Const(%v, %d): %d, %d, not %d, %d", l, globals, at, got, want, e)
	}
}

// All opcodes, those beside each other too; nothing but global.get is asked for its fields, whatever the context is.
func TestP161ConstOps(t *testing.T) {
	for _, op := range numbers() {
		if op == opcode.GlobalGet {
			continue
		}
		want := api.ErrConst
		if slices.Contains(constants(), op) {
			want = api.OK
		}
		for _, i := range []api.Instr{plain(op), {Op: op, X: math.MaxUint32, Y: 99, N: 1 << 63, Types: vals("(ref 99)"), Body: []api.Instr{{Op: 77}}}} {
			for _, x := range []api.Ctx{context(), {}} {
				isConst(t, x, []api.Instr{i}, 7, 0, want)
				isConst(t, x, []api.Instr{i}, 0, 0, want)
			}
		}
	}
}

// The place is that of the first that may not, whatever comes behind it.
func TestP161ConstPlace(t *testing.T) {
	good := []api.Instr{}
	for _, op := range constants() {
		good = append(good, plain(op))
	}
	good = append(good, x(opcode.GlobalGet, 2))
	isConst(t, context(), good, 7, 0, api.OK)
	isConst(t, context(), nil, 7, 0, api.OK)
	isConst(t, context(), []api.Instr{}, 0, 0, api.OK)
	isConst(t, api.Ctx{}, nil, -1, 0, api.OK)
	bad := []struct {
		i api.Instr
		e api.Errno
	}{{plain(opcode.I32DivS), api.ErrConst}, {x(opcode.GlobalGet, 9), api.ErrIndex}, {x(opcode.GlobalGet, 1), api.ErrMutable}, {plain(opcode.End), api.ErrConst}}
	for n := range len(good) + 1 {
		for _, b := range bad {
			isConst(t, context(), slices.Insert(slices.Clone(good), n, b.i), 7, n, b.e)
			for _, c := range bad {
				isConst(t, context(), slices.Concat(good[:n], []api.Instr{b.i}, good[n:], []api.Instr{c.i}), 7, n, b.e)
			}
		}
	}
}

// A global must be below the bound, must be there, and may not be set; in this order.
func TestP161ConstGlobals(t *testing.T) {
	x1 := context()
	all := append(indices(len(x1.Globals)), 0, 1, 2, 3, 4, 5, 6, math.MaxInt32-1)
	for _, bound := range []int{math.MinInt, -1, 0, 1, 2, 3, 4, 5, 6, 7, 8, 1000, math.MaxInt32, math.MaxUint32, math.MaxUint32 + 1, math.MaxInt} {
		for _, n := range all {
			want := api.OK
			switch {
			case int64(n) >= int64(bound), uint64(n) >= uint64(len(x1.Globals)):
				want = api.ErrIndex
			case n == 1 || n == 3 || n == 6:
				want = api.ErrMutable
			}
			isConst(t, x1, []api.Instr{x(opcode.GlobalGet, n)}, bound, 0, want)
			isConst(t, x1, []api.Instr{plain(opcode.I32Const), x(opcode.GlobalGet, n)}, bound, min(1, int(want)), want)
			isConst(t, api.Ctx{}, []api.Instr{x(opcode.GlobalGet, n)}, bound, 0, api.ErrIndex)
		}
	}
}

// What Const takes, Step or vnum.Step know.
func TestP163ConstKnown(t *testing.T) {
	for _, op := range instr.Ops() {
		i := []api.Instr{x(op, 0)}
		if _, e := vref.Const(context(), i, 7); e != api.OK {
			continue
		}
		if a, b := vref.Step(context(), nested(), i[0]), vnum.Step(context(), nested(), i[0]); (a == api.ErrNone) == (b == api.ErrNone) {
			t.Errorf("%s: Step %d, vnum.Step %d", instr.Name(op), a, b)
		}
	}
}

// What is handed in to Const is not changed.
func TestP161ConstHandedIn(t *testing.T) {
	x1, l := context(), []api.Instr{x(opcode.GlobalGet, 0), x(opcode.GlobalGet, 9), cast(opcode.RefNull, "(ref null any)")}
	before := told(x1, l)
	isConst(t, x1, l, 7, 1, api.ErrIndex)
	if told(x1, l) != before {
		t.Error("changed")
	}
}
