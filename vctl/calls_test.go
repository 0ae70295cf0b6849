package vctl_test

import (
	"math"
	"slices"
	"testing"

	"ratchet/api"
	"ratchet/instr"
	"ratchet/opcode"
	"ratchet/stack"
	"ratchet/types"
	"ratchet/vctl"
)

// checkTypes says what two lists of types and an error are.
func checkTypes(t *testing.T, name string, in, out []api.ValType, e api.Errno, wantIn, wantOut string, want api.Errno) {
	t.Helper()
	if told(in) != told(vals(wantIn)) || told(out) != told(vals(wantOut)) || e != want {
		t.Errorf("%s: %v, %v, %d, not (%s), (%s), %d", name, in, out, e, wantIn, wantOut, want)
	}
}

func TestVC1FuncType(t *testing.T) {
	for n, want := range map[int][2]string{
		0: {"", ""}, 1: {"i32", ""}, 2: {"", "i32"}, 3: {"i32, i64", "f32, f64"}, 7: {"(ref 5), i64", "i32, (ref null 4)"}, 9: {"(ref null 4)", "(ref 5)"}, 19: {"", "f32, (ref null 4), i32"},
	} {
		in, out, e := vctl.FuncType(context(), n)
		checkTypes(t, told("FuncType", n), in, out, e, want[0], want[1], api.OK)
	}
	for _, n := range []int{aStruct, 5, anArray} {
		in, out, e := vctl.FuncType(context(), n)
		checkTypes(t, told("FuncType", n), in, out, e, "", "", api.ErrKind)
	}
	for _, n := range []int{noType, noType + 1, 1000, math.MaxInt32, math.MaxUint32, math.MaxInt, -1, -2, -4, -100, -101, math.MinInt32, math.MinInt} {
		in, out, e := vctl.FuncType(context(), n)
		checkTypes(t, told("FuncType", n), in, out, e, "", "", api.ErrIndex)
	}
	in, out, e := vctl.FuncType(api.Ctx{}, 0)
	checkTypes(t, "FuncType of no types", in, out, e, "", "", api.ErrIndex)
}

// Types are numbered through all groups; a kind that is none is another kind, too.
func TestVC1FuncTypeGroups(t *testing.T) {
	x := api.Ctx{Types: read("(rec (func (param i32)) (struct (field i32)))", "(rec)", "(rec (array i32) (func (result i64)) (func (param f32 f64)))")}
	for n, want := range map[int][2]string{0: {"i32", ""}, 3: {"", "i64"}, 4: {"f32, f64", ""}} {
		in, out, e := vctl.FuncType(x, n)
		checkTypes(t, told("FuncType", n), in, out, e, want[0], want[1], api.OK)
	}
	for n, want := range map[int]api.Errno{1: api.ErrKind, 2: api.ErrKind, 5: api.ErrIndex, -1: api.ErrIndex} {
		in, out, e := vctl.FuncType(x, n)
		checkTypes(t, told("FuncType", n), in, out, e, "", "", want)
	}
	for _, kind := range []int{0, -1, 4, 99} {
		c := api.CompType{Kind: kind, Params: vals("i32"), Results: vals("i64")}
		in, out, e := vctl.FuncType(api.Ctx{Types: []api.RecType{{Types: []api.SubType{{Comp: c}}}}}, 0)
		checkTypes(t, told("FuncType of the kind", kind), in, out, e, "", "", api.ErrKind)
	}
}

func TestVC1BlockTypeByNumber(t *testing.T) {
	for _, more := range []string{"none", "i32", "(ref 99)"} {
		b := result(more)
		for n, want := range map[int][2]string{0: {"", ""}, 3: {"i32, i64", "f32, f64"}, 12: {"f64, (ref null 5)", "f32, (ref 5)"}} {
			b.Type = n
			in, out, e := vctl.BlockType(context(), b)
			checkTypes(t, told("BlockType", b), in, out, e, want[0], want[1], api.OK)
		}
		for n, want := range map[int]api.Errno{aStruct: api.ErrKind, anArray: api.ErrKind, noType: api.ErrIndex, math.MaxInt32: api.ErrIndex, math.MaxInt: api.ErrIndex} {
			b.Type = n
			in, out, e := vctl.BlockType(context(), b)
			checkTypes(t, told("BlockType", b), in, out, e, "", "", want)
		}
	}
	in, out, e := vctl.BlockType(api.Ctx{}, api.Block{})
	checkTypes(t, "BlockType of no types", in, out, e, "", "", api.ErrIndex)
}

// Below 0 a Type is no number: then the Result counts alone.
func TestVC1BlockTypeByResult(t *testing.T) {
	for _, n := range []int{-1, -2, -100, math.MinInt} {
		for _, r := range []string{"i32", "i64", "f32", "f64", "i8", "i16", "(ref null func)", "(ref any)", "(ref 0)", "(ref null 4)", "(ref 19)", "(ref noexn)"} {
			in, out, e := vctl.BlockType(context(), api.Block{Type: n, Result: val(r)})
			checkTypes(t, told("BlockType of", r), in, out, e, "", r, api.OK)
		}
		in, out, e := vctl.BlockType(context(), api.Block{Type: n})
		checkTypes(t, "BlockType of none", in, out, e, "", "", api.OK)
		in, out, e = vctl.BlockType(context(), api.Block{Type: n, Result: api.ValType{Null: true, Heap: 99}})
		checkTypes(t, "BlockType of none, and more beside it", in, out, e, "", "", api.OK)
		for h := api.HNoExn; h < noType; h++ {
			_, out, e := vctl.BlockType(context(), api.Block{Type: n, Result: api.ValType{Num: api.TRef, Heap: h}})
			if e != api.OK || len(out) != 1 || out[0].Heap != h {
				t.Errorf("BlockType of a reference to %d: %v, %d", h, out, e)
			}
		}
		for _, h := range []int{noType, noType + 1, math.MaxInt32, math.MaxInt, api.HNoExn - 1, -100, -101, math.MinInt} {
			in, out, e := vctl.BlockType(context(), api.Block{Type: n, Result: api.ValType{Num: api.TRef, Null: true, Heap: h}})
			checkTypes(t, told("BlockType of a reference to", h), in, out, e, "", "", api.ErrIndex)
		}
	}
}

// What stands beside a number speaks of nothing.
func TestVC1BlockTypeNumber(t *testing.T) {
	_, out, e := vctl.BlockType(api.Ctx{}, api.Block{Type: -1, Result: api.ValType{Num: api.TI64, Null: true, Heap: 99}})
	if e != api.OK || len(out) != 1 || !types.Same(out[0], val("i64")) {
		t.Errorf("%v, %d", out, e)
	}
}

// Answers are lists of their own: who changes them changes nothing else.
func TestVC1OwnLists(t *testing.T) {
	x := context()
	for range 2 {
		in, out, _ := vctl.FuncType(x, 3)
		checkTypes(t, "FuncType again", in, out, api.OK, "i32, i64", "f32, f64", api.OK)
		in[0], in[1], out[0], out[1] = val("i8"), val("i8"), val("i16"), val("i16")
		in, out, _ = vctl.BlockType(x, typed(3))
		checkTypes(t, "BlockType again", in, out, api.OK, "i32, i64", "f32, f64", api.OK)
		in[0], out[0] = val("i8"), val("i16")
	}
	if told(x) != told(context()) {
		t.Error("the context has changed")
	}
}

// ops are the opcodes of the chapter's table.
func ops() []int {
	return []int{0, 1, 8, 0xa, 0xc, 0xd, 0xe, 0xf, 0x10, 0x11, 0x12, 0x13, 0x14, 0x15, 0xd5, 0xd6}
}

func TestVC1Ops(t *testing.T) {
	got := vctl.Ops()
	if !slices.Equal(got, ops()) {
		t.Errorf("Ops: %x", got)
	}
	for n := range got {
		got[n] = -1
	}
	if got = vctl.Ops(); !slices.Equal(got, ops()) {
		t.Errorf("Ops behind a change of what was answered: %x", got)
	}
}

// span are the numbers from one to another.
func span(first, last int) []int {
	var out []int
	for n := first; n <= last; n++ {
		out = append(out, n)
	}
	return out
}

// others are opcodes of other chapters, and such as there aren't.
func others() []int {
	out := append(span(0, 0x10f), math.MinInt, -0xfc00, -0xc, -1, 0x1000c, 0xfa00, 0xfd00, 0xfd0c, 1<<32, 1<<32+0xc, 1<<32+2, math.MaxInt)
	return slices.Concat(out, span(0xfb00, 0xfb20), span(0xfc00, 0xfc20), instr.Ops())
}

// An opcode that is none of these is told whatever its fields and the operands are.
func TestVC2NoOp(t *testing.T) {
	for _, op := range others() {
		if slices.Contains(ops(), op) {
			continue
		}
		for _, i := range []api.Instr{{Op: op}, {Op: op, X: 99, Y: 99, Labels: []uint32{99}, Block: api.Block{Type: 99}, Catches: []api.Catch{{Kind: 99}}}} {
			refuses(t, place(nested).with(vals("i32, i32, i32")), context(), stepping(i), api.ErrNone)
			refuses(t, place(nested).dead(), context(), stepping(i), api.ErrNone)
		}
	}
}

func TestVC3NoOp(t *testing.T) {
	for _, op := range others() {
		if slices.Contains([]int{opcode.Block, opcode.Loop, opcode.If, opcode.TryTable}, op) {
			continue
		}
		for _, i := range []api.Instr{{Op: op}, {Op: op, Block: api.Block{Type: 99}, Catches: []api.Catch{{Kind: 99}}}} {
			refuses(t, place(nested).with(vals("i32, i32, i32")), context(), opening(i), api.ErrNone)
			refuses(t, place(nested).dead(), context(), opening(i), api.ErrNone)
		}
	}
}

// Of types that are not closed, or are none, what is answered is free, but an answer comes, and a refusal changes nothing.
func TestNotClosed(t *testing.T) {
	for _, l := range [][]api.RecType{
		read("(func (param (ref 99)) (result (ref 1)))"), read("(func (param (ref rec.7)))", "(rec)"),
		{{Types: []api.SubType{{Comp: api.CompType{Kind: api.CFunc, Params: []api.ValType{{Num: 99}, {}}, Results: []api.ValType{{Num: api.TRef, Heap: math.MinInt}}}}}}},
	} {
		x := api.Ctx{Types: l, Funcs: []int{0}, Tags: []int{0}, Tables: []api.TableType{{Elem: val("(ref 0)")}}}
		p := place(func() *stack.Checker {
			c := stack.New(l, nil, nil, vals("i32"))
			c.Enter(opcode.If, nil, vals("i32, (ref 99)"))
			return c
		})
		var all []act
		for _, op := range ops() {
			all = append(all, a(api.Instr{Op: op}), a(api.Instr{Op: op, X: 1}))
		}
		for _, op := range blockOps() {
			all = append(all, a(block(op, 0)), a(one(op, "(ref 0)")), a(api.Instr{Op: op, Block: result("none"), Catches: []api.Catch{clause(1, 0, 1)}}))
		}
		for _, at := range []place{p, p.dead(), p.dead().with(vals("i32, none, none, i32")), p.with(vals("i32, (ref 99)"))} {
			for _, one := range append(all, turn(), closing()) {
				if e := one.do(x, at()); e != api.OK {
					refuses(t, at, x, one, e)
				}
			}
		}
	}
}

// A context of nothing has nothing that could be named; labels are those of the checker.
func TestVC2NoContext(t *testing.T) {
	start := place(nested).with(vals("i32, i32, i32"))
	for _, i := range []api.Instr{x(opcode.Throw, 0), x(opcode.Call, 0), x(opcode.CallRef, 0), xy(opcode.CallIndirect, 0, 0), x(opcode.ReturnCall, 0), x(opcode.ReturnCallRef, 0), xy(opcode.ReturnCallIndirect, 0, 0), block(opcode.Block, 0), block(opcode.If, 0), try(result("none"), clause(0, 0, 0))} {
		refuses(t, start, api.Ctx{}, a(i), api.ErrIndex)
	}
	takes(t, start, api.Ctx{}, x(opcode.BrIf, toI32), start().Operands()[:start().Height()-1], false)
	takes(t, start, api.Ctx{}, x(opcode.Br, toI32), place(nested).below(), true)
	// A table's elements are held against functions ahead of the type's being asked for.
	refuses(t, start, api.Ctx{Tables: []api.TableType{{Elem: val("(ref extern)")}}}, a(xy(opcode.CallIndirect, 0, 0)), api.ErrType)
	refuses(t, start, api.Ctx{Tables: []api.TableType{{Elem: val("(ref func)")}}}, a(xy(opcode.CallIndirect, 0, 0)), api.ErrIndex)
}
