package vmod_test

import (
	"math"
	"slices"
	"testing"

	"ratchet/api"
	"ratchet/instr"
	"ratchet/opcode"
	"ratchet/vmod"
)

// context is that of the whole module.
func context() api.Ctx { return vmod.Context(whole()) }

// of is a function of one of the whole module's types.
func of(n int, l ...api.Instr) api.Func { return api.Func{Type: n, Body: l} }

// The number is that of the instruction as they begin, those in blocks too; where a part ends it is that of what comes next, or how many there are.
func TestVM2Numbers(t *testing.T) {
	inner := block(opcode.Block, "", nop, nop)
	for _, c := range []struct {
		name string
		f    api.Func
		want int
		e    api.Errno
	}{
		{"nothing", of(nothing), 0, api.OK},
		{"no result", of(toI32), 0, api.ErrUnder},
		{"a result", of(toI32, i32(7)), 0, api.OK},
		{"another result", of(toI32, i64(7)), 1, api.ErrType},
		{"two results", of(toI32, i32(7), i32(7)), 2, api.ErrLeft},
		{"a result too many", of(nothing, i32(7)), 1, api.ErrLeft},
		{"a param is no operand", of(ofI32), 0, api.OK},
		{"a param", of(ofI32, x(opcode.LocalGet, 0), drop), 0, api.OK},
		{"two params", of(ofBoth, x(opcode.LocalGet, 1), drop, x(opcode.LocalGet, 2)), 2, api.ErrIndex},
		{"the first", of(nothing, drop, drop), 0, api.ErrUnder},
		{"the second", of(nothing, nop, drop, drop), 1, api.ErrUnder},
		{"behind a block", of(nothing, inner, drop), 3, api.ErrUnder},
		{"in a block", of(nothing, inner, block(opcode.Loop, "", nop, drop)), 5, api.ErrUnder},
		{"in a block in a block", of(nothing, block(opcode.TryTable, "", inner, block(opcode.Loop, "", nop, drop))), 6, api.ErrUnder},
		{"a block's beginning", of(nothing, inner, block(opcode.If, "", drop)), 3, api.ErrUnder},
		{"a block's type", of(nothing, nop, block(opcode.Block, "#4")), 1, api.ErrKind},
		{"a block's type that there isn't", of(nothing, block(opcode.Block, "#9", drop)), 0, api.ErrIndex},
		{"a block's end ahead of another", of(nothing, block(opcode.Block, "i32", nop), drop), 2, api.ErrUnder},
		{"a block's end at the end", of(nothing, block(opcode.Block, "i32", nop)), 2, api.ErrUnder},
		{"an empty block's end", of(nothing, nop, block(opcode.Block, "i32"), drop), 2, api.ErrUnder},
		{"an empty block's end at the end", of(nothing, nop, block(opcode.Block, "i32")), 2, api.ErrUnder},
		{"an end behind an end", of(nothing, block(opcode.Block, "i32", block(opcode.Block, "", nop)), drop), 3, api.ErrUnder},
		{"an end with more", of(nothing, block(opcode.Block, "", block(opcode.Block, "", i32(1)), nop), drop), 3, api.ErrLeft},
		{"what an end leaves", of(nothing, block(opcode.Block, "i64", i64(1)), add), 2, api.ErrType},
		{"a first part's end", of(nothing, i32(1), choice("i32", nil, list(i32(1))), drop), 2, api.ErrUnder},
		{"a first part's end that has one", of(nothing, i32(1), choice("", list(nop, i32(1)), list(nop)), drop), 4, api.ErrLeft},
		{"a second part's beginning", of(nothing, i32(1), choice("", list(nop), list(drop)), drop), 3, api.ErrUnder},
		{"a second part's end", of(nothing, i32(1), choice("i64", list(i64(1)), list(nop, i32(1))), drop), 5, api.ErrType},
		{"an empty second part", of(nothing, i32(1), choice("i32", list(i32(1)), nil), nop, drop), 3, api.ErrUnder},
		{"an empty second part at the end", of(nothing, i32(1), choice("i32", list(i32(1)), nil)), 3, api.ErrUnder},
		{"two empty parts", of(nothing, i32(1), choice("i32", nil, nil), nop, drop), 2, api.ErrUnder},
		{"an if without a second part", of(nothing, i32(1), block(opcode.If, "i32", i32(1)), drop), 3, api.ErrArity},
		{"an if whose second part is nothing", of(nothing, i32(1), choice("", list(nop), nil)), 0, api.OK},
		{"what both parts leave", of(nothing, i32(1), choice("i32", list(i32(1)), list(i32(2))), i64(1), add), 5, api.ErrType},
		{"parts with params", of(nothing, i32(1), i32(1), choice("#2", list(drop), list(drop, drop)), nop), 5, api.ErrUnder},
		{"parts with params, both", of(nothing, i32(1), i32(1), choice("#2", list(drop), list(nop, drop)), nop), 0, api.OK},
		{"an if with params only", of(nothing, i32(1), i32(1), block(opcode.If, "#2", drop)), 4, api.ErrArity},
		{"the body's end behind blocks", of(toI32, inner, inner), 6, api.ErrUnder},
		{"nested choices", of(nothing, i32(1), choice("", list(i32(0), choice("", list(nop), list(nop, nop))), list(nop, drop)), nop), 8, api.ErrUnder},
	} {
		t.Run(c.name, func(t *testing.T) { isBody(t, context(), c.f, c.want, c.e) })
	}
}

// Labels lead to the blocks around, the body's too.
func TestVM2Labels(t *testing.T) {
	isBody(t, context(), of(toI32, block(opcode.Block, "", i32(1), x(opcode.Br, 1)), unreachable), 0, api.OK)
	isBody(t, context(), of(toI32, block(opcode.Block, "", i32(1), x(opcode.Br, 2)), unreachable), 2, api.ErrBlock)
	isBody(t, context(), of(nothing, block(opcode.Loop, "", block(opcode.Block, "i32", x(opcode.Br, 1)), drop)), 0, api.OK)
	isBody(t, context(), of(nothing, i32(0), choice("i32", list(i32(1), x(opcode.Br, 0)), list(x(opcode.Br, 0))), drop), 4, api.ErrUnder)
	try := func(label uint32, body ...api.Instr) []api.Instr {
		i := block(opcode.TryTable, "", body...)
		i.Catches = []api.Catch{{Kind: 0, Tag: 0, Label: label}}
		return list(block(opcode.Block, "i32", block(opcode.Block, "", nop, i), i32(0)), drop)
	}
	isBody(t, context(), of(nothing, try(1, i32(1), x(opcode.Throw, 0))...), 0, api.OK)
	isBody(t, context(), of(nothing, try(1, nop, x(opcode.Throw, 0))...), 5, api.ErrUnder)
	isBody(t, context(), of(nothing, try(0, i32(1), x(opcode.Throw, 0))...), 3, api.ErrType)
	isBody(t, context(), of(nothing, try(3, drop)...), 3, api.ErrBlock)
}

// A type that is no function's is told with 0, whatever the body is.
func TestVM2Type(t *testing.T) {
	bad := []api.Local{{Count: 1, Type: val("i8")}, {Count: math.MaxUint32}}
	for _, l := range [][]api.Instr{nil, list(nop), list(drop), list(plain(-1))} {
		for _, n := range noTypes(noType) {
			isBody(t, context(), api.Func{Type: n, Body: l}, 0, api.ErrIndex)
			isBody(t, context(), api.Func{Type: n, Body: l, Locals: bad}, 0, api.ErrIndex)
		}
		for _, n := range []int{aStruct, below, anArray, self} {
			isBody(t, context(), api.Func{Type: n, Body: l}, 0, api.ErrKind)
			isBody(t, context(), api.Func{Type: n, Body: l, Locals: bad}, 0, api.ErrKind)
		}
		isBody(t, api.Ctx{}, api.Func{Body: l}, 0, api.ErrIndex)
	}
}

// with is a function that takes an i32, with runs of locals, and looks at the type of one of them.
func with(n uint32, l ...api.Local) api.Func {
	return api.Func{Type: ofI32, Locals: l, Body: list(x(opcode.LocalGet, n), drop, nop, x(opcode.LocalSet, n))}
}

func run(n uint32, text string) api.Local { return api.Local{Count: n, Type: val(text)} }

// Params stand ahead of locals; those that have a first value are set.
func TestVM2Locals(t *testing.T) {
	isBody(t, context(), with(1), 0, api.ErrIndex)
	isBody(t, context(), with(0, run(1, "f32")), 3, api.ErrUnder)
	l := []api.Local{run(2, "i64"), run(0, "f32"), run(1, "(ref null 4)"), run(1, "(ref 4)")}
	for n := range uint32(4) {
		isBody(t, context(), with(n, l...), 3, api.ErrUnder)
	}
	isBody(t, context(), with(4, l...), 0, api.ErrUnset)
	isBody(t, context(), with(5, l...), 0, api.ErrIndex)
	for n, e := range []api.Errno{api.OK, api.ErrType, api.ErrType, api.ErrType} {
		f := api.Func{Type: ofI32, Locals: l, Body: list(i32(1), x(opcode.LocalSet, uint32(n)))}
		isBody(t, context(), f, min(int(e), 1), e)
	}
	f := api.Func{Type: nothing, Locals: l, Body: list(x(opcode.StructNewDefault, below), x(opcode.LocalSet, 3), x(opcode.LocalGet, 3), x(opcode.LocalSet, 2))}
	isBody(t, context(), f, 0, api.OK)
	isBody(t, context(), with(api.MaxLocals, run(api.MaxLocals-1, "i32"), run(1, "i64")), 3, api.ErrUnder)
}

// A type that can't be is told ahead of one that speaks of a type that there isn't, of which run they ever are; both ahead of more locals than there may be. Of a run of none nothing is asked.
func TestVM2LocalsWrong(t *testing.T) {
	good := run(1, "i32")
	for _, v := range noKinds() {
		bad := api.Local{Count: 1, Type: v}
		for _, l := range [][]api.Local{{bad}, {good, bad}, {bad, good}, {{Count: 1, Type: ref(true, noType)}, bad}, {bad, {Count: 1, Type: ref(true, noType)}}, {run(api.MaxLocals, "i32"), bad}, {{Count: math.MaxUint32, Type: v}}} {
			isBody(t, context(), api.Func{Locals: l}, 0, api.ErrForm)
			isBody(t, context(), api.Func{Locals: l, Body: list(drop)}, 0, api.ErrForm)
		}
		isBody(t, context(), api.Func{Locals: []api.Local{good, {Type: v}}}, 0, api.OK)
	}
	for _, v := range noHeaps(noType) {
		bad := api.Local{Count: 2, Type: v}
		for _, l := range [][]api.Local{{bad}, {good, bad, good}, {run(api.MaxLocals, "i32"), bad}, {{Count: math.MaxUint32, Type: v}}} {
			isBody(t, context(), api.Func{Locals: l}, 0, api.ErrIndex)
			isBody(t, context(), api.Func{Locals: l, Body: list(nop, drop)}, 0, api.ErrIndex)
		}
		isBody(t, context(), api.Func{Locals: []api.Local{{Type: v}, good}}, 0, api.OK)
	}
	for _, l := range [][]api.Local{{run(api.MaxLocals+1, "i32")}, {run(api.MaxLocals, "i32"), good}, {run(math.MaxUint32, "i64"), run(math.MaxUint32, "i64")}, slices.Repeat([]api.Local{run(math.MaxUint32, "f32")}, 100)} {
		isBody(t, context(), api.Func{Locals: l}, 0, api.ErrLong)
	}
	isBody(t, context(), api.Func{Locals: slices.Repeat([]api.Local{run(0, "f32")}, 2*api.MaxLocals)}, 0, api.OK)
	// What stands beside a number counts for nothing.
	isBody(t, context(), api.Func{Locals: []api.Local{{Count: 1, Type: api.ValType{Num: api.TF64, Null: true, Heap: 99}}}}, 0, api.OK)
}

// A Body, an Else, HasElse where none may be are told ahead of all else of the instruction, reached and not.
func TestVM2Misfits(t *testing.T) {
	some := list(nop)
	for _, op := range append(instr.Ops(), -1, 0x06, 0x7777, math.MaxInt) {
		for n := 1; n < 8; n++ {
			i := api.Instr{Op: op, X: 99, Y: 99, Mem: api.MemArg{Mem: 99}, Block: api.Block{Type: 99}, Labels: []uint32{99}, HasElse: n&4 != 0}
			if n&1 != 0 {
				i.Body = some
			}
			if n&2 != 0 {
				i.Else = some
			}
			switch {
			case op == opcode.If && n != 2 && n != 3:
				isBody(t, context(), of(nothing, nop, i), 1, api.ErrIndex)
			case n == 1 && (op == opcode.Block || op == opcode.Loop || op == opcode.TryTable):
				isBody(t, context(), of(nothing, nop, i), 1, api.ErrIndex)
			default:
				isBody(t, context(), of(nothing, i, drop), 0, api.ErrForm)
				isBody(t, context(), of(nothing, nop, i, drop), 1, api.ErrForm)
				isBody(t, context(), of(nothing, block(opcode.Block, "", unreachable, i)), 2, api.ErrForm)
				isBody(t, context(), of(nothing, drop, i), 0, api.ErrUnder)
			}
		}
	}
	// Those that fit are asked for what is in them.
	i := nop
	i.Body = some
	isBody(t, context(), of(nothing, i32(1), choice("", list(nop), list(nop, i)), nop), 4, api.ErrForm)
	i = block(opcode.Block, "")
	i.Else = []api.Instr{}
	isBody(t, context(), of(nothing, i), 0, api.OK)
}

func TestVM2NoOpcode(t *testing.T) {
	for _, op := range []int{opcode.Else, opcode.End, 0x06, 0x07, 0x09, 0x16, 0x18, 0x19, 0x1d, 0x1e, 0x27, 0xc5, 0xcf, 0xd7, 0xfb, 0xfc, 0xfd, 0xff, 0x100, 0xfb1f, 0xfc12, 0xfd00, 0xfd0c, -1, -0xfb00, 0x7777, 1 << 32, math.MinInt, math.MaxInt} {
		isBody(t, context(), of(nothing, plain(op)), 0, api.ErrForm)
		isBody(t, context(), of(nothing, nop, block(opcode.Block, "", unreachable, plain(op), drop)), 3, api.ErrForm)
	}
}

func TestVM2Steps(t *testing.T) {
	for _, c := range []struct {
		name string
		f    api.Func
		want []int
	}{
		{"nothing", of(nothing), nil},
		{"one", of(nothing, nop), []int{0}},
		{"numbers", of(toI32, i32(1), i32(2), add), []int{0, 1, 2}},
		{"params are none", of(ofBoth, i32(1), x(opcode.LocalGet, 0), drop, drop, plain(opcode.F32Const)), []int{0, 1, 2, 1, 0}},
		{"blocks", of(nothing, i32(1), block(opcode.Block, "i64", nop, i64(1), nop), nop, drop, drop), []int{0, 1, 1, 1, 2, 2, 2, 1}},
		{"params of blocks", of(nothing, i64(1), i32(1), block(opcode.Loop, "#2", nop, drop, nop), nop, drop), []int{0, 1, 2, 2, 2, 1, 1, 1}},
		{"an if", of(nothing, i64(1), i32(1), choice("i32", list(nop, i32(1)), list(i32(2), nop)), nop, drop, drop), []int{0, 1, 2, 1, 1, 1, 2, 2, 2, 1}},
		{"an if with params", of(nothing, i32(1), i32(1), choice("#2", list(drop, nop), list(nop, drop)), nop), []int{0, 1, 2, 1, 0, 1, 1, 0}},
		{"what is not reached", of(toI32, i32(1), i32(1), unreachable, nop, add, i64(1), drop, drop, plain(opcode.Return), nop, i32(1)), []int{0, 1, 2, 0, 0, 1, 2, 1, 0, 0, 0}},
		{"what is not reached in a block", of(nothing, i32(1), i32(1), block(opcode.Block, "i32", x(opcode.Br, 1), drop, drop, nop), nop, drop, drop, drop), []int{0, 1, 2, 2, 2, 2, 2, 3, 3, 2, 1}},
		{"blocks of nothing", of(nothing, block(opcode.Block, ""), i32(1), choice("", nil, nil), block(opcode.Loop, "")), []int{0, 0, 1, 0}},
		{"calls", of(toI32, i32(1), i64(1), x(opcode.Call, 8), x(opcode.Call, 1), drop, drop, x(opcode.ReturnCall, 1), nop), []int{0, 1, 2, 1, 2, 1, 0, 0}},
	} {
		l, e := vmod.Steps(context(), c.f)
		if !slices.Equal(l, c.want) || e != api.OK {
			t.Errorf("%s: %v, %d, not %v", c.name, l, e, c.want)
		}
		isBody(t, context(), c.f, 0, api.OK)
	}
}

// Nothing limits how deep blocks stand within one another, and how many there are, but what the checker can hold.
func TestVM2Great(t *testing.T) {
	deep := list(i32(1), drop)
	for range 1<<16 - 2 {
		deep = list(block(opcode.Block, "", deep...))
	}
	isBody(t, context(), of(nothing, deep...), 0, api.OK)
	isBody(t, context(), of(toI32, deep...), 1<<16, api.ErrUnder)
	deep = list(i32(1), drop, drop)
	for range 10000 {
		deep = list(i32(0), choice("", list(nop), deep))
	}
	isBody(t, context(), of(nothing, deep...), 30002, api.ErrUnder)
	wide := slices.Repeat(list(block(opcode.Loop, "", nop), i32(1), drop, nop), 1<<15)
	isBody(t, context(), of(nothing, wide...), 0, api.OK)
	isBody(t, context(), of(nothing, append(wide, drop)...), 5<<15, api.ErrUnder)
}

// A function of the context must be declared to be named by ref.func, which no body does.
func TestVM2Declared(t *testing.T) {
	for n, is := range []bool{true, true, true, true, false, true, false, false, true} {
		f := of(nothing, nop, fn(uint32(n)), drop)
		if is {
			isBody(t, context(), f, 0, api.OK)
		} else {
			isBody(t, context(), f, 1, api.ErrRef)
		}
	}
	for _, n := range indices(funcs) {
		isBody(t, context(), of(nothing, fn(n), drop), 0, api.ErrIndex)
	}
}
