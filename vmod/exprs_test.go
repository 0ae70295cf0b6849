package vmod_test

import (
	"math"
	"slices"
	"testing"

	"ratchet/api"
	"ratchet/instr"
	"ratchet/opcode"
	"ratchet/vref"
)

func TestVM3(t *testing.T) {
	fixed := api.Instr{Op: opcode.ArrayNewFixed, X: anArray, N: 2}
	for _, c := range []struct {
		l       []api.Instr
		kind    string
		globals int
		at      int
		e       api.Errno
	}{
		{nil, "i32", 0, 0, api.ErrUnder},
		{list(i32(1)), "i32", 0, 0, api.OK},
		{list(i32(1)), "i64", 0, 1, api.ErrType},
		{list(i32(1), i32(2)), "i32", 0, 2, api.ErrLeft},
		{list(i32(1), i32(2), add), "i32", 0, 0, api.OK},
		{list(i32(1), i64(2), add), "i32", 0, 2, api.ErrType},
		{list(i32(1), add), "i32", 0, 1, api.ErrUnder},
		{list(plain(opcode.F64Const)), "f64", 0, 0, api.OK},
		{list(i64(1), i64(2), plain(opcode.I64Sub), i64(3), plain(opcode.I64Mul)), "i64", 0, 0, api.OK},
		{list(null("func")), "(ref null func)", 0, 0, api.OK},
		{list(null("func")), "(ref func)", 0, 1, api.ErrType},
		{list(null("9")), "(ref null any)", 0, 0, api.ErrIndex},
		{list(fn(0)), "(ref 2)", 0, 0, api.OK},
		{list(fn(0)), "(ref 0)", 0, 1, api.ErrType},
		{list(fn(4)), "(ref func)", 0, 0, api.ErrRef},
		{list(fn(9)), "(ref func)", 0, 0, api.ErrIndex},
		{list(i32(1), plain(opcode.RefI31)), "(ref any)", 0, 0, api.OK},
		{list(i32(1), i32(2), x(opcode.StructNew, aStruct)), "(ref null 4)", 0, 0, api.OK},
		{list(i32(1), x(opcode.StructNew, aStruct)), "(ref null 4)", 0, 1, api.ErrUnder},
		{list(i32(1), i32(2), fixed), "(ref 6)", 0, 0, api.OK},
		{list(i32(3), x(opcode.ArrayNewDefault, anArray), plain(opcode.ExternConvertAny)), "(ref extern)", 0, 0, api.OK},
		{list(get(0)), "i32", 1, 0, api.OK},
		{list(get(0)), "i32", 0, 0, api.ErrIndex},
		{list(get(0)), "i32", -1, 0, api.ErrIndex},
		{list(get(0)), "i32", math.MinInt, 0, api.ErrIndex},
		{list(get(1)), "i64", 1, 0, api.ErrIndex},
		{list(get(1)), "i64", 2, 0, api.ErrMutable},
		{list(get(9)), "(ref 6)", 10, 0, api.OK},
		{list(get(9)), "(ref 6)", 9, 0, api.ErrIndex},
		{list(get(9)), "(ref 6)", math.MaxInt, 0, api.OK},
		{list(get(10)), "(ref 6)", math.MaxInt, 0, api.ErrIndex},
		{list(i32(1), nop), "i32", 0, 1, api.ErrConst},
		{list(i64(1), nop), "i32", 0, 1, api.ErrConst},
		// The first fault, be it of a step or of what may stand there.
		{list(add, nop), "i32", 0, 0, api.ErrUnder},
		{list(nop, add), "i32", 0, 0, api.ErrConst},
		{list(i32(1), add, get(99)), "i32", 0, 1, api.ErrUnder},
		{list(i32(1), get(99), add), "i32", 0, 1, api.ErrIndex},
		// What may not stand there is told ahead of its step.
		{list(drop), "i32", 0, 0, api.ErrConst},
		{list(unreachable), "i32", 0, 0, api.ErrConst},
		{list(plain(opcode.I32DivS)), "i32", 0, 0, api.ErrConst},
		{list(x(opcode.LocalGet, 0)), "i32", 0, 0, api.ErrConst},
		{list(plain(-1)), "i32", 0, 0, api.ErrConst},
		{list(plain(opcode.End)), "i32", 0, 0, api.ErrConst},
		{list(block(opcode.Block, "i32", i32(1))), "i32", 0, 0, api.ErrConst},
		{list(i32(1), choice("i32", list(i32(1)), list(i32(1)))), "i32", 0, 1, api.ErrConst},
	} {
		isExpr(t, context(), c.l, val(c.kind), c.globals, c.at, c.e)
	}
}

// Of each opcode alone: refused by Const, or by its step, or by what it leaves.
func TestVM3Ops(t *testing.T) {
	for _, op := range append(instr.Ops(), -1, 0x06, 0x7777) {
		l := list(plain(op))
		_, want := vref.Const(context(), l, 0)
		if want != api.OK {
			isExpr(t, context(), l, val("i32"), 0, 0, want)
			isExpr(t, context(), append(list(i32(1)), l...), val("i32"), 0, 1, want)
			isExpr(t, context(), append(list(add), l...), val("i32"), 0, 0, api.ErrUnder)
		}
		// With parts that it may not have.
		if i := l[0]; op != opcode.If {
			i.HasElse = true
			isExpr(t, context(), list(i32(1), i), val("i32"), 0, 1, api.ErrForm)
			isExpr(t, context(), list(i32(1), nop, i), val("i32"), 0, 1, api.ErrConst)
			isExpr(t, context(), list(add, i), val("i32"), 0, 0, api.ErrUnder)
		}
	}
	i := i32(7)
	i.Body = list(nop)
	isExpr(t, context(), list(i), val("i32"), 0, 0, api.ErrForm)
}

// The type that is asked is not asked whether it can be, and one of no type is matched by each.
func TestVM3Types(t *testing.T) {
	isExpr(t, context(), list(i32(1)), val("none"), 0, 0, api.OK)
	isExpr(t, context(), list(i32(1), i32(2)), val("none"), 0, 2, api.ErrLeft)
	isExpr(t, context(), nil, val("none"), 0, 0, api.ErrUnder)
	isExpr(t, context(), list(i32(1)), val("i8"), 0, 1, api.ErrType)
	isExpr(t, context(), list(null("any")), ref(true, 99), 0, 1, api.ErrType)
	isExpr(t, api.Ctx{}, list(i32(1)), val("i32"), 0, 0, api.OK)
	isExpr(t, api.Ctx{}, list(null("any")), val("(ref null any)"), 0, 0, api.OK)
	isExpr(t, api.Ctx{}, list(fn(0)), val("(ref func)"), 0, 0, api.ErrIndex)
	isExpr(t, api.Ctx{}, list(get(0)), val("i32"), 7, 0, api.ErrIndex)
}

func TestVM3Long(t *testing.T) {
	l := append(list(i32(0)), slices.Repeat(list(i32(1), add), 20000)...)
	isExpr(t, context(), l, val("i32"), 0, 0, api.OK)
	isExpr(t, context(), append(l, add), val("i32"), 0, 40001, api.ErrUnder)
	isExpr(t, context(), append(l, i32(1)), val("i32"), 0, 40002, api.ErrLeft)
	isExpr(t, context(), append(l, nop), val("i32"), 0, 40001, api.ErrConst)
	isExpr(t, context(), l, val("f32"), 0, 40001, api.ErrType)
}
