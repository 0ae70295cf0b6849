package vctl_test

import (
	"math"
	"slices"
	"testing"

	"ratchet/api"
	"ratchet/opcode"
	"ratchet/stack"
	"ratchet/sub"
)

// calls by the number of a function, and by that of a type.
func byNumber(n uint32) []api.Instr {
	return []api.Instr{x(opcode.Call, n), x(opcode.ReturnCall, n)}
}

func byType(n uint32) []api.Instr {
	return []api.Instr{xy(opcode.CallIndirect, n, 0), xy(opcode.ReturnCallIndirect, n, 0), x(opcode.CallRef, n), x(opcode.ReturnCallRef, n)}
}

func TestVC2NoFunction(t *testing.T) {
	for _, n := range indices(noFunc) {
		for _, i := range byNumber(n) {
			refusesAnyway(t, i, api.ErrIndex)
		}
	}
}

// Functions whose type is another kind, or none, below 0 too.
func TestVC2FunctionTypes(t *testing.T) {
	for n, ty := range context().Funcs {
		var want api.Errno
		switch {
		case ty == aStruct || ty == anArray:
			want = api.ErrKind
		case ty < 0 || ty >= noType:
			want = api.ErrIndex
		default:
			continue
		}
		for _, i := range byNumber(uint32(n)) {
			refusesAnyway(t, i, want)
		}
	}
}

func TestVC2CallTypes(t *testing.T) {
	for _, n := range []uint32{aStruct, 5, anArray} {
		for _, i := range byType(n) {
			refusesAnyway(t, i, api.ErrKind)
		}
	}
	for _, n := range indices(noType) {
		for _, i := range byType(n) {
			refusesAnyway(t, i, api.ErrIndex)
		}
	}
}

func TestVC2NoTag(t *testing.T) {
	for _, n := range indices(noTag) {
		refusesAnyway(t, x(opcode.Throw, n), api.ErrIndex)
	}
	for n, ty := range context().Tags {
		switch {
		case ty == aStruct:
			refusesAnyway(t, x(opcode.Throw, uint32(n)), api.ErrKind)
		case ty < 0 || ty >= noType:
			refusesAnyway(t, x(opcode.Throw, uint32(n)), api.ErrIndex)
		}
	}
}

// Tables that there aren't are told ahead of a type that there isn't, tables without functions too.
func TestVC2Tables(t *testing.T) {
	for _, op := range []int{opcode.CallIndirect, opcode.ReturnCallIndirect} {
		for _, ty := range []uint32{12, aStruct, noType, math.MaxUint32} {
			for _, n := range indices(noTable) {
				refusesAnyway(t, xy(op, ty, n), api.ErrIndex)
			}
			for n := uint32(5); n < noTable; n++ {
				refusesAnyway(t, xy(op, ty, n), api.ErrType)
			}
		}
		for n := range uint32(5) {
			refusesAnyway(t, xy(op, aStruct, n), api.ErrKind)
			refusesAnyway(t, xy(op, noType, n), api.ErrIndex)
		}
	}
}

// The last operand is an address of the table: just its width goes.
func TestVC2Addresses(t *testing.T) {
	p := place(nested)
	for n, table := range context().Tables[:5] {
		good, bad := "f64, (ref 5), i32", "f64, (ref 5), i64"
		if table.Limits.Wide {
			good, bad = bad, good
		}
		i, tail := xy(opcode.CallIndirect, 12, uint32(n)), xy(opcode.ReturnCallIndirect, 12, uint32(n))
		takes(t, p.with(vals(good)), context(), i, slices.Concat(p.below(), vals("f32, (ref 5)")), false)
		takes(t, p.with(vals(good)), context(), tail, p.below(), true)
		refuses(t, p.with(vals(bad)), context(), a(i), api.ErrType)
		refuses(t, p.with(vals(bad)), context(), a(tail), api.ErrType)
	}
}

// All kinds of elements: those that match (ref null func) may be called.
func TestVC2TableElements(t *testing.T) {
	p := place(nested)
	for _, v := range append(kinds(), vals("(ref 0), (ref null 12), (ref 6), (ref null nofunc), (ref null exn)")...) {
		x := api.Ctx{Types: context().Types, Tables: []api.TableType{{Elem: v}}}
		for _, op := range []int{opcode.CallIndirect, opcode.ReturnCallIndirect} {
			i := xy(op, 13, 0)
			if !sub.Val(x.Types, v, val("(ref null func)")) {
				refuses(t, p.with(vals("i32")), x, a(i), api.ErrType)
			} else if op == opcode.CallIndirect {
				takes(t, p.with(vals("i32")), x, i, slices.Concat(p.below(), vals(home)), false)
			} else {
				takes(t, p.with(vals("i32")), x, i, p.below(), true)
			}
		}
	}
}

// A call by a reference takes one to its type, or to one that matches it, null or not.
func TestVC2CallRefOperand(t *testing.T) {
	p := place(nested).with(vals("(ref 5)"))
	for _, on := range []string{"(ref 8)", "(ref null 8)", "(ref 9)", "(ref null 9)", "(ref nofunc)", "(ref null nofunc)", "none"} {
		takes(t, p.with(vals(on)), context(), x(opcode.CallRef, 8), slices.Concat(p.below(), vals("(ref null 4)")), false)
	}
	for _, on := range []string{"(ref func)", "(ref null func)", "(ref 7)", "(ref 0)", "(ref null none)", "i32", "(ref 4)"} {
		refuses(t, p.with(vals(on)), context(), a(x(opcode.CallRef, 8)), api.ErrType)
	}
	refuses(t, p.with(vals("(ref 8)")), context(), a(x(opcode.CallRef, 9)), api.ErrType)
	// Types that are one go for one another.
	takes(t, nestedOn("(ref 15)"), context(), x(opcode.CallRef, 0), place(nested).below(), false)
	takes(t, nestedOn("(ref 0)"), context(), x(opcode.CallRef, 15), place(nested).below(), false)
}

// nestedOn is the nested place at which operands lie.
func nestedOn(on string) place { return place(nested).with(vals(on)) }

// ending is a function with results, on operands that go for each tail call there.
func ending(results, on string) place {
	return func() *stack.Checker {
		c := stack.New(context().Types, nil, nil, vals(results))
		c.Enter(opcode.Block, nil, vals("f64, f64, f64"))
		c.Pushes(vals(on))
		return c
	}
}

// A tail call's results must match the function's, not those of the block in which it stands: as many, each at its place.
func TestVC2TailResults(t *testing.T) {
	tails := func(ty uint32) []api.Instr {
		return []api.Instr{x(opcode.ReturnCall, uint32(slices.Index(context().Funcs, int(ty)))), xy(opcode.ReturnCallIndirect, ty, 0), x(opcode.ReturnCallRef, ty)}
	}
	on := []string{"f64, (ref 5)", "f64, (ref 5), i32", "f64, (ref 5), (ref 12)"}
	for n, i := range tails(12) { // f32, (ref 5)
		for _, results := range []string{"f32, (ref 5)", "f32, (ref null 5)", "f32, (ref 4)", "f32, (ref null 4)", "f32, (ref struct)", "f32, (ref null any)"} {
			takes(t, ending(results, on[n]), context(), i, nil, true)
			takes(t, ending(results, "").dead(), context(), i, nil, true)
		}
		for _, results := range []string{"", "f32", "(ref 5)", "f32, (ref 5), i32", "i32, f32, (ref 5)", "f64, (ref 5)", "f32, (ref func)", "f32, i32", "(ref 5), f32", "f32, (ref none)", "f64, f64, f64"} {
			for _, ops := range []string{"", on[n], "i64", "i32"} {
				refuses(t, ending(results, ops), context(), a(i), api.ErrType)
				refuses(t, ending(results, ops).dead(), context(), a(i), api.ErrType)
			}
		}
	}
	for n, i := range tails(13) { // f32, (ref null 4)
		last := []string{"", "i32", "(ref 13)"}[n]
		takes(t, ending("f32, (ref null 4)", last), context(), i, nil, true)
		takes(t, ending("f32, (ref null eq)", last), context(), i, nil, true)
		refuses(t, ending("f32, (ref 4)", last), context(), a(i), api.ErrType)
		refuses(t, ending("f32, (ref null 5)", last), context(), a(i), api.ErrType)
	}
	for n, i := range tails(0) {
		takes(t, ending("", []string{"", "i32", "(ref 0)"}[n]), context(), i, nil, true)
		refuses(t, ending("i32", []string{"i32", "i32, i32", "i32, (ref 0)"}[n]), context(), a(i), api.ErrType)
	}
}

// Indices, then types, then results, then operands: of two faults the first one is told.
func TestVC2CallOrder(t *testing.T) {
	p := ending("i64", "")
	for _, c := range []struct {
		i    api.Instr
		want api.Errno
	}{
		{x(opcode.ReturnCall, 10), api.ErrKind}, {x(opcode.ReturnCall, 12), api.ErrIndex}, {x(opcode.ReturnCall, 4), api.ErrType}, {x(opcode.Call, 4), api.ErrUnder},
		{xy(opcode.ReturnCallIndirect, aStruct, noTable), api.ErrIndex}, {xy(opcode.ReturnCallIndirect, noType, 5), api.ErrType}, {xy(opcode.ReturnCallIndirect, aStruct, 0), api.ErrKind},
		{xy(opcode.ReturnCallIndirect, 12, 0), api.ErrType}, {xy(opcode.CallIndirect, 12, 0), api.ErrUnder}, {xy(opcode.CallIndirect, noType, 5), api.ErrType},
		{x(opcode.ReturnCallRef, aStruct), api.ErrKind}, {x(opcode.ReturnCallRef, 12), api.ErrType}, {x(opcode.CallRef, 12), api.ErrUnder},
		{x(opcode.Throw, 4), api.ErrKind}, {x(opcode.Throw, 0), api.ErrUnder},
	} {
		refuses(t, p, context(), a(c.i), c.want)
	}
	// Of operands the address and the reference come first.
	p = ending(home, "i64")
	for _, i := range []api.Instr{xy(opcode.CallIndirect, 12, 0), xy(opcode.ReturnCallIndirect, 12, 0), x(opcode.CallRef, 12), x(opcode.ReturnCallRef, 12)} {
		refuses(t, p, context(), a(i), api.ErrType)
	}
	p = ending(home, "i32")
	for _, i := range []api.Instr{xy(opcode.CallIndirect, 12, 0), xy(opcode.ReturnCallIndirect, 12, 0)} {
		refuses(t, p, context(), a(i), api.ErrUnder)
	}
}

// throw_ref takes a reference to an exception, also one that may be null; behind it nothing is reached.
func TestVC2ThrowRef(t *testing.T) {
	p, i := place(nested).with(vals("f64")), api.Instr{Op: opcode.ThrowRef}
	for _, v := range append(kinds(), vals("(ref null noexn), none")...) {
		if v.Num == api.TNone || v.Heap == api.HExn || v.Heap == api.HNoExn {
			takes(t, p.with([]api.ValType{v}), context(), i, p.below(), true)
		} else {
			refuses(t, p.with([]api.ValType{v}), context(), a(i), api.ErrType)
		}
	}
	refuses(t, nested, context(), a(i), api.ErrUnder)
}

// return takes what the function answers, whatever the blocks around end with.
func TestVC2Return(t *testing.T) {
	i := api.Instr{Op: opcode.Return}
	for _, results := range []string{"", "i32", "i32, (ref null 4), f64"} {
		takes(t, ending(results, results), context(), i, nil, true)
		takes(t, ending(results, "(ref 5), "+"i64").with(vals(results)), context(), i, nil, true)
		takes(t, ending(results, "").dead(), context(), i, nil, true)
	}
	refuses(t, ending("i32, (ref 4)", "i32"), context(), a(i), api.ErrType)
	refuses(t, ending("i32, (ref 4)", "(ref 4)"), context(), a(i), api.ErrUnder)
	refuses(t, ending("i32, (ref 4)", "i32, (ref null 4)"), context(), a(i), api.ErrType)
}
