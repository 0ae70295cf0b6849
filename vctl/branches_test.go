package vctl_test

import (
	"math"
	"slices"
	"testing"

	"ratchet/api"
	"ratchet/opcode"
	"ratchet/stack"
)

// refusesAnyway says that an instruction is refused by an error whatever the operands are: it is asked ahead of them.
func refusesAnyway(t *testing.T, i api.Instr, want api.Errno) {
	t.Helper()
	for _, on := range []string{"", "f32", "i32, i32, i32", "i64, (ref null 4), i32", "(ref null 4)", "none, none, none"} {
		refuses(t, place(nested).with(vals(on)), context(), a(i), want)
		refuses(t, place(nested).dead().with(vals(on)), context(), a(i), want)
	}
}

func TestVC2NoLabel(t *testing.T) {
	for _, n := range indices(noLabel) {
		for _, op := range []int{opcode.Br, opcode.BrIf, opcode.BrOnNull, opcode.BrOnNonNull} {
			refusesAnyway(t, x(op, n), api.ErrBlock)
		}
		for _, i := range []api.Instr{brTable(n), brTable(n, toI32), brTable(toI32, n), brTable(toI32, toI32, toLoop, n), brTable(toI32, n, toLoop), brTable(n, n)} {
			refusesAnyway(t, i, api.ErrBlock)
		}
	}
	// In the function's own block there is just one label.
	for _, op := range []int{opcode.Br, opcode.BrIf, opcode.BrOnNull, opcode.BrTable} {
		refuses(t, place(fresh).with(vals(home+", i32")), context(), a(x(op, 1)), api.ErrBlock)
	}
	takes(t, place(fresh).with(vals(home)), context(), x(opcode.Br, 0), nil, true)
}

// All labels are asked for, then how many types each takes, then the operands.
func TestVC2TableOrder(t *testing.T) {
	for _, i := range []api.Instr{brTable(toI32, toNull4), brTable(toNull4, toI32), brTable(toNothing, toI32), brTable(toI32, toNothing), brTable(toNothing, toNothing, toNothing, toRef4), brTable(toRef4, toRef4, toNull4, toRef4), brTable(toFunction, toFunction, toI32)} {
		refusesAnyway(t, i, api.ErrArity)
	}
	for _, i := range []api.Instr{brTable(toI32, toNull4, noLabel), brTable(noLabel, toNull4, toI32), brTable(toI32, toNothing, noLabel, toNull4)} {
		refusesAnyway(t, i, api.ErrBlock)
	}
}

// Of labels whose types do not match, the operands must match all; the first label for which they do not tells the error.
func TestVC2TableTypes(t *testing.T) {
	p, dead := place(nested), place(nested).dead()
	both := brTable(toNull4, toNull5)
	takes(t, p.with(vals("i64, (ref 5), i32")), context(), both, p.below(), true)
	takes(t, p.with(vals("i64, (ref null none), i32")), context(), both, p.below(), true)
	takes(t, p.with(vals("none, none, i32")), context(), both, p.below(), true)
	for _, i := range []api.Instr{both, brTable(toNull5, toNull4), brTable(toNull4, toNull4, toNull5)} {
		refuses(t, p.with(vals("i64, (ref 4), i32")), context(), a(i), api.ErrType)
		refuses(t, p.with(vals("i32, (ref 5), i32")), context(), a(i), api.ErrType)
		refuses(t, p.with(vals("i64, (ref 5), i64")), context(), a(i), api.ErrType)
		refuses(t, p.with(vals("(ref 5), i32")), context(), a(i), api.ErrUnder)
		refuses(t, dead.with(vals("(ref 4), i32")), context(), a(i), api.ErrType)
		refuses(t, dead.with(vals("i64, (ref 4), none")), context(), a(i), api.ErrType)
		takes(t, dead.with(vals("(ref 5), i32")), context(), i, p.below(), true)
	}
	// One number does not match the other, so that only what is not there goes.
	unlike := brTable(toNull4, toFunction)
	for _, on := range []string{"i64, (ref 4), i32", "f32, (ref 4), i32"} {
		refuses(t, p.with(vals(on)), context(), a(unlike), api.ErrType)
		refuses(t, dead.with(vals(on)), context(), a(unlike), api.ErrType)
	}
	for _, on := range []string{"", "i32", "(ref 4), i32", "none, (ref null 4), i32"} {
		takes(t, dead.with(vals(on)), context(), unlike, p.below(), true)
	}
}

// rowOf are blocks within one another, from the inmost on, that end with types.
func rowOf(texts ...string) place {
	return func() *stack.Checker {
		c := fresh()
		for _, s := range slices.Backward(texts) {
			c.Enter(opcode.Block, nil, vals(s))
		}
		return c
	}
}

// Labels are gone through in order, X behind the others: where one finds a type that does not match, and another an operand that is not there, the first one of them is told.
func TestVC2TableFirst(t *testing.T) {
	p := rowOf("i32, i64", "i32, f32").with(vals("i64, i32"))
	for _, c := range []struct {
		i    api.Instr
		want api.Errno
	}{
		{brTable(0), api.ErrUnder}, {brTable(1), api.ErrType}, {brTable(1, 0), api.ErrUnder}, {brTable(0, 1), api.ErrType}, {brTable(0, 0, 1), api.ErrUnder}, {brTable(0, 1, 0), api.ErrType},
		{brTable(1, 1, 0), api.ErrType}, {brTable(1, 0, 0, 1), api.ErrUnder},
	} {
		refuses(t, p, context(), a(c.i), c.want)
	}
}

// Many labels, of which most are the same, and many of which none are.
func TestVC2TableMany(t *testing.T) {
	p, same := place(nested), slices.Repeat([]uint32{toI32, toLoop}, api.MaxLabels/2)
	takes(t, p.with(vals("i32, i32")), context(), brTable(toI32, same...), p.below(), true)
	refuses(t, p.with(vals("i64, i32")), context(), a(brTable(toI32, same...)), api.ErrType)
	same[api.MaxLabels-1] = toNull4
	refuses(t, p.with(vals("i32, i32")), context(), a(brTable(toI32, same...)), api.ErrArity)
	same[api.MaxLabels-2] = math.MaxUint32
	refuses(t, p.with(vals("i32, i32")), context(), a(brTable(toI32, same...)), api.ErrBlock)
	texts := slices.Repeat([]string{"i32, (ref null 4)"}, 300)
	texts[299] = "i32, (ref null 5)"
	var all []uint32
	for n := range uint32(300) {
		all = append(all, n)
	}
	deep := rowOf(texts...)
	takes(t, deep.with(vals("i32, (ref 5), i32")), context(), brTable(0, all...), nil, true)
	refuses(t, deep.with(vals("i32, (ref 4), i32")), context(), a(brTable(0, all...)), api.ErrType)
	takes(t, deep.with(vals("i32, (ref 4), i32")), context(), brTable(0, all[:299]...), nil, true)
}

// Operands that are less than what a label takes are laid back as the label's types: these are known of them from there on.
func TestVC2BrIfWidens(t *testing.T) {
	p := place(nested)
	takes(t, p.with(vals("i64, (ref none), i32")), context(), x(opcode.BrIf, toNull4), slices.Concat(p.below(), vals("i64, (ref null 4)")), false)
	takes(t, p.dead().with(vals("i32")), context(), x(opcode.BrIf, toNull4), slices.Concat(p.below(), vals("i64, (ref null 4)")), false)
	takes(t, p.with(vals("i64, (ref none), (ref null 5)")), context(), x(opcode.BrOnNull, toNull4), slices.Concat(p.below(), vals("i64, (ref null 4), (ref 5)")), false)
	takes(t, p.with(vals("i64, (ref none)")), context(), x(opcode.BrOnNonNull, toNull5), slices.Concat(p.below(), vals("i64")), false)
}

// br_on_null goes with each reference; the one that stays is not null, and none stays none.
func TestVC2OnNullOperand(t *testing.T) {
	p := place(nested).with(vals("f64"))
	for _, v := range append(kinds(), api.ValType{}, api.ValType{Null: true}) {
		on := []api.ValType{val("i32"), v}
		if v.Num != api.TRef && v.Num != api.TNone {
			refuses(t, p.with(on), context(), a(x(opcode.BrOnNull, toI32)), api.ErrType)
			refuses(t, p.with(on[1:]), context(), a(x(opcode.BrOnNull, toNothing)), api.ErrType)
			refuses(t, p.dead().with(on[1:]), context(), a(x(opcode.BrOnNull, toI32)), api.ErrType)
			continue
		}
		some := v
		some.Null = false
		takes(t, p.with(on), context(), x(opcode.BrOnNull, toI32), slices.Concat(p().Operands(), []api.ValType{val("i32"), some}), false)
		takes(t, p.with(on[1:]), context(), x(opcode.BrOnNull, toNothing), slices.Concat(p().Operands(), []api.ValType{some}), false)
		takes(t, p.dead().with(on[1:]), context(), x(opcode.BrOnNull, toI32), slices.Concat(p.below(), []api.ValType{val("i32"), some}), false)
		refuses(t, place(nested).with(on[1:]), context(), a(x(opcode.BrOnNull, toI32)), api.ErrUnder)
		refuses(t, p.with(on[1:]), context(), a(x(opcode.BrOnNull, toI32)), api.ErrType)
	}
	refuses(t, place(nested), context(), a(x(opcode.BrOnNull, toI32)), api.ErrUnder)
	// An operand of another sort is told ahead of those that the label takes.
	refuses(t, place(nested).with(vals("i32")), context(), a(x(opcode.BrOnNull, toI32)), api.ErrType)
	takes(t, place(nested).dead(), context(), x(opcode.BrOnNull, toNull4), slices.Concat(p.below(), vals("i64, (ref null 4), none")), false)
}

// A label that takes nothing, or whose last type is no reference, is none for br_on_non_null.
func TestVC2OnNonNullLabel(t *testing.T) {
	for _, n := range []uint32{toI32, toLoop, toNothing} {
		refusesAnyway(t, x(opcode.BrOnNonNull, n), api.ErrType)
	}
	p := rowOf("(ref 4), i32", "none", "(ref 4), none", "(ref null func), (ref func)")
	for n := range uint32(3) {
		refuses(t, p.with(vals("(ref 4), (ref 4)")), context(), a(x(opcode.BrOnNonNull, n)), api.ErrType)
	}
	takes(t, p.with(vals("(ref func), (ref null func)")), context(), x(opcode.BrOnNonNull, 3), vals("(ref null func)"), false)
	takes(t, p.with(vals("(ref nofunc), (ref null nofunc)")), context(), x(opcode.BrOnNonNull, 3), vals("(ref null func)"), false)
	refuses(t, p.with(vals("(ref func), (ref null extern)")), context(), a(x(opcode.BrOnNonNull, 3)), api.ErrType)
}

// The operand of br_on_non_null is held against the label's last type as one that is not null.
func TestVC2OnNonNullOperand(t *testing.T) {
	p := place(nested).with(vals("f64"))
	for label, goes := range map[uint32]string{
		toRef4:  "(ref null 4), (ref 4), (ref 5), (ref null 5), (ref null none), (ref none)",
		toNull4: "(ref null 4), (ref 4), (ref 5), (ref null 5), (ref null none), (ref none)",
		toNull5: "(ref 5), (ref null 5), (ref null none), (ref none)",
	} {
		ahead := vals("i64")
		if label == toRef4 {
			ahead = nil
		}
		for _, v := range append(kinds(), api.ValType{}, api.ValType{Null: true}) {
			on, i := append(slices.Clone(ahead), v), x(opcode.BrOnNonNull, label)
			if v.Num == api.TNone || slices.Contains(vals(goes), v) {
				takes(t, p.with(on), context(), i, slices.Concat(p().Operands(), ahead), false)
				takes(t, p.dead().with([]api.ValType{v}), context(), i, slices.Concat(p.below(), ahead), false)
			} else {
				refuses(t, p.with(on), context(), a(i), api.ErrType)
				refuses(t, p.dead().with([]api.ValType{v}), context(), a(i), api.ErrType)
			}
		}
		takes(t, p.dead(), context(), x(opcode.BrOnNonNull, label), slices.Concat(p.below(), ahead), false)
		refuses(t, nested, context(), a(x(opcode.BrOnNonNull, label)), api.ErrUnder)
	}
	refuses(t, place(nested).with(vals("(ref null 4)")), context(), a(x(opcode.BrOnNonNull, toNull4)), api.ErrUnder)
	refuses(t, place(nested).with(vals("i32, (ref null 4)")), context(), a(x(opcode.BrOnNonNull, toNull4)), api.ErrType)
	// That the operand does not match is told ahead of there being too few others.
	refuses(t, place(nested).with(vals("(ref null func)")), context(), a(x(opcode.BrOnNonNull, toNull4)), api.ErrType)
}

// A loop's label takes what it begins with, every other block's what it ends with.
func TestVC2LabelTypes(t *testing.T) {
	for _, op := range []int{opcode.Block, opcode.Loop, opcode.If, opcode.Else, opcode.TryTable} {
		p := place(func() *stack.Checker {
			c := place(fresh).with(vals("i32"))()
			c.Enter(op, vals("i32"), vals("f64"))
			c.Pop()
			return c
		})
		good, bad := "f64", "i32"
		if op == opcode.Loop {
			good, bad = bad, good
		}
		takes(t, p.with(vals(good)), context(), x(opcode.Br, 0), nil, true)
		takes(t, p.with(vals(good+", i32")), context(), x(opcode.BrIf, 0), vals(good), false)
		takes(t, p.with(vals(good+", i32")), context(), brTable(0), nil, true)
		takes(t, p.with(vals(good+", (ref any)")), context(), x(opcode.BrOnNull, 0), vals(good+", (ref any)"), false)
		refuses(t, p.with(vals(bad)), context(), a(x(opcode.Br, 0)), api.ErrType)
		refuses(t, p.with(vals(bad+", i32")), context(), a(x(opcode.BrIf, 0)), api.ErrType)
	}
}
