package vnum_test

import (
	"testing"

	"ratchet/api"
	"ratchet/opcode"
	"ratchet/sub"
)

// Tables and element segments that there aren't.
func TestP142TableIndex(t *testing.T) {
	for _, n := range indices(6) {
		for _, op := range []int{opcode.TableGet, opcode.TableSet, opcode.TableSize, opcode.TableGrow, opcode.TableFill} {
			refusesAnyway(t, x(op, n), vals("i32, i32, i32"), api.ErrIndex)
		}
		for _, i := range []api.Instr{xy(opcode.TableCopy, n, 0), xy(opcode.TableCopy, 0, n), xy(opcode.TableCopy, n, n), xy(opcode.TableInit, 0, n), xy(opcode.TableInit, 6, n)} {
			refusesAnyway(t, i, vals("i32, i32, i32"), api.ErrIndex)
		}
	}
	for _, n := range indices(7) {
		refusesAnyway(t, x(opcode.ElemDrop, n), nil, api.ErrIndex)
		for _, table := range []uint32{0, 4, 6, n} {
			refusesAnyway(t, xy(opcode.TableInit, n, table), vals("i32, i32, i32"), api.ErrIndex)
		}
	}
}

// Of each pair of tables the elements of the one that is read must match those of the other; the addresses are those of both.
func TestP142TableCopy(t *testing.T) {
	x := context()
	taken := 0
	for to, a := range x.Tables {
		for from, b := range x.Tables {
			i, in := xy(opcode.TableCopy, uint32(to), uint32(from)), []api.ValType{addr(a.Limits), addr(b.Limits), least(a.Limits, b.Limits)}
			if !sub.Val(x.Types, b.Elem, a.Elem) {
				refusesAnyway(t, i, in, api.ErrType)
				continue
			}
			taken++
			lengths(t, i, in)
			takes(t, unreached()["in a block"], x, i, unreached()["in a block"]().Operands(), nil)
		}
	}
	// Two tables of functions among one another; two of the type 0 and one of 3, which is that type, likewise; one of 1, which goes into those three, and into itself.
	if taken != 4+9+3+1 {
		t.Errorf("%d pairs are taken", taken)
	}
}

// Of each segment and each table the segment's type must match the table's elements; only the place in the table is an address.
func TestP142TableInit(t *testing.T) {
	x := context()
	taken := 0
	for segment, v := range x.Elems {
		for table, u := range x.Tables {
			i, in := xy(opcode.TableInit, uint32(segment), uint32(table)), []api.ValType{addr(u.Limits), val("i32"), val("i32")}
			if !sub.Val(x.Types, v, u.Elem) {
				refusesAnyway(t, i, in, api.ErrType)
				continue
			}
			taken++
			lengths(t, i, in)
			takes(t, unreached()["in a block"], x, i, unreached()["in a block"]().Operands(), nil)
		}
	}
	if taken != 2+2+4+3+3 {
		t.Errorf("%d pairs are taken", taken)
	}
}

// A drop asks nothing of the segment's type, and takes nothing.
func TestP142Drops(t *testing.T) {
	start := place(fresh).with(vals("f64, i32"))
	for n := range uint32(7) {
		takes(t, start, context(), x(opcode.ElemDrop, n), start().Operands(), nil)
	}
	for n := range uint32(3) {
		takes(t, start, context(), x(opcode.DataDrop, n), start().Operands(), nil)
	}
}

// What is got of a table is its elements' type; what is put there may be a lesser one.
func TestP142TableElements(t *testing.T) {
	for n, u := range context().Tables {
		a, i := addr(u.Limits), uint32(n)
		takes(t, place(fresh).with([]api.ValType{a}), context(), x(opcode.TableGet, i), nil, []api.ValType{u.Elem})
		for _, v := range kinds() {
			on := map[int][]api.ValType{opcode.TableSet: {a, v}, opcode.TableGrow: {v, a}, opcode.TableFill: {a, v, a}}
			for op, in := range on {
				if !sub.Val(context().Types, v, u.Elem) {
					refuses(t, place(fresh).with(in), context(), x(op, i), api.ErrType)
				} else if op == opcode.TableGrow {
					takes(t, place(fresh).with(in), context(), x(op, i), nil, []api.ValType{a})
				} else {
					takes(t, place(fresh).with(in), context(), x(op, i), nil, nil)
				}
			}
		}
	}
}
