package vnum_test

import (
	"testing"

	"ratchet/api"
	"ratchet/opcode"
	"ratchet/stack"
)

// A local that there isn't is told by ErrIndex, whatever the operands are.
func TestP142LocalIndex(t *testing.T) {
	for _, op := range []int{opcode.LocalGet, opcode.LocalSet, opcode.LocalTee} {
		for _, n := range indices(nobody) {
			for _, on := range []string{"", "i32", "(ref 0)", "none"} {
				refuses(t, place(fresh).with(vals(on)), context(), x(op, n), api.ErrIndex)
				refuses(t, unreached()["in a block"].with(vals(on)), context(), x(op, n), api.ErrIndex)
			}
		}
	}
	nothing := func() *stack.Checker { return stack.New(nil, nil, nil, nil) }
	refuses(t, nothing, context(), x(opcode.LocalGet, 0), api.ErrIndex)
}

// A local without a first value is got just where it has been set, and has not been unset again at a block's end.
func TestP142LocalUnset(t *testing.T) {
	for _, n := range []uint32{unset, unset + 1} {
		get := x(opcode.LocalGet, n)
		for _, p := range []place{fresh, places()["in a block"], unreached()["at first"], unreached()["in a block"]} {
			refuses(t, p, context(), get, api.ErrUnset)
		}
		for _, op := range []int{opcode.LocalSet, opcode.LocalTee} {
			c := fresh()
			v, _ := c.Local(n)
			must(t, c.Enter(opcode.Block, nil, nil), c.Push(v), step(c, x(op, n)), step(c, get))
			must(t, c.Unreachable())
			_, _, _, e := c.Leave()
			must(t, e)
			if e := step(c, get); e != api.ErrUnset {
				t.Errorf("local %d behind the block in which it was set: %d", n, e)
			}
		}
	}
}

// What is refused sets nothing; what is taken sets its own local alone.
func TestP142LocalSet(t *testing.T) {
	for _, op := range []int{opcode.LocalSet, opcode.LocalTee} {
		c := fresh()
		for _, on := range []string{"(ref null func)", "i32", "(ref 0)"} {
			must(t, c.Push(val(on)))
			if e := step(c, x(op, unset)); e != api.ErrType {
				t.Errorf("%x on %s: %d", op, on, e)
			}
		}
		if e := step(fresh(), x(op, unset)); e != api.ErrUnder {
			t.Errorf("%x of nothing: %d", op, e)
		}
		if e := step(c, x(opcode.LocalGet, unset)); e != api.ErrUnset {
			t.Errorf("%x that was refused has set the local: %d", op, e)
		}
		must(t, c.Push(val("(ref nofunc)")), step(c, x(op, unset)), step(c, x(opcode.LocalGet, unset)))
		if l := c.Operands(); l[len(l)-1] != val("(ref func)") {
			t.Errorf("local.get behind %x: %v", op, l)
		}
		if e := step(c, x(opcode.LocalGet, unset+1)); e != api.ErrUnset {
			t.Errorf("%x sets another local, too: %d", op, e)
		}
	}
}

// A tee leaves the local's type, not the operand's, which may be a lesser one.
func TestP142TeeType(t *testing.T) {
	c := place(fresh).with(vals("(ref 1)"))()
	must(t, step(c, x(opcode.LocalTee, 1)))
	if got := told(c.Operands()); got != told(vals("(ref 0)")) {
		t.Errorf("local.tee leaves %s", got)
	}
}

func TestP142GlobalIndex(t *testing.T) {
	for _, op := range []int{opcode.GlobalGet, opcode.GlobalSet} {
		for _, n := range indices(4) {
			for _, on := range []string{"", "i64", "f32", "none"} {
				refuses(t, place(fresh).with(vals(on)), context(), x(op, n), api.ErrIndex)
				refuses(t, unreached()["in a block"].with(vals(on)), context(), x(op, n), api.ErrIndex)
			}
		}
	}
}

// A global that may not be set is told ahead of the operands.
func TestP142GlobalMut(t *testing.T) {
	for _, n := range []uint32{0, 3} {
		for _, on := range []string{"", "i64", "(ref 1)", "f32", "none"} {
			refuses(t, place(fresh).with(vals(on)), context(), x(opcode.GlobalSet, n), api.ErrMut)
			refuses(t, unreached()["in a block"].with(vals(on)), context(), x(opcode.GlobalSet, n), api.ErrMut)
		}
	}
}
