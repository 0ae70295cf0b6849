package vctl_test

import (
	"slices"
	"testing"

	"ratchet/api"
	"ratchet/opcode"
	"ratchet/stack"
	"ratchet/sub"
	"ratchet/vctl"
)

// within is a place in a block of a context's type, behind its beginning: a local has been set there, and none of the operands with which it begins are left.
func within(op, n int) place {
	return func() *stack.Checker {
		in, out, _ := vctl.FuncType(context(), n)
		c := place(nested).with(vals("f64")).with(in)()
		c.Enter(op, in, out)
		c.Set(unset)
		c.Pops(in)
		return c
	}
}

// around is what is around such a block.
func around() place { return place(nested).with(vals("f64")) }

// closes says that a block is closed: its ending types lie on the operands around it.
func closes(t *testing.T, p place, out []api.ValType) {
	t.Helper()
	c, d := p(), around().with(out)()
	if e := vctl.Close(context(), c); e != api.OK {
		t.Errorf("Close on %v: %d", p().Operands(), e)
		return
	}
	if got, want := drain(c), drain(d); got != want {
		t.Errorf("Close on %v: it should lead to\n%sand leads to\n%s", p().Operands(), want, got)
	}
}

// closedOps are opcodes of frames that have nothing to ask at their end but their operands.
func closedOps() []int { return []int{opcode.Block, opcode.Loop, opcode.Else, opcode.TryTable, 99} }

func TestVC3Close(t *testing.T) {
	for _, op := range closedOps() {
		for _, n := range []int{0, 1, 2, 3, 7, 10, 12, 13, 17} {
			_, out, _ := vctl.FuncType(context(), n)
			closes(t, within(op, n).with(out), out)
			for at := range len(out) + 1 {
				closes(t, within(op, n).dead().with(out[at:]), out)
			}
			for at := range out {
				refuses(t, within(op, n).with(out[at+1:]), context(), closing(), api.ErrUnder)
				any := slices.Clone(out)
				any[at] = api.ValType{}
				closes(t, within(op, n).with(any), out)
			}
		}
	}
}

// Operands of other types, and more of them than the block ends with, are refused; those that match become of the block's types.
func TestVC3CloseOperands(t *testing.T) {
	for _, op := range closedOps() {
		p, out := within(op, 13), vals("f32, (ref null 4)")
		for n := range out {
			for _, v := range kinds() {
				l := slices.Clone(out)
				l[n] = v
				if sub.Val(context().Types, v, out[n]) {
					closes(t, p.with(l), out)
					closes(t, p.dead().with(l[n:]), out)
					continue
				}
				refuses(t, p.with(l), context(), closing(), api.ErrType)
				refuses(t, p.dead().with(l[n:]), context(), closing(), api.ErrType)
			}
		}
		for _, more := range []string{"i32", "none", "f32, (ref null 4)"} {
			refuses(t, p.with(vals(more)).with(out), context(), closing(), api.ErrLeft)
			refuses(t, p.dead().with(vals(more)).with(out), context(), closing(), api.ErrLeft)
			refuses(t, within(op, 0).with(vals(more)), context(), closing(), api.ErrLeft)
		}
		refuses(t, p.with(out).with(vals("i32")), context(), closing(), api.ErrType)
		refuses(t, p, context(), closing(), api.ErrUnder)
	}
}

// An if that ends without a second part must leave what it takes: as many types, of which each matches, whatever the operands are.
func TestVC3CloseIf(t *testing.T) {
	for _, n := range []int{0, 8, 15, 16} {
		_, out, _ := vctl.FuncType(context(), n)
		closes(t, within(opcode.If, n).with(out), out)
		closes(t, within(opcode.If, n).dead(), out)
	}
	for n, want := range map[int]api.Errno{
		1: api.ErrArity, 2: api.ErrArity, 18: api.ErrArity, 19: api.ErrArity, 10: api.ErrArity,
		3: api.ErrType, 7: api.ErrType, 9: api.ErrType, 12: api.ErrType, 14: api.ErrType, 17: api.ErrType,
	} {
		_, out, _ := vctl.FuncType(context(), n)
		for _, on := range [][]api.ValType{nil, out, vals("i32"), vals("none, none")} {
			refuses(t, within(opcode.If, n).with(on), context(), closing(), want)
			refuses(t, within(opcode.If, n).dead().with(on), context(), closing(), want)
		}
	}
}

// Of an if's types it is the beginning that must match the end.
func TestVC3CloseIfMatches(t *testing.T) {
	out := vals("i64, (ref null 4)")
	closes(t, within(opcode.If, 16).with(out), out)
	closes(t, within(opcode.If, 16).dead(), out)
	for _, p := range []place{within(opcode.If, 17), within(opcode.If, 17).with(vals("i64, (ref 5)")), within(opcode.If, 17).dead()} {
		refuses(t, p, context(), closing(), api.ErrType)
	}
	closes(t, within(opcode.Else, 17).with(vals("i64, (ref 5)")), vals("i64, (ref 5)"))
	// An if whose types go still asks for operands.
	refuses(t, within(opcode.If, 16), context(), closing(), api.ErrUnder)
	refuses(t, within(opcode.If, 16).with(vals("f32, (ref 5)")), context(), closing(), api.ErrType)
	refuses(t, within(opcode.If, 16).with(vals("f32, i64, (ref 5)")), context(), closing(), api.ErrLeft)
}

// Behind the last frame of all its types are not pushed: there is nothing to push them on.
func TestVC3CloseFunction(t *testing.T) {
	for _, results := range []string{"", "i32", home} {
		p := place(func() *stack.Checker { return stack.New(context().Types, vals("i32"), nil, vals(results)) })
		for _, at := range []place{p.with(vals(results)), p.dead(), p.dead().with(vals(results))} {
			c := at()
			if e := vctl.Close(context(), c); e != api.OK || !c.Done() || c.Height() != 0 || told(c.Results()) != told(vals(results)) {
				t.Errorf("Close of a function that answers (%s): %d, %d operands", results, e, c.Height())
			}
		}
		refuses(t, p.with(vals("f64")).with(vals(results)), context(), closing(), api.ErrLeft)
		if results != "" {
			refuses(t, p, context(), closing(), api.ErrUnder)
			refuses(t, p.with(vals(results)[1:]).with(vals("f64")), context(), closing(), api.ErrType)
		}
	}
	refuses(t, func() *stack.Checker { return stack.New(nil, nil, nil, nil) }, context(), turn(), api.ErrKind)
}

// turns says that an if's first part has come to its second: a new frame stands there, with the same types, on what is around.
func turns(t *testing.T, p place, in, out []api.ValType) {
	t.Helper()
	c, d := p(), around().with(in)()
	d.Enter(opcode.Else, in, out)
	if e := vctl.Turn(c); e != api.OK {
		t.Errorf("Turn on %v: %d", p().Operands(), e)
		return
	}
	if got, want := look(c)+drain(c), look(d)+drain(d); got != want {
		t.Errorf("Turn on %v: it should lead to\n%sand leads to\n%s", p().Operands(), want, got)
	}
}

func TestVC3Turn(t *testing.T) {
	for _, n := range []int{0, 1, 2, 3, 7, 10, 12, 13, 16, 17, 19} {
		in, out, _ := vctl.FuncType(context(), n)
		p := within(opcode.If, n)
		turns(t, p.with(out), in, out)
		for at := range len(out) + 1 {
			turns(t, p.dead().with(out[at:]), in, out)
		}
		for at := range out {
			any := slices.Clone(out)
			any[at] = api.ValType{}
			turns(t, p.with(any), in, out)
			refuses(t, p.with(out[at+1:]), context(), turn(), api.ErrUnder)
		}
		refuses(t, p.with(vals("f64")).with(out), context(), turn(), api.ErrLeft)
		refuses(t, p.dead().with(vals("f64")).with(out), context(), turn(), api.ErrLeft)
		refuses(t, p.with(out).with(vals("none, i8")), context(), turn(), turnError(out))
	}
	p, out := within(opcode.If, 13), vals("f32, (ref null 4)")
	turns(t, p.with(vals("f32, (ref 5)")), nil, out)
	for _, on := range []string{"f32, (ref func)", "i32, (ref 5)", "i32", "f64, f32, i32"} {
		refuses(t, p.with(vals(on)), context(), turn(), api.ErrType)
		refuses(t, p.dead().with(vals(on)), context(), turn(), api.ErrType)
	}
}

// turnError is what is told of a last operand that goes for nothing.
func turnError(out []api.ValType) api.Errno {
	if len(out) == 0 {
		return api.ErrLeft
	}
	return api.ErrType
}

// Of a block that is no if's first part nothing else is asked.
func TestVC3TurnKind(t *testing.T) {
	for _, op := range []int{opcode.Block, opcode.Loop, opcode.Else, opcode.TryTable, 0, -1, 99} {
		for _, n := range []int{0, 3, 13} {
			_, out, _ := vctl.FuncType(context(), n)
			for _, on := range [][]api.ValType{nil, out, vals("i32")} {
				refuses(t, within(op, n).with(on), context(), turn(), api.ErrKind)
				refuses(t, within(op, n).dead().with(on), context(), turn(), api.ErrKind)
			}
		}
	}
}

// A first part that begins with what does not match itself, a type that is none, can't be begun again; that it can't be left is told ahead of that.
func TestVC3TurnAgain(t *testing.T) {
	for _, in := range [][]api.ValType{vals("(ref 99)"), {{Num: 99}}, vals("i32, (ref 99)"), {val("i32"), {Num: -1}, val("i64")}} {
		p := place(func() *stack.Checker {
			c := around()()
			for range in {
				c.Push(api.ValType{})
			}
			c.Enter(opcode.If, in, vals("i64"))
			c.Set(unset)
			return c
		})
		behind := p.dead()
		refuses(t, behind, context(), turn(), api.ErrType)
		refuses(t, behind.with(vals("i64")), context(), turn(), api.ErrType)
		refuses(t, behind.with(vals("f32, i64")), context(), turn(), api.ErrLeft)
		refuses(t, behind.with(vals("i32")), context(), turn(), api.ErrType)
		refuses(t, p.with(vals("i64")), context(), turn(), api.ErrLeft)
		under := place(func() *stack.Checker {
			c := p()
			for range in {
				c.Pop()
			}
			return c
		})
		refuses(t, under, context(), turn(), api.ErrUnder)
		refuses(t, under.with(vals("i64")), context(), turn(), api.ErrType)
	}
	// None of all is matched by itself, and by all else.
	c := around().with(vals("i32"))()
	must(t, c.Enter(opcode.If, vals("none"), nil), c.Unreachable(), vctl.Turn(c))
	if told(c.Operands()) != told(around().with(vals("none"))().Operands()) {
		t.Errorf("Turn of what begins with any type: %v", c.Operands())
	}
}
