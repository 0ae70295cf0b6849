package vctl_test

import (
	"slices"

	"ratchet/api"
	"ratchet/instr"
	"ratchet/stack"
	"ratchet/sub"
	"ratchet/types"
)

// oracle does what the chapter says, word by word, on a checker that may be thrown away: at the first error it gives up by a panic with it, whatever has been done till then.
type oracle struct {
	x api.Ctx
	c *stack.Checker
	i api.Instr
}

// expect tells the error that the chapter asks for; behind one the checker is spoilt.
func expect(x api.Ctx, c *stack.Checker, i api.Instr, do func(oracle)) (e api.Errno) {
	defer func() {
		if r := recover(); r != nil {
			e = r.(api.Errno)
		}
	}()
	do(oracle{x, c, i})
	return api.OK
}

// ask gives up with an error.
func ask(e api.Errno) {
	if e != api.OK {
		panic(e)
	}
}

// that gives up with an error where something does not hold.
func that(holds bool, e api.Errno) {
	if !holds {
		panic(e)
	}
}

// named is what a number names in a list.
func named[T any](l []T, n uint32) T {
	that(uint64(n) < uint64(len(l)), api.ErrIndex)
	return l[n]
}

// matches tells whether types match others, place by place.
func (o oracle) matches(a, b []api.ValType) bool {
	if len(a) != len(b) {
		return false
	}
	for n := range a {
		if !sub.Val(o.x.Types, a[n], b[n]) {
			return false
		}
	}
	return true
}

func (o oracle) pop(want api.ValType) api.ValType {
	v, e := o.c.PopType(want)
	ask(e)
	return v
}

func (o oracle) pops(l []api.ValType) {
	for _, v := range slices.Backward(l) {
		o.pop(v)
	}
}

func (o oracle) pushes(l []api.ValType) {
	for _, v := range l {
		ask(o.c.Push(v))
	}
}

func (o oracle) swap(in, out []api.ValType) {
	o.pops(in)
	o.pushes(out)
}

func (o oracle) label(n uint32) []api.ValType {
	l, e := o.c.Label(n)
	ask(e)
	return l
}

// function is a function type.
func (o oracle) function(n int) api.CompType {
	that(0 <= n && n < types.Count(o.x.Types), api.ErrIndex)
	s, _, _, _ := types.At(o.x.Types, n)
	that(s.Comp.Kind == api.CFunc, api.ErrKind)
	return s.Comp
}

// blockType is what a block begins and ends with.
func (o oracle) blockType() (in, out []api.ValType) {
	b := o.i.Block
	if b.Type >= 0 {
		f := o.function(b.Type)
		return f.Params, f.Results
	}
	if b.Result.Num == api.TNone {
		return nil, nil
	}
	that(b.Result.Num != api.TRef || -12 <= b.Result.Heap && b.Result.Heap < types.Count(o.x.Types), api.ErrIndex)
	return nil, []api.ValType{b.Result}
}

func (o oracle) step() {
	switch name := instr.Name(o.i.Op); name {
	case "unreachable":
	case "nop":
		return
	case "throw":
		o.pops(o.function(named(o.x.Tags, o.i.X)).Params)
	case "throw_ref":
		o.pop(val("(ref null exn)"))
	case "br":
		o.pops(o.label(o.i.X))
	case "br_if":
		l := o.label(o.i.X)
		o.pop(val("i32"))
		o.swap(l, l)
		return
	case "br_table":
		o.table()
	case "return":
		o.pops(o.c.Results())
	case "call", "call_indirect", "call_ref", "return_call", "return_call_indirect", "return_call_ref":
		o.call(name)
		return
	case "br_on_null":
		o.onNull()
		return
	case "br_on_non_null":
		o.onNonNull()
		return
	default:
		panic(api.ErrNone)
	}
	ask(o.c.Unreachable())
}

// table tries each label's types, laying back what lay there ahead of trying the next one's.
func (o oracle) table() {
	all := append(slices.Clone(o.i.Labels), o.i.X)
	for _, n := range all {
		o.label(n)
	}
	for _, n := range all {
		that(len(o.label(n)) == len(o.label(o.i.X)), api.ErrArity)
	}
	o.pop(val("i32"))
	for _, n := range all {
		before := o.c.Operands()
		o.pops(o.label(n))
		o.pushes(before[o.c.Height():])
	}
}

func (o oracle) call(name string) {
	var f api.CompType
	var last []api.ValType
	tail := name[:4] == "retu"
	switch name {
	case "call", "return_call":
		f = o.function(named(o.x.Funcs, o.i.X))
	case "call_indirect", "return_call_indirect":
		t := named(o.x.Tables, o.i.Y)
		that(sub.Val(o.x.Types, t.Elem, val("(ref null func)")), api.ErrType)
		f = o.function(int(o.i.X))
		last = vals("i32")
		if t.Limits.Wide {
			last = vals("i64")
		}
	default:
		f = o.function(int(o.i.X))
		last = []api.ValType{{Num: api.TRef, Null: true, Heap: int(o.i.X)}}
	}
	that(!tail || o.matches(f.Results, o.c.Results()), api.ErrType)
	o.pops(last)
	o.pops(f.Params)
	if tail {
		ask(o.c.Unreachable())
	} else {
		o.pushes(f.Results)
	}
}

// reference is an operand that is a reference, or any type.
func (o oracle) reference() api.ValType {
	v, e := o.c.Pop()
	ask(e)
	that(v.Num == api.TRef || v.Num == api.TNone, api.ErrType)
	v.Null = false
	return v
}

func (o oracle) onNull() {
	l := o.label(o.i.X)
	v := o.reference()
	o.swap(l, l)
	ask(o.c.Push(v))
}

func (o oracle) onNonNull() {
	l := o.label(o.i.X)
	that(len(l) > 0 && l[len(l)-1].Num == api.TRef, api.ErrType)
	last, ahead := l[len(l)-1], l[:len(l)-1]
	v := o.reference()
	that(v.Num == api.TNone || sub.Val(o.x.Types, v, last), api.ErrType)
	o.swap(ahead, ahead)
}

func (o oracle) open() {
	name := instr.Name(o.i.Op)
	that(name == "block" || name == "loop" || name == "if" || name == "try_table", api.ErrNone)
	in, out := o.blockType()
	if name == "try_table" {
		for _, k := range o.i.Catches {
			o.clause(k)
		}
	}
	if name == "if" {
		o.pop(val("i32"))
	}
	ask(o.c.Enter(o.i.Op, in, out))
}

func (o oracle) clause(k api.Catch) {
	that(0 <= k.Kind && k.Kind <= 3, api.ErrForm)
	if k.Kind <= 1 {
		named(o.x.Tags, k.Tag)
	}
	l := o.label(k.Label)
	var gives []api.ValType
	if k.Kind <= 1 {
		gives = slices.Clone(o.function(o.x.Tags[k.Tag]).Params)
	}
	if k.Kind%2 == 1 {
		gives = append(gives, val("(ref exn)"))
	}
	that(o.matches(gives, l), api.ErrType)
}

func (o oracle) turn() {
	op, in, out, e := o.c.Last()
	ask(e)
	that(op == 4, api.ErrKind)
	_, _, _, e = o.c.Leave()
	ask(e)
	o.pushes(in)
	ask(o.c.Enter(5, in, out))
}

func (o oracle) close() {
	op, in, out, e := o.c.Last()
	ask(e)
	if op == 4 {
		that(len(in) == len(out), api.ErrArity)
		that(o.matches(in, out), api.ErrType)
	}
	_, _, _, e = o.c.Leave()
	ask(e)
	if !o.c.Done() {
		o.pushes(out)
	}
}
