package stack_test

import (
	"slices"

	"ratchet/api"
	"ratchet/sub"
	"ratchet/types"
)

// oracle does what the chapter's words say, on copies of all that it holds: what is refused is never laid down.
type oracle struct {
	l        []api.RecType
	results  []api.ValType
	locals   []api.ValType
	set      []bool
	operands []api.ValType
	frames   []block
}

type block struct {
	op       int
	in, out  []api.ValType
	height   int
	set      []bool
	notThere bool // its rest is not reached
}

func newOracle(l []api.RecType, params, locals, results []api.ValType) *oracle {
	o := &oracle{l: l, results: slices.Clone(results), locals: slices.Concat(params, locals)}
	for n, v := range o.locals {
		o.set = append(o.set, n < len(params) || types.Default(v))
	}
	o.frames = []block{{op: 2, out: o.results, set: slices.Clone(o.set)}}
	return o
}

// trial is an oracle on which calls can be tried.
func (o *oracle) trial() *oracle {
	return &oracle{o.l, o.results, o.locals, slices.Clone(o.set), slices.Clone(o.operands), slices.Clone(o.frames)}
}

// on lays down what a trial came to, if nothing was refused.
func (o *oracle) on(call func(o *oracle) api.Errno) api.Errno {
	x := o.trial()
	e := call(x)
	if e == api.OK {
		*o = *x
	}
	return e
}

func (o *oracle) Push(v api.ValType) api.Errno {
	if o.Done() {
		return api.ErrBlock
	}
	o.operands = append(o.operands, v)
	return api.OK
}

func (o *oracle) Pop() (api.ValType, api.Errno) {
	height := 0
	if !o.Done() {
		height = o.frames[len(o.frames)-1].height
	}
	if len(o.operands) == height {
		if o.Reached() {
			return api.ValType{}, api.ErrUnder
		}
		return api.ValType{}, api.OK
	}
	v := o.operands[len(o.operands)-1]
	o.operands = o.operands[:len(o.operands)-1]
	return v, api.OK
}

func (o *oracle) PopType(v api.ValType) (api.ValType, api.Errno) {
	var popped api.ValType
	e := o.on(func(o *oracle) api.Errno {
		var e api.Errno
		if popped, e = o.Pop(); e != api.OK {
			return e
		}
		if popped.Num == api.TNone || v.Num == api.TNone || sub.Val(o.l, popped, v) {
			return api.OK
		}
		return api.ErrType
	})
	if e != api.OK {
		return api.ValType{}, e
	}
	return popped, api.OK
}

func (o *oracle) Pushes(l []api.ValType) api.Errno {
	return o.on(func(o *oracle) api.Errno {
		for _, v := range l {
			if e := o.Push(v); e != api.OK {
				return e
			}
		}
		return api.OK
	})
}

func (o *oracle) Pops(l []api.ValType) api.Errno {
	return o.on(func(o *oracle) api.Errno {
		for n := len(l) - 1; n >= 0; n-- {
			if _, e := o.PopType(l[n]); e != api.OK {
				return e
			}
		}
		return api.OK
	})
}

func (o *oracle) Swap(in, out []api.ValType) api.Errno {
	return o.on(func(o *oracle) api.Errno {
		if e := o.Pops(in); e != api.OK {
			return e
		}
		return o.Pushes(out)
	})
}

func (o *oracle) Enter(op int, in, out []api.ValType) api.Errno {
	return o.on(func(o *oracle) api.Errno {
		if o.Done() {
			return api.ErrBlock
		}
		if e := o.Pops(in); e != api.OK {
			return e
		}
		o.frames = append(o.frames, block{op, slices.Clone(in), slices.Clone(out), len(o.operands), slices.Clone(o.set), false})
		return o.Pushes(in)
	})
}

func (o *oracle) Leave() (int, []api.ValType, []api.ValType, api.Errno) {
	op, in, out, e := o.Last()
	if e != api.OK {
		return 0, nil, nil, e
	}
	e = o.on(func(o *oracle) api.Errno {
		f := o.frames[len(o.frames)-1]
		if e := o.Pops(f.out); e != api.OK {
			return e
		}
		if len(o.operands) > f.height {
			return api.ErrLeft
		}
		o.frames, o.set = o.frames[:len(o.frames)-1], f.set
		return api.OK
	})
	if e != api.OK {
		return 0, nil, nil, e
	}
	return op, in, out, api.OK
}

func (o *oracle) Last() (int, []api.ValType, []api.ValType, api.Errno) {
	if o.Done() {
		return 0, nil, nil, api.ErrBlock
	}
	f := o.frames[len(o.frames)-1]
	return f.op, slices.Clone(f.in), slices.Clone(f.out), api.OK
}

func (o *oracle) Unreachable() api.Errno {
	if o.Done() {
		return api.ErrBlock
	}
	f := &o.frames[len(o.frames)-1]
	o.operands, f.notThere = o.operands[:f.height], true
	return api.OK
}

func (o *oracle) Label(n uint32) ([]api.ValType, api.Errno) {
	for i, f := range slices.Backward(o.frames) {
		if len(o.frames)-1-i != int(n) {
			continue
		}
		if f.op == 3 {
			return slices.Clone(f.in), api.OK
		}
		return slices.Clone(f.out), api.OK
	}
	return nil, api.ErrBlock
}

func (o *oracle) Results() []api.ValType { return slices.Clone(o.results) }

func (o *oracle) Local(n uint32) (api.ValType, api.Errno) {
	if int(n) >= len(o.locals) {
		return api.ValType{}, api.ErrArg
	}
	return o.locals[n], api.OK
}

func (o *oracle) Get(n uint32) (api.ValType, api.Errno) {
	if int(n) < len(o.locals) && !o.set[n] {
		return api.ValType{}, api.ErrUnset
	}
	return o.Local(n)
}

func (o *oracle) Set(n uint32) (api.ValType, api.Errno) {
	if int(n) < len(o.locals) {
		o.set[n] = true
	}
	return o.Local(n)
}

func (o *oracle) Depth() int              { return len(o.frames) }
func (o *oracle) Height() int             { return len(o.operands) }
func (o *oracle) Operands() []api.ValType { return slices.Clone(o.operands) }
func (o *oracle) Done() bool              { return len(o.frames) == 0 }
func (o *oracle) Reached() bool           { return o.Done() || !o.frames[len(o.frames)-1].notThere }
