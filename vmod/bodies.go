package vmod

import (
	"ratchet/api"
	"ratchet/code"
	"ratchet/nesting"
	"ratchet/scope"
	"ratchet/stack"
	"ratchet/vctl"
	"ratchet/vnum"
	"ratchet/vref"
)

// walk goes through a body, or an expression, on a checker.
type walk struct {
	x     api.Ctx
	c     *stack.Checker
	ahead asking
}

// asking is what is asked ahead of the step of the instruction of a number.
type asking func(c *stack.Checker, number int) api.Errno

// noMore asks nothing.
func noMore(*stack.Checker, int) api.Errno { return api.OK }

// body tells the first fault of a function's body.
func body(x api.Ctx, f api.Func, ahead asking) error {
	params, results, e := vctl.FuncType(x, f.Type)
	if e != api.OK {
		return stepFault{0, e}
	}
	locals, e := localsOf(x, f.Locals)
	if e != api.OK {
		return stepFault{0, e}
	}
	return walk{x, stack.New(x.Types, params, locals, results), ahead}.through(f.Body)
}

// localsOf tells the type of each local.
func localsOf(x api.Ctx, l []api.Local) ([]api.ValType, api.Errno) {
	why := api.OK
	for _, run := range l {
		switch {
		case run.Count == 0: // there is no such local
		case !canBe(run.Type):
			return nil, api.ErrForm
		case !scope.Known(x.Types, run.Type):
			why = api.ErrIndex
		}
	}
	if why != api.OK {
		return nil, why
	}
	return code.Expand(l)
}

// expression tells the first fault of a constant expression.
func expression(x api.Ctx, l []api.Instr, v api.ValType, globals int) error {
	first, why := vref.Const(x, l, globals)
	ahead := func(_ *stack.Checker, number int) api.Errno {
		if number == first {
			return why
		}
		return api.OK
	}
	return walk{x, stack.New(x.Types, nil, nil, []api.ValType{v}), ahead}.through(l)
}

// through tells the first fault of a list and its end.
func (w walk) through(l []api.Instr) error {
	for ev := range events(l) {
		if e := w.take(ev); e != api.OK {
			return stepFault{ev.number, e}
		}
	}
	return nil
}

func (w walk) take(ev event) api.Errno {
	switch ev.kind {
	case turns:
		return vctl.Turn(w.c)
	case closes:
		return vctl.Close(w.x, w.c)
	}
	if !nesting.Fits(ev.instr) {
		return api.ErrForm
	}
	if e := w.ahead(w.c, ev.number); e != api.OK {
		return e
	}
	return w.step(ev.instr)
}

// step asks the layers below one after the other, of which each knows instructions of its own.
func (w walk) step(i api.Instr) api.Errno {
	if nesting.Has(i.Op) {
		return vctl.Open(w.x, w.c, i)
	}
	for _, known := range []func(api.Ctx, *stack.Checker, api.Instr) api.Errno{vnum.Step, vctl.Step, vref.Step} {
		if e := known(w.x, w.c, i); e != api.ErrNone {
			return e
		}
	}
	return api.ErrForm
}
