package vref

import (
	"ratchet/api"
	"ratchet/scope"
	"ratchet/stack"
)

// speaks tells whether a type is that of references to something that there is.
func speaks(x api.Ctx, v api.ValType) bool { return v.Num == api.TRef && scope.Known(x.Types, v) }

func null(x api.Ctx, i api.Instr) step {
	return func(c *stack.Checker) api.Errno {
		switch {
		case len(i.Types) < 1:
			return api.ErrArg
		case !speaks(x, i.Types[0]):
			return api.ErrIndex
		}
		return c.Push(abstract(true, i.Types[0].Heap))
	}
}

func function(x api.Ctx, i api.Instr) step {
	return func(c *stack.Checker) api.Errno {
		t, e := scope.At(x.Funcs, i.X)
		if e != api.OK {
			return e
		}
		// Of a function of which the context does not tell whether it may be named, it is not said that it may.
		if may, _ := scope.At(x.Refs, i.X); !may {
			return api.ErrRef
		}
		return c.Push(abstract(false, t))
	}
}

// popRef takes the last operand away, if it is a reference, or any type.
func popRef(c *stack.Checker) (api.ValType, api.Errno) {
	v, e := c.Pop()
	if e == api.OK && v.Num != api.TRef && v.Num != api.TNone {
		// It was there: where it is not reached, what is not there is any type.
		c.Push(v)
		return api.ValType{}, api.ErrType
	}
	return v, e
}

// test is what is pushed of a reference that has been looked at.
func test(api.ValType) api.ValType { return scope.I32() }

// nonNull is what is left of an operand behind its being null has been ruled out.
func nonNull(v api.ValType) api.ValType {
	if v.Num == api.TRef {
		v.Null = false
	}
	return v
}

// converts makes references from outside into such from within, or the other way round; null stays null.
func converts(from, to int) step {
	pop := func(c *stack.Checker) (api.ValType, api.Errno) { return c.PopType(abstract(true, from)) }
	return turns(pop, func(v api.ValType) api.ValType {
		return abstract(v.Num == api.TRef && v.Null, to)
	})
}
