package vref

import (
	"ratchet/api"
	"ratchet/scope"
	"ratchet/stack"
	"ratchet/sub"
	"ratchet/types"
)

// source tells what speaks against an array's elements coming from the segment of a number.
type source func(x api.Ctx, n uint32, f api.Field) api.Errno

// fromData is the source of bytes.
func fromData(x api.Ctx, n uint32, f api.Field) api.Errno {
	if f.Type.Num == api.TRef {
		return api.ErrBits
	}
	return scope.Below(n, x.Datas)
}

// fromElem is the source of references.
func fromElem(x api.Ctx, n uint32, f api.Field) api.Errno {
	v, e := scope.At(x.Elems, n)
	switch {
	case e != api.OK:
		return e
	case !sub.Val(x.Types, v, f.Type):
		return api.ErrType
	}
	return api.OK
}

// settable tells the element of an array type, if it may be set.
func settable(x api.Ctx, n uint32) (api.Field, api.Errno) {
	f, e := element(x, n)
	if e == api.OK && !f.Mut {
		e = api.ErrMutable
	}
	return f, e
}

func arrayFill(x api.Ctx, i api.Instr) step {
	return func(c *stack.Checker) api.Errno {
		f, e := settable(x, i.X)
		if e != api.OK {
			return e
		}
		return c.Pops(list(defined(true, i.X), scope.I32(), types.Unpack(f.Type), scope.I32()))
	}
}

func arrayCopy(x api.Ctx, i api.Instr) step {
	return func(c *stack.Checker) api.Errno {
		to, e := element(x, i.X)
		if e != api.OK {
			return e
		}
		from, e := element(x, i.Y)
		switch {
		case e != api.OK:
			return e
		case !to.Mut:
			return api.ErrMutable
		case !sub.Val(x.Types, from.Type, to.Type):
			return api.ErrType
		}
		return c.Pops(list(defined(true, i.X), scope.I32(), defined(true, i.Y), scope.I32(), scope.I32()))
	}
}

// arrayInitFrom sets a part of an array to a part of the segment Y: where it begins in each, and how much.
func arrayInitFrom(x api.Ctx, i api.Instr, against source) step {
	return func(c *stack.Checker) api.Errno {
		f, e := settable(x, i.X)
		if e != api.OK {
			return e
		}
		if e = against(x, i.Y, f); e != api.OK {
			return e
		}
		return c.Pops(list(defined(true, i.X), scope.I32(), scope.I32(), scope.I32()))
	}
}
