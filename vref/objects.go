package vref

import (
	"slices"

	"ratchet/api"
	"ratchet/scope"
	"ratchet/stack"
	"ratchet/types"
)

// makes takes operands away and lays the new object of the type X in their place, if nothing speaks against it.
func makes(i api.Instr, takes func() ([]api.ValType, api.Errno)) step {
	return func(c *stack.Checker) api.Errno {
		in, e := takes()
		if e != api.OK {
			return e
		}
		return c.Swap(in, list(defined(false, i.X)))
	}
}

func structNew(x api.Ctx, i api.Instr) step {
	return makes(i, func() ([]api.ValType, api.Errno) {
		l, e := fields(x, i.X)
		var in []api.ValType
		for _, f := range l {
			in = append(in, types.Unpack(f.Type))
		}
		return in, e
	})
}

func structNewDefault(x api.Ctx, i api.Instr) step {
	return makes(i, func() ([]api.ValType, api.Errno) {
		l, e := fields(x, i.X)
		if slices.ContainsFunc(l, noDefault) {
			e = api.ErrDefault
		}
		return nil, e
	})
}

func arrayNew(x api.Ctx, i api.Instr) step {
	return makes(i, func() ([]api.ValType, api.Errno) {
		f, e := element(x, i.X)
		return list(types.Unpack(f.Type), scope.I32()), e
	})
}

func arrayNewDefault(x api.Ctx, i api.Instr) step {
	return makes(i, func() ([]api.ValType, api.Errno) {
		f, e := element(x, i.X)
		if e == api.OK && noDefault(f) {
			e = api.ErrDefault
		}
		return list(scope.I32()), e
	})
}

func arrayNewFixed(x api.Ctx, i api.Instr) step {
	return makes(i, func() ([]api.ValType, api.Errno) {
		f, e := element(x, i.X)
		switch {
		case e != api.OK:
			return nil, e
		case i.N > api.MaxFields:
			return nil, api.ErrLong
		}
		return slices.Repeat(list(types.Unpack(f.Type)), int(i.N)), api.OK
	})
}

// arrayNewFrom makes an array of a part of the segment Y: of where it begins, and of how much.
func arrayNewFrom(x api.Ctx, i api.Instr, against source) step {
	return makes(i, func() ([]api.ValType, api.Errno) {
		f, e := element(x, i.X)
		if e == api.OK {
			e = against(x, i.Y, f)
		}
		return list(scope.I32(), scope.I32()), e
	})
}

// noDefault tells whether a field can't be made without a value being told.
func noDefault(f api.Field) bool { return !types.Default(f.Type) }
