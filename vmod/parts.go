package vmod

import (
	"math"
	"slices"

	"ratchet/api"
	"ratchet/scope"
	"ratchet/types"
	"ratchet/vctl"
)

// canBe tells whether a value type is one of those outside of fields.
func canBe(v api.ValType) bool { return api.TI32 <= v.Num && v.Num <= api.TRef }

// canBeField tells likewise of fields.
func canBeField(f api.Field) bool { return canBe(types.Unpack(f.Type)) }

// canBeComp tells whether a composite type has a kind, and what that asks for.
func canBeComp(c api.CompType) bool {
	switch c.Kind {
	case api.CFunc:
		return allCanBe(c.Params, canBe) && allCanBe(c.Results, canBe)
	case api.CArray:
		return len(c.Fields) == 1 && canBeField(c.Fields[0])
	case api.CStruct:
		return allCanBe(c.Fields, canBeField)
	}
	return false
}

func allCanBe[T any](l []T, can func(T) bool) bool {
	return !slices.ContainsFunc(l, func(one T) bool { return !can(one) })
}

// known tells what speaks against a type of which only what it speaks of is left to be asked.
func known(x api.Ctx, v api.ValType) api.Errno {
	if !scope.Known(x.Types, v) {
		return api.ErrIndex
	}
	return api.OK
}

// limits tells what speaks against limits whose numbers may not pass one number.
func limits(l api.Limits, most uint64) api.Errno {
	top := l.Min
	if l.HasMax {
		top = l.Max
	}
	if l.Min > top || top > most {
		return api.ErrLimits
	}
	return api.OK
}

// memory tells what speaks against a memory.
func memory(l api.Limits) api.Errno {
	if l.Wide {
		return limits(l, 1<<48)
	}
	return limits(l, 1<<16)
}

// table tells what speaks against a table's type.
func table(x api.Ctx, t api.TableType) api.Errno {
	most := uint64(math.MaxUint32)
	if t.Limits.Wide {
		most = math.MaxUint64
	}
	if t.Elem.Num != api.TRef {
		return api.ErrForm
	}
	if e := limits(t.Limits, most); e != api.OK {
		return e
	}
	return known(x, t.Elem)
}

// global tells what speaks against a global's type.
func global(x api.Ctx, g api.GlobalType) api.Errno {
	if !canBe(g.Type) {
		return api.ErrForm
	}
	return known(x, g.Type)
}

// function tells what speaks against a function's type.
func function(x api.Ctx, n int) api.Errno {
	_, _, e := vctl.FuncType(x, n)
	return e
}

// tag tells what speaks against a tag's type.
func tag(x api.Ctx, n int) api.Errno {
	_, results, e := vctl.FuncType(x, n)
	switch {
	case e != api.OK:
		return e
	case len(results) > 0:
		return api.ErrTag
	}
	return api.OK
}
