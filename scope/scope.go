// Package scope finds what an instruction speaks of in what a module's code may name, for the layers that check instructions.
package scope

import (
	"ratchet/api"
	"ratchet/types"
)

// At finds what an index names.
func At[T any](l []T, n uint32) (T, api.Errno) {
	if uint64(n) >= uint64(len(l)) {
		var none T
		return none, api.ErrIndex
	}
	return l[n], api.OK
}

// Below asks that a number be below a count: of some things a context tells only how many there are.
func Below(n uint32, count int) api.Errno {
	if int64(n) >= int64(count) {
		return api.ErrIndex
	}
	return api.OK
}

// Comp finds the composite type of a defined type that must be of a kind.
func Comp(l []api.RecType, n, kind int) (api.CompType, api.Errno) {
	t, _, _, e := types.At(l, n)
	switch {
	case e != api.OK:
		return api.CompType{}, api.ErrIndex
	case t.Comp.Kind != kind:
		return api.CompType{}, api.ErrKind
	}
	return t.Comp, api.OK
}

// Known tells whether a type speaks only of types that there are. What stands beside a number counts for nothing.
func Known(l []api.RecType, v api.ValType) bool {
	switch {
	case v.Num != api.TRef:
		return true
	case v.Heap < 0:
		return v.Heap >= api.HNoExn
	}
	return v.Heap < types.Count(l)
}

// Addr tells the type of an address of a table or a memory.
func Addr(l api.Limits) api.ValType {
	if l.Wide {
		return api.ValType{Num: api.TI64}
	}
	return I32()
}

// I32 is the type of all that is no address, and is asked, counted or chosen by.
func I32() api.ValType { return api.ValType{Num: api.TI32} }
