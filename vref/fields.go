package vref

import (
	"ratchet/api"
	"ratchet/opcode"
	"ratchet/scope"
	"ratchet/stack"
	"ratchet/types"
)

// access is how an instruction goes at one field of an object.
type access struct {
	kind   int  // of the type that has the field
	set    bool // the field is set; else it is got
	packed bool // what is got is extended
}

// accessOf tells how an instruction that speaks of one field goes at it.
func accessOf(op int) access {
	a := access{kind: api.CStruct}
	switch op {
	case opcode.ArraySet:
		a.kind = api.CArray
		fallthrough
	case opcode.StructSet:
		a.set = true
	case opcode.ArrayGetS, opcode.ArrayGetU:
		a.kind = api.CArray
		fallthrough
	case opcode.StructGetS, opcode.StructGetU:
		a.packed = true
	case opcode.ArrayGet:
		a.kind = api.CArray
	}
	return a
}

// against tells what speaks against going at a field: each may be got in just one way, and set in just one, if at all.
func (a access) against(f api.Field) api.Errno {
	got := access{kind: a.kind, packed: packed(f.Type)}
	set := access{kind: a.kind, set: true}
	switch {
	case a == got, a == set && f.Mut:
		return api.OK
	case a == set:
		return api.ErrMutable
	}
	return api.ErrPacked
}

// field tells the field of which an instruction speaks.
func (a access) field(x api.Ctx, i api.Instr) (api.Field, api.Errno) {
	if a.kind == api.CArray {
		return element(x, i.X)
	}
	l, e := fields(x, i.X)
	if e != api.OK {
		return api.Field{}, e
	}
	return scope.At(l, i.Y)
}

// atField checks what gets or sets one field, a struct's or an array's.
func atField(x api.Ctx, i api.Instr) step {
	a := accessOf(i.Op)
	return func(c *stack.Checker) api.Errno {
		f, e := a.field(x, i)
		if e != api.OK {
			return e
		}
		if e = a.against(f); e != api.OK {
			return e
		}
		in, v := list(defined(true, i.X)), types.Unpack(f.Type)
		if a.kind == api.CArray {
			in = append(in, scope.I32())
		}
		if a.set {
			return c.Pops(append(in, v))
		}
		return c.Swap(in, list(v))
	}
}

// fields tells the fields of a struct type.
func fields(x api.Ctx, n uint32) ([]api.Field, api.Errno) {
	t, e := scope.Comp(x.Types, int(n), api.CStruct)
	return t.Fields, e
}

// element tells the element of an array type. What has not just one field is no array.
func element(x api.Ctx, n uint32) (api.Field, api.Errno) {
	t, e := scope.Comp(x.Types, int(n), api.CArray)
	switch {
	case e != api.OK:
		return api.Field{}, e
	case len(t.Fields) != 1:
		return api.Field{}, api.ErrKind
	}
	return t.Fields[0], api.OK
}

// packed tells whether a field holds fewer bits than its value has outside of it.
func packed(v api.ValType) bool { return v.Num == api.T8 || v.Num == api.T16 }
