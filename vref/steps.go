package vref

import (
	"ratchet/api"
	"ratchet/opcode"
	"ratchet/scope"
	"ratchet/stack"
)

// step is what an instruction asks of a checker's stacks, and does there.
type step func(c *stack.Checker) api.Errno

// stepOf tells an instruction's step in a context; none, if it is another layer's.
func stepOf(x api.Ctx, i api.Instr) step {
	switch i.Op {
	case opcode.RefNull:
		return null(x, i)
	case opcode.RefIsNull:
		return turns(popRef, test)
	case opcode.RefFunc:
		return function(x, i)
	case opcode.RefEq:
		return swaps(list(abstract(true, api.HEq), abstract(true, api.HEq)), list(scope.I32()))
	case opcode.RefAsNonNull:
		return turns(popRef, nonNull)
	case opcode.StructNew:
		return structNew(x, i)
	case opcode.StructNewDefault:
		return structNewDefault(x, i)
	case opcode.StructGet, opcode.StructGetS, opcode.StructGetU, opcode.StructSet,
		opcode.ArrayGet, opcode.ArrayGetS, opcode.ArrayGetU, opcode.ArraySet:
		return atField(x, i)
	case opcode.ArrayNew:
		return arrayNew(x, i)
	case opcode.ArrayNewDefault:
		return arrayNewDefault(x, i)
	case opcode.ArrayNewFixed:
		return arrayNewFixed(x, i)
	case opcode.ArrayNewData:
		return arrayNewFrom(x, i, fromData)
	case opcode.ArrayNewElem:
		return arrayNewFrom(x, i, fromElem)
	case opcode.ArrayLen:
		return swaps(list(abstract(true, api.HArray)), list(scope.I32()))
	case opcode.ArrayFill:
		return arrayFill(x, i)
	case opcode.ArrayCopy:
		return arrayCopy(x, i)
	case opcode.ArrayInitData:
		return arrayInitFrom(x, i, fromData)
	case opcode.ArrayInitElem:
		return arrayInitFrom(x, i, fromElem)
	}
	return stepOfCast(x, i)
}

// stepOfCast is stepOf of what makes a reference to something into one to something else.
func stepOfCast(x api.Ctx, i api.Instr) step {
	switch i.Op {
	case opcode.RefTest, opcode.RefTestNull, opcode.RefCast, opcode.RefCastNull:
		return cast(x, i)
	case opcode.BrOnCast, opcode.BrOnCastFail:
		return branch(x, i)
	case opcode.AnyConvertExtern:
		return converts(api.HExtern, api.HAny)
	case opcode.ExternConvertAny:
		return converts(api.HAny, api.HExtern)
	case opcode.RefI31:
		return swaps(list(scope.I32()), list(abstract(false, api.HI31)))
	case opcode.I31GetS, opcode.I31GetU:
		return swaps(list(abstract(true, api.HI31)), list(scope.I32()))
	}
	return nil
}

// swaps takes operands away and lays others in their place, whatever the context is.
func swaps(in, out []api.ValType) step {
	return func(c *stack.Checker) api.Errno { return c.Swap(in, out) }
}

// turns takes the last operand away and lays in its place what is made of it.
func turns(pop func(*stack.Checker) (api.ValType, api.Errno), into func(api.ValType) api.ValType) step {
	return func(c *stack.Checker) api.Errno {
		v, e := pop(c)
		if e != api.OK {
			return e
		}
		return c.Push(into(v))
	}
}

// list tells types as a list, as the checker takes them.
func list(l ...api.ValType) []api.ValType { return l }

// abstract is the type of references to an abstract heap type.
func abstract(null bool, heap int) api.ValType {
	return api.ValType{Num: api.TRef, Null: null, Heap: heap}
}

// defined is the type of references to a defined type.
func defined(null bool, n uint32) api.ValType {
	return api.ValType{Num: api.TRef, Null: null, Heap: int(n)}
}
