package vctl

import (
	"slices"

	"ratchet/api"
	"ratchet/opcode"
	"ratchet/stack"
	"ratchet/sub"
)

// step is an instruction at one place of a function's code, and the operands that it has popped so far.
type step struct {
	hand
	x api.Ctx
	i api.Instr
}

// steps tells what each instruction that begins no block asks and does.
func steps() map[int]func(*step) api.Errno {
	return map[int]func(*step) api.Errno{
		opcode.Unreachable:        (*step).unreachable,
		opcode.Nop:                (*step).nop,
		opcode.Throw:              (*step).throw,
		opcode.ThrowRef:           (*step).throwRef,
		opcode.Br:                 (*step).br,
		opcode.BrIf:               (*step).brIf,
		opcode.BrTable:            (*step).brTable,
		opcode.Return:             (*step).giveBack,
		opcode.Call:               (*step).call,
		opcode.ReturnCall:         (*step).returnCall,
		opcode.CallIndirect:       (*step).callIndirect,
		opcode.ReturnCallIndirect: (*step).returnCallIndirect,
		opcode.CallRef:            (*step).callRef,
		opcode.ReturnCallRef:      (*step).returnCallRef,
		opcode.BrOnNull:           (*step).brOnNull,
		opcode.BrOnNonNull:        (*step).brOnNonNull,
	}
}

// blocks tells what the beginning of each block asks and does.
func blocks() map[int]func(*step) api.Errno {
	return map[int]func(*step) api.Errno{
		opcode.Block:    (*step).block,
		opcode.Loop:     (*step).block,
		opcode.If:       (*step).choice,
		opcode.TryTable: (*step).guarded,
	}
}

// take does what a table tells of an instruction; where that is refused, what it has popped goes back.
func take(x api.Ctx, c *stack.Checker, i api.Instr, table map[int]func(*step) api.Errno) api.Errno {
	s := &step{hand: hand{c: c}, x: x, i: i}
	do, ok := table[i.Op]
	// Of no operands a checker refuses nothing but that no call made it.
	e := c.Pops(nil)
	if e != api.OK {
		goto refused
	}
	if !ok {
		e = api.ErrNone
		goto refused
	}
	if e = do(s); e != api.OK {
		goto refused
	}
	return api.OK
refused:
	s.back()
	return e
}

// list tells types as a list, as the checker takes them.
func list(l ...api.ValType) []api.ValType { return l }

// match tells whether types match others, place by place. Where there are numbers alone they are asked one by one, since of lists sub goes over all of the module's types.
func match(l []api.RecType, a, b []api.ValType) bool {
	if slices.ContainsFunc(a, isRef) {
		return sub.Vals(l, a, b)
	}
	return slices.EqualFunc(a, b, func(v, w api.ValType) bool { return sub.Val(l, v, w) })
}

func isRef(v api.ValType) bool { return v.Num == api.TRef }
