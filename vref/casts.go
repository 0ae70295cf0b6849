package vref

import (
	"slices"

	"ratchet/api"
	"ratchet/opcode"
	"ratchet/scope"
	"ratchet/stack"
	"ratchet/sub"
)

// cast checks a test and a cast, which take the same operands.
func cast(x api.Ctx, i api.Instr) step {
	return func(c *stack.Checker) api.Errno {
		if len(i.Types) < 1 {
			return api.ErrArg
		}
		to := i.Types[0]
		if !speaks(x, to) {
			return api.ErrIndex
		}
		top, e := sub.Top(x.Types, to.Heap)
		if e != api.OK {
			// A type of no kind is of no family, so that there is none of which an operand could be.
			return api.ErrIndex
		}
		out := to
		if i.Op == opcode.RefTest || i.Op == opcode.RefTestNull {
			out = scope.I32()
		}
		return c.Swap(list(abstract(true, top)), list(out))
	}
}

// branch checks a branch that hangs on a cast: what goes along to the label, and what stays, are the two parts of what the operand may be.
func branch(x api.Ctx, i api.Instr) step {
	return func(c *stack.Checker) api.Errno {
		if len(i.Types) < 2 {
			return api.ErrArg
		}
		from, to := i.Types[0], i.Types[1]
		l, e := c.Label(i.X)
		if e != api.OK {
			return e
		}
		last := len(l) - 1
		switch {
		case last < 0 || l[last].Num != api.TRef:
			return api.ErrType
		case !speaks(x, from) || !speaks(x, to):
			return api.ErrIndex
		}
		goes, stays := to, sub.Diff(from, to)
		if i.Op == opcode.BrOnCastFail {
			goes, stays = stays, goes
		}
		if !sub.Val(x.Types, to, from) || !sub.Val(x.Types, goes, l[last]) {
			return api.ErrType
		}
		// Popped and pushed by one call, so that a refusal leaves nothing to lay back.
		return c.Swap(slices.Concat(l[:last], list(from)), slices.Concat(l[:last], list(stays)))
	}
}
