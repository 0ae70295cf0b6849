package vctl

import (
	"slices"

	"ratchet/api"
	"ratchet/stack"
)

// hand holds operands that have been popped of a checker, so that they can be laid back.
type hand struct {
	c    *stack.Checker
	held []api.ValType // the one that was popped first ahead
}

// pop takes the last operand away.
func (h *hand) pop() (api.ValType, api.Errno) {
	height := h.c.Height()
	v, e := h.c.Pop()
	h.hold(height, v)
	return v, e
}

// popType takes the last operand away, if it matches a type.
func (h *hand) popType(want api.ValType) api.Errno {
	height := h.c.Height()
	v, e := h.c.PopType(want)
	h.hold(height, v)
	return e
}

// hold keeps an operand, if one was there: where it is not reached, there may be none.
func (h *hand) hold(height int, v api.ValType) {
	if h.c.Height() < height {
		h.held = append(h.held, v)
	}
}

// pops takes operands away that match types, from the last one on.
func (h *hand) pops(l []api.ValType) api.Errno {
	for _, v := range slices.Backward(l) {
		if e := h.popType(v); e != api.OK {
			return e
		}
	}
	return api.OK
}

// back lays all that is held back.
func (h *hand) back() {
	for _, v := range slices.Backward(h.held) {
		h.c.Push(v)
	}
}

// could tells whether types could be popped, and leaves the operands as they were.
func could(c *stack.Checker, l []api.ValType) api.Errno {
	h := hand{c: c}
	e := h.pops(l)
	h.back()
	return e
}

// leaves tells whether the last block, which ends with some types, could be left.
func leaves(c *stack.Checker, out []api.ValType) api.Errno {
	h := hand{c: c}
	e := h.pops(out)
	if e == api.OK {
		taken := len(h.held)
		if h.pop(); len(h.held) > taken {
			e = api.ErrLeft
		}
	}
	h.back()
	return e
}

// begins tells whether a block could be entered with just the types that it begins with: one that is none does not match itself.
func begins(c *stack.Checker, in []api.ValType) api.Errno {
	c.Pushes(in)
	e := could(c, in)
	for range in {
		c.Pop()
	}
	return e
}
