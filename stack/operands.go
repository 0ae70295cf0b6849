package stack

import "ratchet/api"

// Push lays an operand on the others.
func (c *Checker) Push(v api.ValType) api.Errno {
	if e := c.open(); e != api.OK {
		return e
	}
	c.operands.push(v)
	return api.OK
}

// Pop takes the last operand away.
func (c *Checker) Pop() (api.ValType, api.Errno) {
	if c.zero() {
		return api.ValType{}, api.ErrZero
	}
	f, h := c.top(), c.operands.height()
	switch {
	case h > f.height:
		v := *c.operands.nth(0)
		c.operands.cut(h - 1)
		return v, api.OK
	case f.dead:
		return api.ValType{}, api.OK
	}
	return api.ValType{}, api.ErrUnder
}

// PopType takes the last operand away, if it matches a type.
func (c *Checker) PopType(v api.ValType) (api.ValType, api.Errno) {
	if c.zero() {
		return api.ValType{}, api.ErrZero
	}
	before := c.operands
	popped, e := c.Pop()
	if e != api.OK {
		goto refused
	}
	if !c.matches(popped, v) {
		e = api.ErrType
		goto refused
	}
	return popped, api.OK
refused:
	c.operands = before
	return api.ValType{}, e
}

// Pushes lays operands on the others, in order.
func (c *Checker) Pushes(l []api.ValType) api.Errno {
	if c.zero() {
		return api.ErrZero
	}
	for _, v := range l {
		// None but the first can be refused, so that there is nothing to lay back.
		if e := c.Push(v); e != api.OK {
			return e
		}
	}
	return api.OK
}

// Pops takes operands away that match types, from the last one on.
func (c *Checker) Pops(l []api.ValType) api.Errno {
	if c.zero() {
		return api.ErrZero
	}
	before, e := c.operands, api.OK
	for n := len(l) - 1; n >= 0; n-- {
		if _, e = c.PopType(l[n]); e != api.OK {
			goto refused
		}
	}
	return api.OK
refused:
	c.operands = before
	return e
}

// Swap takes operands away, and lays others in their place.
func (c *Checker) Swap(in, out []api.ValType) api.Errno {
	if e := c.Pops(in); e != api.OK {
		return e
	}
	// Pushes is refused only where there is no frame; Pops has taken nothing away there.
	return c.Pushes(out)
}
