package stack

import "ratchet/api"

// Enter begins a block, whose first operands are taken from those around it.
func (c *Checker) Enter(op int, in, out []api.ValType) api.Errno {
	if e := c.open(); e != api.OK {
		return e
	}
	if e := c.Pops(in); e != api.OK {
		return e
	}
	f := frame{op: op, in: in, out: out, height: c.operands.height(), fresh: c.fresh.height()}
	c.frames.push(f.copied())
	c.operands.push(in...)
	return api.OK
}

// Leave ends the last block, and takes what it ends with away.
func (c *Checker) Leave() (int, []api.ValType, []api.ValType, api.Errno) {
	if e := c.open(); e != api.OK {
		return 0, nil, nil, e
	}
	before, f := c.operands, c.top().copied()
	e := c.Pops(f.out)
	if e != api.OK {
		goto refused
	}
	if c.operands.height() > f.height {
		e = api.ErrLeft
		goto refused
	}
	c.unset(f.fresh)
	c.frames.cut(c.frames.height() - 1)
	return f.op, f.in, f.out, api.OK
refused:
	c.operands = before
	return 0, nil, nil, e
}

// Last tells what Leave would tell, whatever Leave might refuse.
func (c *Checker) Last() (int, []api.ValType, []api.ValType, api.Errno) {
	if e := c.open(); e != api.OK {
		return 0, nil, nil, e
	}
	f := c.top().copied()
	return f.op, f.in, f.out, api.OK
}

// Unreachable says that the rest of the last block is not reached.
func (c *Checker) Unreachable() api.Errno {
	if e := c.open(); e != api.OK {
		return e
	}
	f := c.frames.nth(0)
	c.operands.cut(f.height)
	f.dead = true
	return api.OK
}

// Label tells the types that a branch to a block takes along; the last block is 0.
func (c *Checker) Label(n uint32) ([]api.ValType, api.Errno) {
	if c.zero() {
		return nil, api.ErrZero
	}
	if uint64(n) >= uint64(c.frames.height()) {
		return nil, api.ErrBlock
	}
	return copied(c.frames.nth(int(n)).label()), api.OK
}
