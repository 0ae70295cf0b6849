package stack

import "ratchet/api"

// local finds a local.
func (c *Checker) local(n uint32) (*local, api.Errno) {
	switch {
	case c.zero():
		return nil, api.ErrZero
	case uint64(n) >= uint64(len(c.locals)):
		return nil, api.ErrArg
	}
	return &c.locals[n], api.OK
}

// Local tells a local's type.
func (c *Checker) Local(n uint32) (api.ValType, api.Errno) {
	x, e := c.local(n)
	if e != api.OK {
		return api.ValType{}, e
	}
	return x.kind, api.OK
}

// Get tells the type of a local that is set.
func (c *Checker) Get(n uint32) (api.ValType, api.Errno) {
	x, e := c.local(n)
	switch {
	case e != api.OK:
		return api.ValType{}, e
	case !x.set:
		return api.ValType{}, api.ErrUnset
	}
	return x.kind, api.OK
}

// Set says that a local is set, and tells its type.
func (c *Checker) Set(n uint32) (api.ValType, api.Errno) {
	x, e := c.local(n)
	if e != api.OK {
		return api.ValType{}, e
	}
	if !x.set {
		x.set = true
		c.fresh.push(n)
	}
	return x.kind, api.OK
}

// unset lays back the locals that were set behind a height of those.
func (c *Checker) unset(height int) {
	for _, n := range c.fresh.items[height:] {
		c.locals[n].set = false
	}
	c.fresh.cut(height)
}
