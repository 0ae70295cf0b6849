package module

import (
	"bytes"

	"ratchet/api"
	"ratchet/leb"
)

// fault is what is given up with.
type fault struct {
	at int
	e  api.Errno
}

func giveUp(at int, e api.Errno) { panic(fault{at, e}) }

// trying is where giving up ends: there is no module then, beside the fault.
func trying(read func() api.Module) (m api.Module, at int, e api.Errno) {
	defer func() {
		if gone := recover(); gone != nil {
			f := gone.(fault)
			at, e = f.at, f.e
		}
	}()
	return read(), 0, api.OK
}

// cursor goes over a module's bytes from the left, up to the end of a part of them. Its methods give up at what can't be read.
type cursor struct {
	b  []byte
	at int
}

// one reads something by a reader of a layer below.
func one[T any](c *cursor, read func(b []byte, at int) (T, int, api.Errno)) T {
	x, at, e := read(c.b, c.at)
	if e != api.OK {
		giveUp(at, e)
	}
	c.at = at
	return x
}

// elements reads a vector: a number, which is looked at ahead of all behind it, and so many elements.
func elements[T any](c *cursor, limit uint32, element func() T) []T {
	var l []T
	for range c.atMost(limit) {
		l = append(l, element())
	}
	return l
}

// each reads a vector of what a reader of a layer below reads.
func each[T any](c *cursor, limit uint32, read func(b []byte, at int) (T, int, api.Errno)) []T {
	return elements(c, limit, func() T { return one(c, read) })
}

func u32(b []byte, at int) (uint32, int, api.Errno) { return leb.U32(b, at, len(b)) }

func (c *cursor) number() uint32 { return one(c, u32) }

// atMost reads a number that does not pass a limit.
func (c *cursor) atMost(limit uint32) uint32 {
	start := c.at
	n := c.number()
	if n > limit {
		giveUp(start, api.ErrLong)
	}
	return n
}

// begins tells whether a byte stands next.
func (c *cursor) begins(with byte) bool { return c.at < len(c.b) && c.b[c.at] == with }

// zero reads a byte that may only be 0.
func (c *cursor) zero() {
	if c.at == len(c.b) {
		giveUp(c.at, api.ErrShort)
	}
	if c.b[c.at] != 0 {
		giveUp(c.at, api.ErrForm)
	}
	c.at++
}

// part is a cursor over so many bytes as a number ahead of them says, with the places of the whole. That they are there is asked ahead of what they hold.
func (c *cursor) part() *cursor {
	n := c.number()
	// By 64 bits: n may be more than an int takes.
	if uint64(n) > uint64(len(c.b)-c.at) {
		giveUp(len(c.b), api.ErrShort)
	}
	start := c.at
	c.at += int(n)
	return &cursor{c.b[:c.at], start}
}

// bytes reads a number and so many bytes, which are copied.
func (c *cursor) bytes() []byte {
	p := c.part()
	return bytes.Clone(p.b[p.at:])
}

// end is asked where nothing may be left.
func (c *cursor) end() {
	if c.at < len(c.b) {
		giveUp(c.at, api.ErrMore)
	}
}
