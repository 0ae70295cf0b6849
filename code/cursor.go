package code

import (
	"ratchet/api"
	"ratchet/entry"
	"ratchet/instr"
	"ratchet/leb"
	"ratchet/opcode"
)

// fault is what is given up with.
type fault struct {
	at int
	e  api.Errno
}

func giveUp(at int, e api.Errno) { panic(fault{at, e}) }

// trying is where giving up ends: the answer is then the zero value, beside the fault.
func trying[T any](try func() (T, int)) (answer T, place int, e api.Errno) {
	defer func() {
		if gone := recover(); gone != nil {
			f := gone.(fault)
			place, e = f.at, f.e
		}
	}()
	whole, place := try()
	return whole, place, api.OK
}

// cursor goes over bytes from the left. Its methods give up at what can't be read.
type cursor struct {
	b  []byte
	at int
}

func readAt[T any](b []byte, at int, read func(*cursor) T) (answer T, place int, e api.Errno) {
	if at < 0 || at > len(b) {
		return answer, 0, api.ErrArg
	}
	return trying(func() (T, int) {
		c := &cursor{b, at}
		whole := read(c)
		return whole, c.at
	})
}

// one reads something by a reader of a layer below.
func one[T any](c *cursor, read func(b []byte, at int) (T, int, api.Errno)) T {
	x, at, e := read(c.b, c.at)
	if e != api.OK {
		giveUp(at, e)
	}
	c.at = at
	return x
}

func number(b []byte, at int) (uint32, int, api.Errno) { return leb.U32(b, at, len(b)) }

// expression reads up to the end that is no block's.
func (c *cursor) expression() []api.Instr {
	n := newNester()
	var read size
	for {
		start := c.at
		i := one(c, instr.Read)
		if i.Op == opcode.End && n.depth() == 0 {
			return n.whole()
		}
		if read.add(i, n.depth()); read.overLimits() {
			giveUp(start, api.ErrLong)
		}
		n.add(i, start)
	}
}

// atMost reads a number that does not pass a limit.
func (c *cursor) atMost(limit uint32) uint32 {
	start := c.at
	n := one(c, number)
	if n > limit {
		giveUp(start, api.ErrLong)
	}
	return n
}

func (c *cursor) locals() []api.Local {
	var l []api.Local
	left := uint32(api.MaxLocals)
	for range c.atMost(api.MaxLocals) {
		n := c.atMost(left)
		left -= n
		l = append(l, api.Local{Count: n, Type: one(c, entry.ValType)})
	}
	return l
}

type body struct {
	locals     []api.Local
	expression []api.Instr
}

func (c *cursor) body() body {
	locals := c.locals()
	return body{locals, c.expression()}
}
