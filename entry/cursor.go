package entry

import (
	"ratchet/api"
	"ratchet/frame"
	"ratchet/leb"
)

// cursor goes over bytes from the left. Its methods give up at what can't be read.
type cursor struct {
	b  []byte
	at int
}

// readAt is where a cursor's giving up ends: the answer is then the zero value, beside the fault.
func readAt[T any](b []byte, at int, read func(*cursor) T) (answer T, place int, e api.Errno) {
	if at < 0 || at > len(b) {
		return answer, 0, api.ErrArg
	}
	defer func() {
		if gone := recover(); gone != nil {
			f := gone.(fault)
			place, e = f.at, f.e
		}
	}()
	c := &cursor{b, at}
	whole := read(c)
	return whole, c.at, api.OK
}

// numeral reads a number by one of leb's readers.
func numeral[T any](c *cursor, read func(b []byte, at, end int) (T, int, api.Errno)) T {
	n, at, e := read(c.b, c.at, len(c.b))
	if e != api.OK {
		giveUp(at, e)
	}
	c.at = at
	return n
}

// typeNumber reads a defined type's number: unsigned or, where bytes of types may stand too, signed.
func typeNumber[T uint32 | int64](c *cursor, read func(b []byte, at, end int) (T, int, api.Errno)) int {
	start := c.at
	n := numeral(c, read)
	if n < 0 {
		giveUp(start, api.ErrForm)
	}
	if n > maxType {
		giveUp(start, api.ErrLong)
	}
	return int(n)
}

// list reads a number and so many parts. It is looked at ahead of these, whatever they are.
func list[T any](c *cursor, limit uint32, read func(*cursor) T) []T {
	start := c.at
	n := numeral(c, leb.U32)
	if n > limit {
		giveUp(start, api.ErrLong)
	}
	var l []T
	for range n {
		l = append(l, read(c))
	}
	return l
}

// peek tells the next byte without going on.
func (c *cursor) peek() byte {
	if c.at == len(c.b) {
		giveUp(c.at, api.ErrShort)
	}
	return c.b[c.at]
}

// below reads a byte that is below an end.
func (c *cursor) below(end byte) byte {
	n := c.peek()
	if n >= end {
		giveUp(c.at, api.ErrForm)
	}
	c.at++
	return n
}

func (c *cursor) flag() bool { return c.below(2) == 1 }

func (c *cursor) index() int { return typeNumber(c, leb.U32) }

func (c *cursor) name() string {
	s, at, e := frame.Name(c.b, c.at)
	if e != api.OK {
		giveUp(at, e)
	}
	c.at = at
	return s
}
