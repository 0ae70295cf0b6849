package leb

import (
	"ratchet/api"
)

// window is a run of bytes with the place that was come to. It keeps the whole bytes, so that places within a part are those of the whole; nobody writes into them, so that windows may share them.
type window struct {
	bytes   []byte
	at, end int
}

func (w *window) left() int { return w.end - w.at }

// holds compares by 64 bits: n may be more than an int takes.
func (w *window) holds(n uint32) bool { return uint64(n) <= uint64(w.left()) }

// cut goes on behind the next n bytes and answers these.
func (w *window) cut(n int) window {
	part := window{w.bytes, w.at, w.at + n}
	w.at = part.end
	return part
}

// rest is what is left, not copied.
func (w *window) rest() []byte { return w.bytes[w.at:w.end] }

// Cursor goes over bytes from the left and keeps its first fault.
type Cursor struct {
	window
	made    bool // tells a cursor over no bytes from one that no call made
	faultAt int
	fault   api.Errno
}

// New makes a cursor over a copy of b.
func New(b []byte) *Cursor {
	return &Cursor{window: window{append([]byte(nil), b...), 0, len(b)}, made: true}
}

func (c *Cursor) isMade() bool { return c != nil && c.made }

func (c *Cursor) isGood() bool { return c.isMade() && c.fault == api.OK }

// take cuts off the next n bytes; if they are not there the cursor goes bad.
func (c *Cursor) take(n uint32) (window, bool) {
	if !c.isGood() {
		return window{}, false
	}
	if !c.holds(n) {
		c.Fail(c.end, api.ErrShort)
		return window{}, false
	}
	return c.cut(int(n)), true
}

// next reads a number by one of the readers of bytes.
func next[T number](c *Cursor, reader func(b []byte, at, end int) (T, int, api.Errno)) T {
	if !c.isGood() {
		return 0
	}
	n, at, e := reader(c.bytes, c.at, c.end)
	if e != api.OK {
		c.Fail(at, e)
		return 0
	}
	c.at = at
	return n
}

// Within makes a cursor over the next n bytes, with the places of the whole.
func (c *Cursor) Within(n uint32) *Cursor {
	if !c.isMade() {
		return nil
	}
	part, ok := c.take(n)
	if !ok {
		bad := *c
		return &bad
	}
	return &Cursor{window: part, made: true}
}

// Byte reads a byte.
func (c *Cursor) Byte() byte {
	part, ok := c.take(1)
	if !ok {
		return 0
	}
	return part.rest()[0]
}

// Peek tells the next byte without going on.
func (c *Cursor) Peek() (byte, bool) {
	if c.Left() == 0 {
		return 0, false
	}
	return c.rest()[0], true
}

// Bytes reads n bytes.
func (c *Cursor) Bytes(n uint32) []byte {
	part, ok := c.take(n)
	if !ok {
		return nil
	}
	return append([]byte(nil), part.rest()...)
}

// U32 reads an unsigned number of 32 bits.
func (c *Cursor) U32() uint32 { return next(c, U32) }

// U64 reads an unsigned number of 64 bits.
func (c *Cursor) U64() uint64 { return next(c, U64) }

// S32 reads a signed number of 32 bits.
func (c *Cursor) S32() int32 { return next(c, S32) }

// S33 reads a signed number of 33 bits.
func (c *Cursor) S33() int64 { return next(c, S33) }

// S64 reads a signed number of 64 bits.
func (c *Cursor) S64() int64 { return next(c, S64) }

// F32 reads a float's 32 bits.
func (c *Cursor) F32() uint32 { return next(c, F32) }

// F64 reads a float's 64 bits.
func (c *Cursor) F64() uint64 { return next(c, F64) }

// At tells the place.
func (c *Cursor) At() int {
	if !c.isMade() {
		return 0
	}
	return c.at
}

// Left tells how many bytes are left.
func (c *Cursor) Left() int {
	if !c.isGood() {
		return 0
	}
	return c.left()
}

// Fail makes the cursor bad, if it is not bad yet.
func (c *Cursor) Fail(at int, e api.Errno) {
	if c.isGood() && e != api.OK {
		c.faultAt, c.fault = at, e
	}
}

// End fails if bytes are left.
func (c *Cursor) End() {
	if c.Left() > 0 {
		c.Fail(c.at, api.ErrMore)
	}
}

// Err tells the first fault and its place.
func (c *Cursor) Err() (int, api.Errno) {
	if !c.isMade() {
		return 0, api.ErrZero
	}
	return c.faultAt, c.fault
}
