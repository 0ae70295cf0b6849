package leb_test

import (
	"bytes"
	"math"
	"testing"

	"ratchet/api"
	"ratchet/leb"
)

// stands asks for all that a cursor tells without going on.
func stands(t *testing.T, c *leb.Cursor, at, left, faultAt int, fault api.Errno) {
	t.Helper()
	if c.At() != at || c.Left() != left {
		t.Errorf("at %d, %d left; want %d, %d", c.At(), c.Left(), at, left)
	}
	if place, e := c.Err(); place != faultAt || e != fault {
		t.Errorf("fault %d, %d; want %d, %d", place, e, faultAt, fault)
	}
}

// step is a call that reads, with what it came to: 0 or none of whatever it is.
type step struct {
	name string
	zero func(c *leb.Cursor) bool
}

func steps() []step {
	return []step{
		{"Byte", func(c *leb.Cursor) bool { return c.Byte() == 0 }},
		{"Bytes", func(c *leb.Cursor) bool { return len(c.Bytes(1)) == 0 }},
		{"U32", func(c *leb.Cursor) bool { return c.U32() == 0 }},
		{"U64", func(c *leb.Cursor) bool { return c.U64() == 0 }},
		{"S32", func(c *leb.Cursor) bool { return c.S32() == 0 }},
		{"S33", func(c *leb.Cursor) bool { return c.S33() == 0 }},
		{"S64", func(c *leb.Cursor) bool { return c.S64() == 0 }},
		{"F32", func(c *leb.Cursor) bool { return c.F32() == 0 }},
		{"F64", func(c *leb.Cursor) bool { return c.F64() == 0 }},
	}
}

// staysBad makes every call on a bad cursor: none answers anything, none changes its fault or its place.
func staysBad(t *testing.T, c *leb.Cursor, at, faultAt int, fault api.Errno) {
	t.Helper()
	stands(t, c, at, 0, faultAt, fault)
	for _, s := range steps() {
		if !s.zero(c) {
			t.Errorf("%s of a bad cursor reads", s.name)
		}
	}
	if n, ok := c.Peek(); n != 0 || ok {
		t.Errorf("Peek of a bad cursor = %d, %v", n, ok)
	}
	if len(c.Bytes(0)) != 0 {
		t.Error("no bytes of a bad cursor")
	}
	c.End()
	c.Fail(77, api.ErrNone)
	stands(t, c, at, 0, faultAt, fault)
}

func TestLE3Reads(t *testing.T) {
	b := []byte{
		5,
		0xe5, 0x8e, 0x26,
		0xff, 0xff, 0xff, 0xff, 0xff, 0xff, 0xff, 0xff, 0xff, 0x01,
		0xc0, 0xbb, 0x78,
		0x80, 0x80, 0x80, 0x80, 0x70,
		0x80, 0x80, 0x80, 0x80, 0x80, 0x80, 0x80, 0x80, 0x80, 0x7f,
		1, 2, 3, 0x84,
		1, 2, 3, 4, 5, 6, 7, 0x88,
		0xa0, 0xa1, 0xa2,
	}
	c := leb.New(b)
	stands(t, c, 0, len(b), 0, api.OK)
	if n := c.Byte(); n != 5 || c.At() != 1 {
		t.Errorf("Byte = %d, at %d", n, c.At())
	}
	if n := c.U32(); n != 624485 || c.At() != 4 {
		t.Errorf("U32 = %d, at %d", n, c.At())
	}
	if n := c.U64(); n != math.MaxUint64 || c.At() != 14 {
		t.Errorf("U64 = %d, at %d", n, c.At())
	}
	if n := c.S32(); n != -123456 || c.At() != 17 {
		t.Errorf("S32 = %d, at %d", n, c.At())
	}
	if n := c.S33(); n != -1<<32 || c.At() != 22 {
		t.Errorf("S33 = %d, at %d", n, c.At())
	}
	if n := c.S64(); n != math.MinInt64 || c.At() != 32 {
		t.Errorf("S64 = %d, at %d", n, c.At())
	}
	if n := c.F32(); n != 0x84030201 || c.At() != 36 {
		t.Errorf("F32 = %x, at %d", n, c.At())
	}
	if n := c.F64(); n != 0x8807060504030201 || c.At() != 44 {
		t.Errorf("F64 = %x, at %d", n, c.At())
	}
	if l := c.Bytes(0); len(l) != 0 || c.At() != 44 {
		t.Errorf("Bytes(0) = %x, at %d", l, c.At())
	}
	if l := c.Bytes(3); !bytes.Equal(l, []byte{0xa0, 0xa1, 0xa2}) {
		t.Errorf("Bytes(3) = %x", l)
	}
	stands(t, c, 47, 0, 0, api.OK)
	c.End()
	if l := c.Bytes(0); len(l) != 0 {
		t.Errorf("Bytes(0) at the end = %x", l)
	}
	stands(t, c, 47, 0, 0, api.OK)
}

func TestLE3Peek(t *testing.T) {
	c := leb.New([]byte{0, 8})
	for _, want := range []byte{0, 8} {
		for range 2 {
			if n, ok := c.Peek(); n != want || !ok {
				t.Errorf("Peek = %d, %v", n, ok)
			}
		}
		if n := c.Byte(); n != want {
			t.Errorf("Byte = %d behind Peek", n)
		}
	}
	if n, ok := c.Peek(); n != 0 || ok {
		t.Errorf("Peek at the end = %d, %v", n, ok)
	}
	stands(t, c, 2, 0, 0, api.OK)
	c = leb.New([]byte{8})
	c.Fail(0, api.ErrForm)
	if n, ok := c.Peek(); n != 0 || ok {
		t.Errorf("Peek of a bad one = %d, %v", n, ok)
	}
}

func TestLE3NothingLeft(t *testing.T) {
	for _, b := range [][]byte{nil, {}} {
		for _, s := range steps() {
			c := leb.New(b)
			stands(t, c, 0, 0, 0, api.OK)
			if !s.zero(c) {
				t.Errorf("%s of no bytes reads", s.name)
			}
			staysBad(t, c, 0, 0, api.ErrShort)
		}
	}
}

// The cursor stays ahead of what can't be read, though some of its bytes were there.
func TestLE3Short(t *testing.T) {
	for _, s := range steps()[2:] {
		c := leb.New([]byte{1, 0x80, 0x80, 0x80})
		c.Byte()
		if !s.zero(c) {
			t.Errorf("%s of half a number reads", s.name)
		}
		staysBad(t, c, 1, 4, api.ErrShort)
	}
	for _, n := range []uint32{4, 1 << 31, math.MaxUint32} {
		c := leb.New([]byte{1, 2, 3, 4})
		c.Byte()
		if l := c.Bytes(n); len(l) != 0 {
			t.Errorf("Bytes(%d) = %x", n, l)
		}
		staysBad(t, c, 1, 4, api.ErrShort)
	}
}

func TestLE3Form(t *testing.T) {
	b := append(bytes.Repeat([]byte{0xff}, 11), 0x0f)
	for _, x := range []struct {
		read  func(c *leb.Cursor) bool
		place int
	}{
		{func(c *leb.Cursor) bool { return c.U32() == 0 }, 5},
		{func(c *leb.Cursor) bool { return c.U64() == 0 }, 10},
		{func(c *leb.Cursor) bool { return c.S32() == 0 }, 5},
		{func(c *leb.Cursor) bool { return c.S33() == 0 }, 5},
		{func(c *leb.Cursor) bool { return c.S64() == 0 }, 10},
	} {
		c := leb.New(b)
		c.Byte()
		if !x.read(c) {
			t.Error("a number that is malformed is read")
		}
		staysBad(t, c, 1, x.place, api.ErrForm)
	}
}

func TestLE3CopiesItsBytes(t *testing.T) {
	b := []byte{1, 2, 3, 4}
	c := leb.New(b)
	b[0], b[2] = 9, 9
	if n := c.Byte(); n != 1 {
		t.Errorf("Byte = %d: not of a copy", n)
	}
	d := leb.New([]byte{1, 2, 3, 4})
	in := d.Within(4)
	l := in.Bytes(2)
	l[0] = 9
	_ = append(l, 9, 9)
	if m := in.Bytes(2); !bytes.Equal(m, []byte{3, 4}) {
		t.Errorf("Bytes = %x: the answer is not new memory", m)
	}
	one := leb.New(b)
	one.Bytes(4)[1] = 8
	if b[1] != 2 {
		t.Error("the bytes that were handed in are changed")
	}
}

func TestLE4Places(t *testing.T) {
	c := leb.New([]byte{5, 6, 7, 8, 9, 10})
	c.Byte()
	in := c.Within(4)
	stands(t, c, 5, 1, 0, api.OK)
	stands(t, in, 1, 4, 0, api.OK)
	if n := in.Byte(); n != 6 || in.At() != 2 {
		t.Errorf("within: %d at %d", n, in.At())
	}
	deep := in.Within(2)
	stands(t, in, 4, 1, 0, api.OK)
	stands(t, deep, 2, 2, 0, api.OK)
	if l := deep.Bytes(2); !bytes.Equal(l, []byte{7, 8}) {
		t.Errorf("within within: %x", l)
	}
	deep.End()
	stands(t, deep, 4, 0, 0, api.OK)
	if n, ok := deep.Peek(); n != 0 || ok {
		t.Errorf("Peek at the end of a part = %d, %v", n, ok)
	}
	deep.Byte()
	staysBad(t, deep, 4, 4, api.ErrShort)
	stands(t, in, 4, 1, 0, api.OK)
	in.End()
	staysBad(t, in, 4, 4, api.ErrMore)
	stands(t, c, 5, 1, 0, api.OK)
	if n := c.Byte(); n != 10 {
		t.Errorf("behind the part: %d", n)
	}
	stands(t, c, 6, 0, 0, api.OK)
}

// A number does not go on behind its part's end.
func TestLE4NumbersEndWithin(t *testing.T) {
	for _, s := range steps()[2:] {
		c := leb.New(make([]byte, 20))
		c.Bytes(3)
		if in := c.Within(0); !s.zero(in) {
			t.Errorf("%s reads behind the part", s.name)
		} else {
			staysBad(t, in, 3, 3, api.ErrShort)
		}
		c = leb.New(bytes.Repeat([]byte{0x80}, 20))
		c.Byte()
		in := c.Within(2)
		s.zero(in)
		staysBad(t, in, 1, 3, api.ErrShort)
		stands(t, c, 3, 17, 0, api.OK)
	}
}

func TestLE4NothingWithin(t *testing.T) {
	c := leb.New([]byte{1})
	stands(t, c.Within(0), 0, 0, 0, api.OK)
	stands(t, c, 0, 1, 0, api.OK)
	stands(t, c.Within(1), 0, 1, 0, api.OK)
	stands(t, c, 1, 0, 0, api.OK)
	stands(t, c.Within(0), 1, 0, 0, api.OK)
	stands(t, c, 1, 0, 0, api.OK)
}

func TestLE4Short(t *testing.T) {
	for _, n := range []uint32{3, 1 << 31, math.MaxUint32} {
		whole := leb.New([]byte{1, 2, 3, 4, 5})
		whole.Byte()
		c := whole.Within(3)
		c.Byte()
		in := c.Within(n)
		staysBad(t, in, 2, 4, api.ErrShort)
		staysBad(t, c, 2, 4, api.ErrShort)
		stands(t, whole, 4, 1, 0, api.OK)
	}
}

func TestLE4OfABadOne(t *testing.T) {
	for _, n := range []uint32{0, 1, 9, math.MaxUint32} {
		c := leb.New([]byte{1, 2})
		c.Fail(-3, api.ErrSimd)
		in := c.Within(n)
		if in == c {
			t.Error("a cursor within is the first one")
		}
		staysBad(t, in, 0, -3, api.ErrSimd)
		staysBad(t, c, 0, -3, api.ErrSimd)
	}
}

func TestLE5Fail(t *testing.T) {
	c := leb.New([]byte{1, 2})
	c.Byte()
	c.Fail(9, api.OK)
	stands(t, c, 1, 1, 0, api.OK)
	c.Fail(9, api.ErrName)
	staysBad(t, c, 1, 9, api.ErrName)
	for _, at := range []int{math.MinInt, -1, 0, math.MaxInt} {
		for _, e := range []api.Errno{api.ErrForm, 999, -1} {
			c := leb.New([]byte{1, 2})
			c.Fail(at, e)
			staysBad(t, c, 0, at, e)
		}
	}
}

func TestLE5End(t *testing.T) {
	c := leb.New([]byte{1, 2, 3})
	c.Byte()
	c.End()
	staysBad(t, c, 1, 1, api.ErrMore)
	c = leb.New([]byte{1})
	c.Byte()
	c.End()
	stands(t, c, 1, 0, 0, api.OK)
	c.Byte()
	c.End()
	staysBad(t, c, 1, 1, api.ErrShort)
}

func TestLE5NoCursor(t *testing.T) {
	var none *leb.Cursor
	for _, c := range []*leb.Cursor{none, {}, new(leb.Cursor)} {
		staysBad(t, c, 0, 0, api.ErrZero)
		for _, n := range []uint32{0, 1, math.MaxUint32} {
			if c.Within(n) != nil || len(c.Bytes(n)) != 0 {
				t.Errorf("there is something within no cursor (%d)", n)
			}
		}
		stands(t, c, 0, 0, 0, api.ErrZero)
	}
}

// Two cursors over the same bytes know nothing of one another.
func TestLE5TwoCursors(t *testing.T) {
	b := []byte{1, 2, 3}
	c, d := leb.New(b), leb.New(b)
	c.Byte()
	c.Fail(1, api.ErrForm)
	stands(t, d, 0, 3, 0, api.OK)
	if n := d.Byte(); n != 1 {
		t.Errorf("Byte = %d", n)
	}
}

func TestLE6ThroughACursor(t *testing.T) {
	for _, n := range someUnsigned() {
		c := leb.New(between(leb.PutU(n), 0x80, 2))
		c.Bytes(2)
		if got := c.U64(); got != n || c.Left() != 2 {
			t.Errorf("U64 of PutU(%d) = %d", n, got)
		}
	}
	for _, n := range someSigned() {
		c := leb.New(between(leb.PutS(n), 0xff, 2))
		c.Bytes(2)
		if got := c.S64(); got != n || c.Left() != 2 {
			t.Errorf("S64 of PutS(%d) = %d", n, got)
		}
	}
}
