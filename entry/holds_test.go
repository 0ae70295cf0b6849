package entry_test

import (
	"bytes"
	"testing"

	"ratchet/api"
)

// eachMade makes many things for each call that reads.
func eachMade(seed int64, times int, see func(m *maker, r reading, x any)) {
	m := newMaker(seed)
	for name, r := range readings() {
		for range times {
			x := m.made(name)
			see(m, r, x)
		}
	}
}

func TestP81WhatIsMadeIsRead(t *testing.T) {
	eachMade(81, 400, func(m *maker, r reading, x any) {
		ahead := m.junk()
		b := append(append(bytes.Clone(ahead), m.loose...), m.junk()...)
		kept := bytes.Clone(b)
		r.shows(t, b, len(ahead), x, len(ahead)+len(m.loose))
		r.shows(t, m.tight, 0, sameForm(x), len(m.tight))
		if !bytes.Equal(b, kept) {
			t.Errorf("%s changes its bytes", r.name)
		}
	})
}

// sameForm is what is read of the shortest bytes: a group of one type is alone.
func sameForm(x any) any {
	if g, ok := x.(api.RecType); ok && len(g.Types) == 1 {
		g.Explicit = false
		return g
	}
	return x
}

func TestP81EndsEarlyAtEachPlace(t *testing.T) {
	eachMade(82, 300, func(m *maker, r reading, x any) {
		for end := range m.loose {
			r.refuses(t, m.loose[:end], 0, end, api.ErrShort)
			// Bytes behind the end, though they are there, are not looked at.
			r.refuses(t, append([]byte{0x7b}, m.loose[:end]...)[:end+1:end+1], 1, end+1, api.ErrShort)
		}
	})
}

func TestP81EachPartThatCantBe(t *testing.T) {
	eachMade(83, 150, func(m *maker, r reading, x any) {
		for _, p := range m.parts {
			for _, w := range p.wrongs {
				r.refuses(t, m.instead(p, w), 0, p.at+w.at, w.e)
			}
		}
	})
}

// alphabet is the bytes that mean something, and neighbours of theirs.
func alphabet() []byte {
	return []byte{0, 1, 2, 4, 5, 0x40, 0x4e, 0x4f, 0x50, 0x5e, 0x5f, 0x60, 0x61, 0x63, 0x64, 0x69, 0x70, 0x74, 0x77, 0x78, 0x7b, 0x7f, 0x80, 0x88, 0xff}
}

// rows goes over all rows of so many bytes of some.
func rows(of []byte, size int, see func(b []byte)) {
	b := make([]byte, size)
	var fill func(i int)
	fill = func(i int) {
		if i == size {
			see(b)
			return
		}
		for _, c := range of {
			b[i] = c
			fill(i + 1)
		}
	}
	fill(0)
}

func everyByte() []byte {
	l := make([]byte, 256)
	for i := range l {
		l[i] = byte(i)
	}
	return l
}

// everyRow goes over all rows of at most two bytes, and those of three and four bytes that mean something.
func everyRow(see func(b []byte)) {
	for size := range 3 {
		rows(everyByte(), size, see)
	}
	rows(alphabet(), 3, see)
	rows([]byte{0, 1, 2, 0x4e, 0x50, 0x5e, 0x5f, 0x60, 0x64, 0x70, 0x78, 0x80}, 4, see)
}

// What is told hangs on what was read alone: bytes behind change nothing, unless the bytes ended too early.
func TestP81NothingBehindIsRead(t *testing.T) {
	for _, r := range readings() {
		everyRow(func(b []byte) {
			x, place, e := r.read(b, 0)
			if e == api.ErrShort {
				r.refuses(t, b, 0, len(b), api.ErrShort)
				return
			}
			if place > len(b) || e != api.OK && told(x) != r.zero {
				t.Errorf("%s(%x): %s, %d, %d", r.name, b, told(x), place, e)
			}
			more := append(bytes.Clone(b), 0x7b, 0x80)
			y, next, f := r.read(more, 0)
			if next != place || f != e || told(y) != told(x) {
				t.Errorf("%s(%x): %s, %d, %d; of %x: %s, %d, %d", r.name, b, told(x), place, e, more, told(y), next, f)
			}
		})
	}
}

func TestP82WhatIsMadeIsWrittenShortest(t *testing.T) {
	eachMade(84, 400, func(m *maker, r reading, x any) {
		if b, e := written(r.name, x); !bytes.Equal(b, m.tight) || e != api.OK {
			t.Errorf("%s %s is written as %x, %d, not %x", r.name, told(x), b, e, m.tight)
		}
	})
}

// shortest is the length of the shortest row of bytes that is read as a value.
func shortest(r reading) map[string]int {
	sizes := map[string]int{}
	everyRow(func(b []byte) {
		x, next, e := r.read(b, 0)
		if e != api.OK || next != len(b) {
			return
		}
		text := told(sameForm(x))
		if size, ok := sizes[text]; !ok || size > len(b) {
			sizes[text] = len(b)
		}
	})
	return sizes
}

// Against all short rows of bytes: none that is shorter is read as the same.
func TestP82NoShorterBytes(t *testing.T) {
	for _, r := range readings() {
		sizes := shortest(r)
		if len(sizes) < 3 {
			t.Errorf("%s reads only %d of all short rows", r.name, len(sizes))
		}
		everyRow(func(b []byte) {
			x, next, e := r.read(b, 0)
			if e != api.OK || next != len(b) {
				return
			}
			if out, e := written(r.name, x); e != api.OK || len(out) != sizes[told(sameForm(x))] {
				t.Errorf("%s %s is written as %x, %d, not in %d bytes", r.name, told(x), out, e, sizes[told(sameForm(x))])
			}
		})
	}
}

// readBack asks whether what is written is read as it was, up to the bytes' end, and is written again as itself.
func readBack(t *testing.T, r reading, x any, size int) {
	t.Helper()
	b, e := written(r.name, x)
	if e != api.OK || len(b) > size {
		t.Errorf("%s %s: %x, %d, for %d bytes", r.name, told(x), b, e, size)
		return
	}
	r.shows(t, b, 0, sameForm(x), len(b))
	y, _, _ := r.read(b, 0)
	if again, e := written(r.name, y); e != api.OK || !bytes.Equal(again, b) {
		t.Errorf("%s %s: %x is written again as %x, %d", r.name, told(x), b, again, e)
	}
}

func TestP83WhatIsWrittenIsReadBack(t *testing.T) {
	eachMade(85, 400, func(m *maker, r reading, x any) { readBack(t, r, x, len(m.loose)) })
}

func TestP83WhatIsReadIsWrittenNoLonger(t *testing.T) {
	for _, r := range readings() {
		everyRow(func(b []byte) {
			if x, next, e := r.read(b, 0); e == api.OK {
				readBack(t, r, x, next)
			}
		})
	}
}

// Of a group of one type both forms are written as one.
func TestP83ExplicitOfOneType(t *testing.T) {
	r := readings()["RecType"]
	for _, c := range comps() {
		for _, s := range []api.SubType{final(c.c), open(c.c), final(c.c, 3), open(c.c, 3, 4)} {
			in, e := written("RecType", api.RecType{Types: []api.SubType{s}, Explicit: true})
			out, f := written("RecType", alone(s))
			if e != api.OK || f != api.OK || !bytes.Equal(in, out) {
				t.Errorf("%s is written as %x, %d, and as %x, %d", told(s), in, e, out, f)
			}
			r.shows(t, in, 0, alone(s), len(in))
			r.shows(t, append(bin("4e 01"), in...), 0, api.RecType{Types: []api.SubType{s}, Explicit: true}, 2+len(in))
		}
	}
}
