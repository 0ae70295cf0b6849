package module_test

import (
	"testing"

	"ratchet/api"
	"ratchet/code"
	"ratchet/entry"
	"ratchet/leb"
	"ratchet/module"
)

// grammar reads contents by the chapter's words, written as letters, and keeps the first fault.
type grammar struct {
	b     []byte
	at    int
	place int
	e     api.Errno
	// how many of the last vector of bodies, functions, segments
	counted int
}

func (g *grammar) fault(at int, e api.Errno) {
	if g.e == api.OK {
		g.place, g.e = at, e
	}
}

// by goes on behind what a reader of another layer reads.
func by[T any](g *grammar, read func([]byte, int) (T, int, api.Errno)) T {
	x, at, e := read(g.b, g.at)
	if e != api.OK {
		g.fault(at, e)
	}
	g.at = at
	return x
}

func (g *grammar) number() int {
	return int(by(g, func(b []byte, at int) (uint32, int, api.Errno) { return leb.U32(b, at, len(b)) }))
}

// all reads what letters stand for, up to a fault.
func (g *grammar) all(letters string) {
	for n := 0; n < len(letters) && g.e == api.OK; n++ {
		g.one(letters[n])
	}
}

// vector reads so many of a letter.
func (g *grammar) vector(limit int, letter byte) {
	from := g.at
	n := g.number()
	if g.e == api.OK && n > limit {
		g.fault(from, api.ErrLong)
	}
	for range n {
		if g.e != api.OK {
			return
		}
		g.one(letter)
	}
	g.counted = n
}

// choice reads a number, and what the letters at its place stand for.
func (g *grammar) choice(of ...string) {
	from := g.at
	n := g.number()
	if g.e == api.OK && n >= len(of) {
		g.fault(from, api.ErrForm)
	}
	if g.e == api.OK {
		g.all(of[n])
	}
}

func (g *grammar) one(letter byte) {
	switch letter {
	case 'n':
		g.number()
	case 't':
		from := g.at
		if n := g.number(); n > 1<<31-1 {
			g.fault(from, api.ErrLong)
		}
	case 'z':
		switch {
		case g.at >= len(g.b):
			g.fault(len(g.b), api.ErrShort)
		case g.b[g.at] != 0:
			g.fault(g.at, api.ErrForm)
		}
		g.at++
	case 'x':
		by(g, code.Expr)
	case 'r':
		by(g, entry.RefType)
	case 'T':
		if g.at < len(g.b) && g.b[g.at] == 0x40 {
			g.at++
			g.all("zux")
			return
		}
		g.all("u")
	case 'u':
		by(g, entry.TableType)
	case 'v':
		by(g, entry.GlobalType)
	case 'G':
		by(g, entry.RecType)
	case 'I':
		by(g, entry.Import)
	case 'L':
		by(g, entry.Limits)
	case 'a':
		by(g, entry.Tag)
	case 'g':
		g.all("vx")
	case 'E':
		by(g, entry.Export)
	case 'F':
		g.vector(api.MaxFuncs, 'n')
	case 'X':
		g.vector(api.MaxFuncs, 'x')
	case 'S':
		g.choice("xF", "zF", "nxzF", "zF", "xX", "rX", "nxrX", "rX")
	case 'D':
		g.choice("xb", "b", "nxb")
	case 'b', 'c':
		n := g.number()
		if g.e == api.OK && n > len(g.b)-g.at {
			g.fault(len(g.b), api.ErrShort)
		}
		if g.e != api.OK {
			return
		}
		if letter == 'b' {
			g.at += n
			return
		}
		inner := &grammar{b: g.b[:g.at+n], at: g.at}
		by(inner, code.Locals)
		inner.all("x")
		inner.end()
		if inner.e != api.OK {
			g.fault(inner.place, inner.e)
		}
		g.at += n
	}
}

func (g *grammar) end() {
	if g.e == api.OK && g.at < len(g.b) {
		g.fault(g.at, api.ErrMore)
	}
}

// section reads the contents of a section.
func (g *grammar) section(id int) {
	switch id {
	case start, count:
		g.counted = g.number()
	case tables, memories:
		g.vector(api.MaxTables, map[int]byte{tables: 'T', memories: 'L'}[id])
	default:
		letter := map[int]byte{types: 'G', imports: 'I', functions: 't', tags: 'a', globals: 'g', exports: 'E', elements: 'S', bodies: 'c', datas: 'D'}[id]
		g.vector(10000, letter)
	}
	g.end()
}

// byGrammar is what Read should tell of a module of one section that names no data segment.
func byGrammar(b []byte, id, from int) (int, api.Errno) {
	g := &grammar{b: b, at: from}
	g.section(id)
	if g.e == api.OK && (id == functions || id == bodies || id == count) && g.counted != 0 {
		g.fault(len(b), api.ErrCount)
	}
	return g.place, g.e
}

// rows makes all rows of these bytes, of up to a length.
func rows(alphabet []byte, length int, see func(b []byte)) {
	row := make([]byte, 0, length)
	var longer func()
	longer = func() {
		see(row)
		if len(row) == length {
			return
		}
		for _, c := range alphabet {
			row = append(row, c)
			longer()
			row = row[:len(row)-1]
		}
	}
	longer()
}

// seen asks of all rows as contents of a section, and counts how many are taken.
func seen(t *testing.T, id int, alphabet []byte, length int) int {
	taken := 0
	rows(alphabet, length, func(row []byte) {
		b := append(append(head(), byte(id), byte(len(row))), row...)
		place, e := byGrammar(b, id, 10)
		if _, at, got := module.Read(b); at != place || got != e {
			t.Errorf("Read(%x): %d, %d, not %d, %d", b, at, got, place, e)
		}
		if e == api.OK {
			taken++
		}
	})
	return taken
}

func TestMO1ShortRows(t *testing.T) {
	every := make([]byte, 256)
	for n := range every {
		every[n] = byte(n)
	}
	for _, id := range inOrder() {
		if seen(t, id, every, 2) == 0 {
			t.Errorf("section %d: none is taken", id)
		}
	}
}

// Longer rows of bytes that mean something in a section.
func TestMO1Rows(t *testing.T) {
	for _, c := range []struct {
		id       int
		alphabet string
		length   int
	}{
		{types, "00 01 02 4e 50 5f 60 7f", 5},
		{imports, "00 01 02 04 61 ff", 6},
		{functions, "00 01 02 80 08", 6},
		{tables, "00 01 0b 40 70", 7},
		{memories, "00 01 02 04 80", 6},
		{tags, "00 01 02 80", 6},
		{globals, "00 01 02 0b 7f 7b", 6},
		{exports, "00 01 02 05 61 80", 6},
		{start, "00 01 80", 7},
		{elements, "00 01 02 03 04 05 06 07 08 0b 70", 5},
		{elements, "00 01 02 0b 70", 7},
		{count, "00 01 80", 7},
		{bodies, "00 01 02 03 0b 7f", 6},
		{datas, "00 01 02 03 0b 80", 6},
	} {
		if seen(t, c.id, bin(c.alphabet), c.length) == 0 {
			t.Errorf("section %d: none is taken", c.id)
		}
	}
}
