package instr_test

import (
	"bytes"
	"testing"

	"ratchet/api"
	"ratchet/instr"
)

// eachMade makes instructions of each opcode, more of those whose form has more in it.
func eachMade(seed int64, times int, see func(m *maker, i api.Instr)) {
	m := newMaker(seed)
	for _, r := range table() {
		n := times
		switch r.form {
		case "-":
			n = 3
		case "x", "mem", "xy":
			n = times/8 + 1
		}
		for range n {
			see(m, m.made(r))
		}
	}
}

func TestIS2WhatIsMadeIsRead(t *testing.T) {
	eachMade(91, 300, func(m *maker, i api.Instr) {
		ahead := m.junk()
		b := append(append(bytes.Clone(ahead), m.loose...), m.junk()...)
		shows(t, b, len(ahead), i, len(ahead)+len(m.loose))
		shows(t, m.tight, 0, i, len(m.tight))
	})
}

func TestIS2EndsEarlyAtEachPlace(t *testing.T) {
	eachMade(92, 200, func(m *maker, i api.Instr) {
		for end := range m.loose {
			refuses(t, m.loose[:end], 0, end, api.ErrShort)
			refuses(t, append([]byte{0xfd}, m.loose[:end]...), 1, end+1, api.ErrShort)
		}
	})
}

func TestIS2EachPartThatCantBe(t *testing.T) {
	eachMade(93, 100, func(m *maker, i api.Instr) {
		for _, p := range m.parts {
			for _, w := range p.wrongs {
				refuses(t, m.instead(p, w), 0, p.at+w.at, w.e)
			}
		}
	})
}

// rows goes over all rows of so many bytes of some, behind a beginning.
func rows(head, of []byte, size int, see func(b []byte)) {
	b := append(bytes.Clone(head), make([]byte, size)...)
	var fill func(i int)
	fill = func(i int) {
		if i == len(b) {
			see(b)
			return
		}
		for _, c := range of {
			b[i] = c
			fill(i + 1)
		}
	}
	fill(len(head))
}

func everyByte() []byte {
	l := make([]byte, 256)
	for i := range l {
		l[i] = byte(i)
	}
	return l
}

// everyRow goes over all rows of at most two bytes, and, behind an opcode of each form, those of further bytes that mean something.
func everyRow(see func(b []byte)) {
	for size := range 3 {
		rows(nil, everyByte(), size, see)
	}
	few := []byte{0, 1, 3, 0x40, 0x6e, 0x7f, 0x80}
	for _, f := range forms() {
		op := ofForm(f)
		for _, head := range [][]byte{opBytes(op[0]), opBytes(op[len(op)-1])} {
			rows(head, everyByte(), 1, see)
			rows(head, few, 2, see)
			rows(head, few, 3, see)
			if f != "-" && f != "x" {
				rows(head, few, 4, see)
			}
		}
	}
}

// What is told hangs on what was read alone: bytes behind change nothing, unless the bytes ended too early.
func TestIS2NothingBehindIsRead(t *testing.T) {
	everyRow(func(b []byte) {
		i, place, e := instr.Read(b, 0)
		if e == api.ErrShort {
			refuses(t, b, 0, len(b), api.ErrShort)
			return
		}
		if place > len(b) || e != api.OK && told(i) != told(api.Instr{}) {
			t.Errorf("Read(%x): %s, %d, %d", b, told(i), place, e)
		}
		more := append(bytes.Clone(b), 0x7b, 0x80)
		j, next, f := instr.Read(more, 0)
		if next != place || f != e || told(j) != told(i) {
			t.Errorf("Read(%x): %s, %d, %d; of %x: %s, %d, %d", b, told(i), place, e, more, told(j), next, f)
		}
	})
}

func TestIS3WhatIsMadeIsWrittenShortest(t *testing.T) {
	eachMade(94, 300, func(m *maker, i api.Instr) { writes(t, i, m.tight) })
}

// Against all short rows of bytes: none that is shorter is read as the same.
func TestIS3NoShorterBytes(t *testing.T) {
	sizes := map[string]int{}
	everyRow(func(b []byte) {
		i, next, e := instr.Read(b, 0)
		if e != api.OK || next != len(b) {
			return
		}
		text := told(i)
		if size, ok := sizes[text]; !ok || size > len(b) {
			sizes[text] = len(b)
		}
	})
	if len(sizes) < 2000 {
		t.Errorf("only %d of all short rows are read", len(sizes))
	}
	everyRow(func(b []byte) {
		i, next, e := instr.Read(b, 0)
		if e != api.OK || next != len(b) {
			return
		}
		if out, e := instr.Write(i); e != api.OK || len(out) > sizes[told(i)] {
			t.Errorf("%s is written as %x, %d, not in %d bytes", told(i), out, e, sizes[told(i)])
		}
	})
}

func TestIS7NamesAndOpcodes(t *testing.T) {
	ops := instr.Ops()
	if len(ops) == 0 {
		t.Error("no opcodes")
	}
	for _, op := range ops {
		if n, e := instr.Op(instr.Name(op)); n != op || e != api.OK {
			t.Errorf("Op(Name(%x)): %x, %d", op, n, e)
		}
	}
}

// readBack asks whether what is written is read as its head was, up to the bytes' end, in so many bytes at most, and is written again as itself.
func readBack(t *testing.T, i, head api.Instr, size int) {
	t.Helper()
	b, e := instr.Write(i)
	if e != api.OK || len(b) > size {
		t.Errorf("%s: %x, %d, for %d bytes", told(i), b, e, size)
		return
	}
	shows(t, b, 0, head, len(b))
	j, _, _ := instr.Read(b, 0)
	if again, e := instr.Write(j); e != api.OK || !bytes.Equal(again, b) || !instr.Same(j, head) {
		t.Errorf("%s: %x is written again as %x, %d", told(i), b, again, e)
	}
}

func TestIS7WhatIsWrittenIsReadBack(t *testing.T) {
	eachMade(95, 300, func(m *maker, i api.Instr) {
		readBack(t, i, i, len(m.loose))
		// Bodies, and whatever else the form doesn't have, are gone behind it.
		full := filled(i)
		readBack(t, full, i, len(m.loose))
	})
}

func TestIS7WhatIsReadIsWrittenNoLonger(t *testing.T) {
	everyRow(func(b []byte) {
		if i, next, e := instr.Read(b, 0); e == api.OK {
			readBack(t, i, i, next)
		}
	})
}

// filled is an instruction with something in each field that its form doesn't have, in bodies too.
func filled(i api.Instr) api.Instr {
	out := noise()
	out.Op = i.Op
	for _, f := range fieldsOf(i.Op) {
		copyField(&out, i, f)
	}
	return out
}

// noise is an instruction with something in each field, much of it of no form.
func noise() api.Instr {
	return api.Instr{
		X: 9, Y: 8, N: 1<<63 + 7, Mem: api.MemArg{Align: 0x7f, Mem: 5, Offset: 4},
		Block: api.Block{Type: -7, Result: num(99)},
		Body:  []api.Instr{{Op: -1}, {Op: 0x0b}}, Else: []api.Instr{{Op: 0x05}}, HasElse: true,
		Labels: many(uint32(3), 70), Types: []api.ValType{num(api.T8), {}, ref(-99)}, Catches: []api.Catch{{Kind: 9, Tag: 1}},
	}
}

// fieldsOf are the fields that the chapter gives the form of an opcode, without bodies.
func fieldsOf(op int) []string {
	return map[string][]string{
		"-": nil, "block": {"Block"}, "try": {"Block", "Catches"}, "x": {"X"}, "xy": {"X", "Y"}, "table": {"Labels", "X"}, "select": {"Types"}, "mem": {"Mem"},
		"i32": {"N"}, "i64": {"N"}, "f32": {"N"}, "f64": {"N"}, "heap": {"Types"}, "cast": {"Types"}, "br_cast": {"X", "Types"}, "xn": {"X", "N"},
	}[byOp()[op].form]
}

func copyField(to *api.Instr, from api.Instr, name string) {
	switch name {
	case "X":
		to.X = from.X
	case "Y":
		to.Y = from.Y
	case "N":
		to.N = from.N
	case "Mem":
		to.Mem = from.Mem
	case "Block":
		to.Block = from.Block
	case "Labels":
		to.Labels = from.Labels
	case "Types":
		to.Types = from.Types
	case "Catches":
		to.Catches = from.Catches
	}
}
