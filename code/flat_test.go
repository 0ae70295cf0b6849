package code_test

import (
	"testing"

	"ratchet/api"
	"ratchet/code"
)

// lies asks Flat for a list, and leaves what it is handed as it was.
func lies(t *testing.T, l []api.Instr, want ...api.Instr) {
	t.Helper()
	before := told(l)
	if got := code.Flat(l); told(got) != told(want) {
		t.Errorf("Flat(%s): %s, not %s", sketch(l), sketch(got), sketch(want))
	}
	if told(l) != before {
		t.Errorf("Flat(%s) changes its argument", sketch(l))
	}
}

// nests asks Nest for a list.
func nests(t *testing.T, l []api.Instr, want ...api.Instr) {
	t.Helper()
	before := told(l)
	if got, place, e := code.Nest(l); told(got) != told(want) || place != 0 || e != api.OK {
		t.Errorf("Nest(%s): %s, %d, %d, not %s", sketch(l), sketch(got), place, e, sketch(want))
	}
	if told(l) != before {
		t.Errorf("Nest(%s) changes its argument", sketch(l))
	}
}

// nestsNot asks Nest for the place of a fault.
func nestsNot(t *testing.T, place int, l ...api.Instr) {
	t.Helper()
	if got, at, e := code.Nest(l); len(got) != 0 || at != place || e != api.ErrForm {
		t.Errorf("Nest(%s): %s, %d, %d, not %d", sketch(l), sketch(got), at, e, place)
	}
}

// turn and end are what stands between and behind a block's parts.
func turn() api.Instr { return of(0x05) }
func end() api.Instr  { return of(0x0b) }

func TestP104Examples(t *testing.T) {
	lies(t, list(both(list(nop()), list(constant(1), of(0x1a)))), block(0x04), nop(), turn(), constant(1), of(0x1a), end())
	nests(t, list(block(0x02), end()), block(0x02))
	nestsNot(t, 1, block(0x02))
	nestsNot(t, 0, end())
}

func TestP104BothWays(t *testing.T) {
	for _, x := range []struct{ nested, flat []api.Instr }{
		{},
		{list(nop()), list(nop())},
		{list(block(0x04)), list(block(0x04), end())},
		{list(both(nil, nil)), list(block(0x04), turn(), end())},
		{list(both(nil, list(nop())), of(0)), list(block(0x04), turn(), nop(), end(), of(0))},
		{list(both(list(nop()), nil), of(0)), list(block(0x04), nop(), turn(), end(), of(0))},
		{list(nop(), block(0x03, block(0x1f), nop()), nop()), list(nop(), block(0x03), block(0x1f), end(), nop(), end(), nop())},
		{list(both(list(both(nil, nil)), list(both(nil, nil)))), list(block(0x04), block(0x04), turn(), end(), turn(), block(0x04), turn(), end(), end())},
	} {
		lies(t, x.nested, x.flat...)
		nests(t, x.flat, x.nested...)
	}
	for _, op := range blocks() {
		for _, d := range []int{1, api.MaxNest, api.MaxNest + 1, 3000} {
			l := deep(d, op, nop())
			f := append(append(many(block(op), d), nop()), many(end(), d)...)
			if got := code.Flat(l); !same(got, f) {
				t.Errorf("Flat of %d blocks: %s", d, sketch(got))
			}
			if got, place, e := code.Nest(f); !same(got, l) || place != 0 || e != api.OK {
				t.Errorf("Nest of %d blocks: %d, %d", d, place, e)
			}
		}
	}
}

// Heads keep all their fields, also those that their form does not have.
func TestP104HeadsAreKept(t *testing.T) {
	i := api.Instr{Op: 0x1f, X: 1, Y: 2, N: 3, Mem: api.MemArg{Align: 4, Mem: 5, Offset: 6}, Block: api.Block{Type: 7, Result: ref(8)},
		Labels: []uint32{9}, Types: []api.ValType{ref(10)}, Catches: []api.Catch{{Kind: 2, Label: 11}}}
	lies(t, list(withBody(i, nop())), i, nop(), end())
	nests(t, list(i, nop(), end()), withBody(i, nop()))
	i.Op = 0x01
	lies(t, list(i), i)
	nests(t, list(i), i)
	i.Op = 0x7777
	lies(t, list(i), i)
	nests(t, list(i), i)
	i.Op = 0x04
	lies(t, list(withMark(withElse(i, nop()))), i, turn(), nop(), end())
	nests(t, list(i, turn(), nop(), end()), withMark(withElse(i, nop())))
}

// Nothing is asked of what is laid flat, but that only blocks have parts, and second parts stand behind an else.
func TestP104FlatOfWhatMayNotBe(t *testing.T) {
	lies(t, list(of(0x05), of(0x0b), of(-1), of(0x7777)), turn(), end(), of(-1), of(0x7777))
	lies(t, list(withMark(withElse(block(0x02, nop()), of(0)))), block(0x02), nop(), turn(), of(0), end())
	lies(t, list(withElse(block(0x04, nop()), of(0))), block(0x04), nop(), end())
	lies(t, list(withBody(nop(), of(0)), of(0x1a)), nop(), of(0x1a))
	lies(t, list(withMark(withElse(nop(), of(0))), of(0x1a)), nop(), of(0x1a))
	lies(t, list(block(0x05, nop()), withBody(of(0x0b), nop())), block(0x05), end())
}

func TestP104WhatCantStandThere(t *testing.T) {
	nestsNot(t, 0, turn())
	nestsNot(t, 1, nop(), turn(), end())
	nestsNot(t, 1, nop(), end())
	nestsNot(t, 2, block(0x02), end(), end())
	nestsNot(t, 2, block(0x04), end(), turn())
	nestsNot(t, 3, block(0x04), turn(), nop(), turn(), end())
	nestsNot(t, 2, block(0x04), block(0x02), turn(), end(), end())
	nestsNot(t, 4, block(0x04), turn(), block(0x04), end(), turn())
	for _, op := range []int{0x02, 0x03, 0x1f} {
		nestsNot(t, 1, block(op), turn(), end())
		nestsNot(t, 2, block(op), nop(), turn(), end())
	}
	for _, op := range []int{0x02, 0x03, 0x04, 0x1f, 0x01, 0x05, 0x0b, 0x7777} {
		for _, i := range list(withBody(of(op), nop()), withElse(of(op), nop()), withMark(of(op))) {
			nestsNot(t, 0, i, end())
			nestsNot(t, 2, nop(), block(0x04), i, end(), end())
			nestsNot(t, 3, block(0x04), turn(), nop(), i)
			nestsNot(t, 0, end(), i)
			nestsNot(t, 1, nop(), i, end())
		}
	}
	nests(t, list(api.Instr{Op: 0x01, Body: []api.Instr{}, Else: []api.Instr{}}), nop())
}

func TestP104LeftOpen(t *testing.T) {
	for _, op := range blocks() {
		nestsNot(t, 1, block(op))
		nestsNot(t, 3, nop(), block(op), nop())
		nestsNot(t, 4, block(0x02), block(op), nop(), end())
		nestsNot(t, 3, block(op), end(), block(op))
	}
	nestsNot(t, 2, block(0x04), turn())
	nestsNot(t, 4, block(0x04), nop(), turn(), nop())
	nestsNot(t, 300, many(block(0x03), 300)...)
}

// flatByWords is the flat form, part within part by calls of itself.
func flatByWords(l []api.Instr) []api.Instr {
	var out []api.Instr
	for _, i := range l {
		bare := i
		bare.Body, bare.Else, bare.HasElse = nil, nil, false
		out = append(out, bare)
		if i.Op == 0x02 || i.Op == 0x03 || i.Op == 0x04 || i.Op == 0x1f {
			out = append(out, flatByWords(i.Body)...)
			if i.HasElse {
				out = append(append(out, turn()), flatByWords(i.Else)...)
			}
			out = append(out, end())
		}
	}
	return out
}

func TestP104WhatIsMade(t *testing.T) {
	eachMade(106, 800, func(m *maker, l []api.Instr) {
		f := flatByWords(l)
		lies(t, l, f...)
		nests(t, f, l...)
		for n := range f {
			beginning(t, f[:n])
		}
	})
}

// beginning asks of a flat list's beginning that it is refused at its end, if a block is open there.
func beginning(t *testing.T, f []api.Instr) {
	t.Helper()
	open := 0
	for _, i := range f {
		switch i.Op {
		case 0x02, 0x03, 0x04, 0x1f:
			open++
		case 0x0b:
			open--
		}
	}
	if open > 0 {
		nestsNot(t, len(f), f...)
		return
	}
	nestsNot(t, len(f), append(list(f...), turn())...)
	nestsNot(t, len(f), append(list(f...), end())...)
}

// All short flat lists are nested, or refused where Expr refuses their bytes.
func TestP104AsExprReads(t *testing.T) {
	ops := []byte{0x01, 0x02, 0x04, 0x05, 0x0b, 0x1f}
	for size := range 7 {
		rows(ops, size, func(b []byte) {
			var flat []api.Instr
			var bytes []byte
			places := map[int]int{}
			for n, c := range b {
				places[len(bytes)] = n
				switch c {
				case 0x02, 0x04, 0x1f:
					flat = append(flat, block(int(c)))
					bytes = append(bytes, head(int(c))...)
				default:
					flat = append(flat, of(int(c)))
					bytes = append(bytes, c)
				}
			}
			places[len(bytes)] = len(b)
			asExpr(t, flat, append(bytes, 0x0b), places)
		})
	}
}

func asExpr(t *testing.T, flat []api.Instr, b []byte, places map[int]int) {
	t.Helper()
	l, place, e := code.Expr(b, 0)
	switch {
	case e == api.OK && place == len(b):
		nests(t, flat, l...)
	case e == api.OK:
		nestsNot(t, places[place-1], flat...)
	case e == api.ErrShort:
		nestsNot(t, len(flat), flat...)
	default:
		nestsNot(t, places[place], flat...)
	}
}
