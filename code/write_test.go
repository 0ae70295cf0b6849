package code_test

import (
	"bytes"
	"math"
	"testing"

	"ratchet/api"
	"ratchet/code"
)

func TestP103Expressions(t *testing.T) {
	writes(t, nil, bin("0b"))
	writes(t, list(constant(7)), bin("41 07 0b"))
	writes(t, list(block(0x02)), bin("02 40 0b 0b"))
	writes(t, list(block(0x04)), bin("04 40 0b 0b"))
	writes(t, list(both(nil, nil)), bin("04 40 05 0b 0b"))
	writes(t, list(both(list(nop()), nil), of(0x1a)), bin("04 40 01 05 0b 1a 0b"))
	writes(t, list(both(nil, list(nop())), of(0x1a)), bin("04 40 05 01 0b 1a 0b"))
	writes(t, list(api.Instr{Op: 0x02, Block: none(), Body: []api.Instr{}, Else: []api.Instr{}}), bin("02 40 0b 0b"))
	writes(t, list(api.Instr{Op: 0x01, Body: []api.Instr{}, Else: []api.Instr{}}), bin("01 0b"))
	for _, outer := range blocks() {
		for _, inner := range blocks() {
			b := append(append(head(outer), 0x01), head(inner)...)
			writes(t, list(block(outer, nop(), block(inner, constant(5)), of(0x1a)), of(0)), append(b, bin("41 05 0b 1a 0b 00 0b")...))
			b = append(append(bin("04 40 01 05"), head(inner)...), bin("00 0b 1a 0b 0b")...)
			writes(t, list(both(list(nop()), list(block(inner, of(0)), of(0x1a)))), b)
		}
	}
}

func TestP103WhatIsMadeIsWrittenShortest(t *testing.T) {
	eachMade(105, 1500, func(m *maker, l []api.Instr) { writes(t, l, m.tight) })
}

// misfits are instructions that may not be so.
func misfits() []api.Instr {
	out := list(of(0x05), of(0x0b), block(0x05, nop()), block(0x0b, nop()))
	for _, op := range []int{0x00, 0x01, 0x0c, 0x41, 0x1c, 0xd0, 0xfb08, 0xfc11} {
		i := api.Instr{Op: op, Types: []api.ValType{refNull(api.HFunc)}}
		out = append(out, withBody(i, nop()), withElse(i, nop()), withMark(i), withElse(withMark(i), nop()))
	}
	for _, op := range []int{0x02, 0x03, 0x1f} {
		out = append(out, withElse(block(op), nop()), withMark(block(op)), withElse(withMark(block(op, nop())), nop()))
	}
	return append(out, withElse(block(0x04), nop()), withElse(block(0x04, nop()), nop()))
}

func withBody(i api.Instr, l ...api.Instr) api.Instr {
	i.Body = l
	return i
}

func withElse(i api.Instr, l ...api.Instr) api.Instr {
	i.Else = l
	return i
}

func withMark(i api.Instr) api.Instr {
	i.HasElse = true
	return i
}

// unwritable are instructions that instr.Write refuses, by their errors.
func unwritable() map[api.Errno][]api.Instr {
	return map[api.Errno][]api.Instr{
		api.ErrArg: {
			of(0x06), of(-1), of(0xfd00), of(0xfb1f), of(math.MaxInt), constant(1 << 32), {Op: 0x28, Mem: api.MemArg{Align: 0x40}}, of(0xd0),
			{Op: 0x02, Block: api.Block{Type: -2}}, {Op: 0x04, Block: api.Block{Type: -1, Result: num(api.T8)}, HasElse: true},
			{Op: 0x1f, Block: none(), Catches: []api.Catch{{Kind: 4}}},
		},
		api.ErrLong: {
			{Op: 0x0e, Labels: make([]uint32, api.MaxLabels+1)}, {Op: 0x1c, Types: many(num(api.TI32), api.MaxParams+1)},
			{Op: 0x1f, Block: none(), Catches: make([]api.Catch, api.MaxLabels+1), Body: list(nop())},
		},
	}
}

// around are lists in which an instruction stands, at all kinds of places.
func around(i api.Instr) [][]api.Instr {
	fine := []api.Instr{nop(), block(0x02, nop()), both(list(nop()), list(nop()))}
	return [][]api.Instr{
		list(i), append(list(i), fine...), append(list(fine...), i), list(fine[2], i, fine[1]),
		list(block(0x03, nop(), i)), list(block(0x1f, i, nop())), list(nop(), block(0x04, nop(), i)), list(both(list(i), nil)),
		list(both(nil, list(i)), nop()), list(both(list(nop()), list(nop(), block(0x02, i), nop()))), deep(50, 0x02, i),
	}
}

func TestP103Misfits(t *testing.T) {
	for _, i := range misfits() {
		for _, l := range around(i) {
			writesNot(t, api.ErrForm, l...)
		}
	}
}

func TestP103Unwritable(t *testing.T) {
	for e, l := range unwritable() {
		for _, i := range l {
			for _, l := range around(i) {
				writesNot(t, e, l...)
			}
		}
	}
}

// Of one instruction what it has and may not have comes first, ahead of what instr.Write says of it.
func TestP103MisfitAheadOfUnwritable(t *testing.T) {
	for _, l := range unwritable() {
		for _, i := range l {
			if i.Op == 0x04 {
				i.Op = 0x02
			}
			writesNot(t, api.ErrForm, withElse(i, nop()), nop())
			writesNot(t, api.ErrForm, withMark(i))
			if i.Op != 0x02 && i.Op != 0x1f {
				writesNot(t, api.ErrForm, withBody(i, nop()))
			}
		}
	}
}

// Of several instructions the first that would be written decides: a block's head is ahead of its parts, these ahead of what follows.
func TestP103TheFirstInWriting(t *testing.T) {
	for e, l := range unwritable() {
		for _, bad := range l {
			for _, odd := range misfits()[:8] {
				for _, x := range [][2]api.Instr{{bad, odd}, {odd, bad}} {
					want := api.ErrForm
					if x[0].Op == bad.Op {
						want = e
					}
					writesNot(t, want, nop(), x[0], x[1])
					writesNot(t, want, block(0x02, x[0]), x[1])
					writesNot(t, want, block(0x02, nop(), x[0], nop(), x[1]))
					writesNot(t, want, both(list(x[0]), list(x[1])))
					writesNot(t, want, both(nil, list(x[0])), x[1])
					writesNot(t, want, both(list(block(0x1f, x[0]), x[1]), nil))
				}
			}
		}
	}
	odd := block(0x05, nop())
	writesNot(t, api.ErrArg, withBody(api.Instr{Op: 0x02, Block: api.Block{Type: -2}}, odd))
	writesNot(t, api.ErrForm, withMark(block(0x02, of(0x06))))
	writesNot(t, api.ErrForm, withElse(block(0x04, of(0x06)), nop()))
	writesNot(t, api.ErrForm, withBody(nop(), of(0x06)))
	writesNot(t, api.ErrArg, both(list(of(0x06)), list(withBody(nop(), nop()))))
}

func TestP103AtTheLimits(t *testing.T) {
	for _, op := range blocks() {
		for _, d := range []int{api.MaxNest - 1, api.MaxNest} {
			writes(t, deep(d, op), append(deepBytes(d, op), 0x0b))
			writes(t, deep(d, op, nop(), nop()), append(deepBytes(d, op, 0x01, 0x01), 0x0b))
		}
		writesNot(t, api.ErrLong, deep(api.MaxNest+1, op)...)
		writesNot(t, api.ErrLong, deep(1000, op)...)
		writesNot(t, api.ErrLong, both(nil, deep(api.MaxNest, op)))
		writesNot(t, api.ErrLong, append(list(nop(), nop()), deep(api.MaxNest+1, op, nop())...)...)
	}
	n := api.MaxBody
	nops := many(nop(), n)
	if b, e := code.PutExpr(nops); !bytes.Equal(b, append(bytes.Repeat([]byte{0x01}, n), 0x0b)) || e != api.OK {
		t.Errorf("PutExpr of MaxBody instructions: %s, %d", short(b), e)
	}
	writesNot(t, api.ErrLong, many(nop(), n+1)...)
	writesNot(t, api.ErrLong, block(0x02, nops...))
	writesNot(t, api.ErrLong, append(list(both(nil, list(nop()))), nops[:n-1]...)...)
	inner := list(both(nops[:n/2-1], nops[:n/2]))
	if b, e := code.PutExpr(inner); len(b) != n-1+5 || e != api.OK {
		t.Errorf("PutExpr of MaxBody instructions in an if: %s, %d", short(b), e)
	}
	writesNot(t, api.ErrLong, append(inner, nop())...)
	writesNot(t, api.ErrLong, both(nops[:n/2], nops[:n/2]))
}

// What is too deep or too many is said ahead of all else.
func TestP103LimitsAheadOfAll(t *testing.T) {
	tooDeep, tooMany := deep(api.MaxNest+1, 0x03), many(nop(), api.MaxBody)
	for _, i := range []api.Instr{of(0x06), withBody(nop(), nop()), withMark(block(0x02))} {
		writesNot(t, api.ErrLong, append(list(i), tooDeep...)...)
		writesNot(t, api.ErrLong, append(tooDeep, i)...)
		writesNot(t, api.ErrLong, withElse(i, tooDeep...))
		writesNot(t, api.ErrLong, append(list(i), tooMany...)...)
	}
	writesNot(t, api.ErrLong, append(list(of(0x05)), tooDeep...)...)
	writesNot(t, api.ErrForm, append(list(of(0x05)), tooMany...)...)
	writesNot(t, api.ErrForm, append(list(of(0x0b)), tooMany...)...)
	writesNot(t, api.ErrLong, append(list(of(0x0b), nop()), tooMany...)...)
	writesNot(t, api.ErrLong, withBody(nop(), tooMany...))
	writesNot(t, api.ErrLong, withElse(nop(), tooDeep...))
}

// What is written is new memory.
func TestP103NewMemory(t *testing.T) {
	l := list(block(0x02, nop()))
	a, _ := code.PutExpr(l)
	b, _ := code.PutExpr(l)
	a[0] = 0xff
	if b[0] != 0x02 {
		t.Errorf("two answers of PutExpr share their bytes")
	}
	runs := []api.Local{run(1, num(api.TI32))}
	a, _ = code.PutLocals(runs)
	b, _ = code.PutLocals(runs)
	a[0] = 0xff
	if b[0] != 1 {
		t.Errorf("two answers of PutLocals share their bytes")
	}
}
