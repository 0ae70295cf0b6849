package code_test

import (
	"bytes"
	"fmt"
	"math"
	"testing"

	"ratchet/api"
	"ratchet/code"
)

func TestP101Examples(t *testing.T) {
	reads(t, bin("41 07 0b"), constant(7))
	reads(t, bin("02 40 0b 0b"), block(0x02))
	gives(t, bin("05 0b"), 0, api.ErrForm)
	gives(t, bin("04 40 05 05 0b 0b"), 3, api.ErrForm)
	gives(t, bin("41 07"), 2, api.ErrShort)
	reads(t, bin("0b"))
}

func TestP101EachBlockInEach(t *testing.T) {
	for _, outer := range blocks() {
		reads(t, append(head(outer), 0x0b, 0x0b), block(outer))
		reads(t, append(head(outer), 0x01, 0x0b, 0x1a, 0x0b), block(outer, nop()), of(0x1a))
		for _, inner := range blocks() {
			b := append(append(head(outer), 0x01), head(inner)...)
			b = append(b, bin("41 05 0b 1a 0b 00 0b")...)
			reads(t, b, block(outer, nop(), block(inner, constant(5)), of(0x1a)), of(0))
			b = append(append(bin("04 40 01 05"), head(inner)...), bin("00 0b 1a 0b 0b")...)
			reads(t, b, both(list(nop()), list(block(inner, of(0)), of(0x1a))))
			b = append(append(bin("04 40"), head(inner)...), bin("00 0b 05 0b 0b")...)
			reads(t, b, both(list(block(inner, of(0))), nil))
		}
	}
}

func TestP101HeadsAreKept(t *testing.T) {
	reads(t, bin("03 8b 00 1f 6e 02 01 02 03 02 05 0b 0b 0b"), api.Instr{Op: 0x03, Block: api.Block{Type: 11}, Body: list(api.Instr{
		Op: 0x1f, Block: api.Block{Type: -1, Result: refNull(api.HAny)}, Catches: []api.Catch{{Kind: 1, Tag: 2, Label: 3}, {Kind: 2, Label: 5}}})})
	reads(t, bin("04 7f 05 0b 0b"), api.Instr{Op: 0x04, Block: api.Block{Type: -1, Result: num(api.TI32)}, HasElse: true})
}

func TestP101Else(t *testing.T) {
	reads(t, bin("04 40 0b 0b"), block(0x04))
	reads(t, bin("04 40 05 0b 0b"), both(nil, nil))
	reads(t, bin("04 40 01 05 1a 0b 0b"), both(list(nop()), list(of(0x1a))))
	reads(t, bin("04 40 04 40 05 0b 05 04 40 05 0b 0b 0b"), both(list(both(nil, nil)), list(both(nil, nil))))
	reads(t, bin("04 40 04 40 0b 05 0b 0b"), both(list(block(0x04)), nil))
	gives(t, bin("05"), 0, api.ErrForm)
	gives(t, bin("01 05 0b"), 1, api.ErrForm)
	gives(t, bin("04 40 0b 05 0b"), 3, api.ErrForm)
	gives(t, bin("04 40 05 01 05 0b 0b"), 4, api.ErrForm)
	gives(t, bin("04 40 05 04 40 05 0b 05 0b 0b"), 7, api.ErrForm)
	for _, op := range []int{0x02, 0x03, 0x1f} {
		n := len(head(op))
		gives(t, append(head(op), 0x05, 0x0b, 0x0b), n, api.ErrForm)
		gives(t, append(head(op), 0x01, 0x05, 0x0b, 0x0b), n+1, api.ErrForm)
		gives(t, append(append(bin("04 40"), head(op)...), bin("05 0b 0b 0b")...), 2+n, api.ErrForm)
		reads(t, append(append(bin("04 40"), head(op)...), bin("0b 05 0b 0b")...), both(list(block(op)), nil))
		gives(t, append(append(bin("04 40 05"), head(op)...), bin("0b 05 0b 0b")...), 4+n, api.ErrForm)
		reads(t, append(append(head(op), bin("04 40 05 0b")...), bin("0b 0b")...), block(op, both(nil, nil)))
	}
}

func TestP101Places(t *testing.T) {
	b := bin("01 0b 0b 05")
	shows(t, b, 0, list(nop()), 2)
	shows(t, b, 1, nil, 2)
	shows(t, b, 2, nil, 3)
	refuses(t, b, 3, 3, api.ErrForm)
	refuses(t, b, 4, 4, api.ErrShort)
	refuses(t, nil, 0, 0, api.ErrShort)
	for _, at := range []int{-1, math.MinInt, 5, math.MaxInt} {
		if l, place, e := code.Expr(b, at); len(l) != 0 || place != 0 || e != api.ErrArg {
			t.Errorf("Expr at %d: %v, %d, %d", at, l, place, e)
		}
		if l, place, e := code.Locals(b, at); len(l) != 0 || place != 0 || e != api.ErrArg {
			t.Errorf("Locals at %d: %v, %d, %d", at, l, place, e)
		}
		if l, x, place, e := code.Body(b, at); len(l) != 0 || len(x) != 0 || place != 0 || e != api.ErrArg {
			t.Errorf("Body at %d: %v, %v, %d, %d", at, l, x, place, e)
		}
	}
	if l, place, e := code.Expr(nil, 1); len(l) != 0 || place != 0 || e != api.ErrArg {
		t.Errorf("Expr of nothing at 1: %v, %d, %d", l, place, e)
	}
}

func TestP101TheFirstFaultFromTheLeft(t *testing.T) {
	gives(t, bin("06 05 fd"), 0, api.ErrForm)
	gives(t, bin("fd 05 06"), 0, api.ErrSimd)
	gives(t, bin("05 fd 06"), 0, api.ErrForm)
	gives(t, bin("01 05 fd"), 1, api.ErrForm)
	gives(t, bin("02 7b 05 06"), 1, api.ErrSimd)
	gives(t, bin("02 40 fd 05"), 2, api.ErrSimd)
	gives(t, bin("02 40 05 fd"), 2, api.ErrForm)
	gives(t, bin("04 40 05 06"), 3, api.ErrForm)
	gives(t, bin("04 40 05 fd"), 3, api.ErrSimd)
	refuses(t, bin("04 40 05 01"), 0, 4, api.ErrShort)
	reads(t, bin("01 0b"), nop())
	shows(t, bin("01 0b fd 06 05"), 0, list(nop()), 2)
}

func TestP101BlocksWithinOneAnother(t *testing.T) {
	for _, op := range blocks() {
		n := len(head(op))
		for _, d := range []int{1, 100, api.MaxNest - 1, api.MaxNest} {
			shows(t, append(deepBytes(d, op), 0x0b), 0, deep(d, op), d*(n+1)+1)
			shows(t, append(deepBytes(d, op, 0x01), 0x0b), 0, deep(d, op, nop()), d*(n+1)+2)
		}
		for _, inner := range blocks() {
			least := append(head(inner), 0x0b)
			shows(t, append(deepBytes(api.MaxNest-1, op, least...), 0x0b), 0, deep(api.MaxNest-1, op, block(inner)), api.MaxNest*(n+1)+len(least)-n)
			refuses(t, append(deepBytes(api.MaxNest, op, least...), 0x0b), 0, api.MaxNest*n, api.ErrLong)
			refuses(t, append(deepBytes(api.MaxNest, op, append([]byte{0x01}, least...)...), 0x0b), 0, api.MaxNest*n+1, api.ErrLong)
		}
	}
	refuses(t, append(deepBytes(api.MaxNest-1, 0x02, bin("04 40 05 02 40 0b 0b")...), 0x0b), 0, 2*api.MaxNest+1, api.ErrLong)
	refuses(t, append(deepBytes(api.MaxNest-1, 0x02, bin("04 40 0b 02 40 05 0b")...), 0x0b), 0, 2*api.MaxNest+3, api.ErrForm)
}

// Blocks side by side are not within one another.
func TestP101BlocksBesideOneAnother(t *testing.T) {
	d := api.MaxNest - 1
	b := append(deepBytes(d, 0x03, bytes.Repeat(bin("02 40 0b 04 40 05 0b"), 200)...), 0x0b)
	want := deep(d, 0x03, times(list(block(0x02), both(nil, nil)), 200)...)
	shows(t, b, 0, want, len(b))
	b = append(bytes.Repeat(deepBytes(api.MaxNest, 0x1f), 3), 0x0b)
	want = times(deep(api.MaxNest, 0x1f), 3)
	shows(t, b, 0, want, len(b))
}

// times is a list so many times behind itself.
func times(l []api.Instr, n int) []api.Instr {
	var out []api.Instr
	for range n {
		out = append(out, l...)
	}
	return out
}

// An instruction that is too deep and can't be read can't be read.
func TestP101UnreadableAheadOfTooDeep(t *testing.T) {
	for _, w := range unreadable() {
		b := append(bytes.Repeat(head(0x02), api.MaxNest), w.b...)
		refuses(t, b, 0, 2*api.MaxNest+w.at, w.e)
	}
	refuses(t, append(bytes.Repeat(head(0x02), api.MaxNest), 0x02), 0, 2*api.MaxNest+1, api.ErrShort)
	refuses(t, append(bytes.Repeat(head(0x02), api.MaxNest), 0x02, 0x40), 0, 2*api.MaxNest, api.ErrLong)
	refuses(t, append(bytes.Repeat(head(0x02), api.MaxNest), 0x05), 0, 2*api.MaxNest, api.ErrForm)
	refuses(t, append(bytes.Repeat(head(0x02), api.MaxNest), 0x02, 0x40, 0x7b), 0, 2*api.MaxNest, api.ErrLong)
}

// counts asks Expr for so many instructions, and the place behind the bytes.
func counts(t *testing.T, b []byte, n int) {
	t.Helper()
	l, place, e := code.Expr(b, 0)
	if code.Count(l) != n || place != len(b) || e != api.OK {
		t.Errorf("Expr(%s): %d instructions, %d, %d, not %d, %d", short(b), code.Count(l), place, e, n, len(b))
	}
}

func TestP101ManyInstructions(t *testing.T) {
	n := api.MaxBody
	nops := bytes.Repeat([]byte{0x01}, n)
	counts(t, append(bytes.Clone(nops), 0x0b), n)
	stops(t, append(bytes.Clone(nops), 0x01, 0x0b), 0, n, api.ErrLong)
	stops(t, append(bytes.Clone(nops), 0x05, 0x0b), 0, n, api.ErrForm)
	stops(t, nops, 0, n, api.ErrShort)
	stops(t, append(bytes.Clone(nops), bin("02 7b")...), 0, n+1, api.ErrSimd)
	stops(t, append(bytes.Clone(nops), 0x06), 0, n, api.ErrForm)
}

// Blocks and what stands in them count, elses and ends do not.
func TestP101ManyNestedInstructions(t *testing.T) {
	n := api.MaxBody
	ifs := bytes.Repeat(bin("04 40 01 05 1a 00 0b"), n/4)
	counts(t, append(bytes.Clone(ifs), 0x0b), n)
	stops(t, append(bytes.Clone(ifs), 0x00, 0x0b), 0, len(ifs), api.ErrLong)
	inner := append(bin("02 40"), bytes.Repeat([]byte{0x01}, n-1)...)
	counts(t, append(bytes.Clone(inner), 0x0b, 0x0b), n)
	stops(t, append(bytes.Clone(inner), 0x41, 0x05, 0x0b, 0x0b), 0, n+1, api.ErrLong)
	stops(t, append(bytes.Clone(inner), 0x0b, 0x01, 0x0b), 0, n+2, api.ErrLong)
	second := append(bin("04 40 05"), bytes.Repeat([]byte{0x01}, n-1)...)
	counts(t, append(bytes.Clone(second), 0x0b, 0x0b), n)
	stops(t, append(bytes.Clone(second), 0x01), 0, n+2, api.ErrLong)
}

func TestP101WhatIsMadeIsRead(t *testing.T) {
	eachMade(101, 1500, func(m *maker, l []api.Instr) {
		ahead := m.junk()
		b := append(append(bytes.Clone(ahead), m.loose...), m.junk()...)
		shows(t, b, len(ahead), l, len(ahead)+len(m.loose))
		shows(t, m.tight, 0, l, len(m.tight))
	})
}

func TestP101EndsEarlyAtEachPlace(t *testing.T) {
	eachMade(102, 150, func(m *maker, l []api.Instr) {
		for end := range m.loose {
			refuses(t, m.loose[:end], 0, end, api.ErrShort)
			refuses(t, append([]byte{0x0b}, m.loose[:end]...), 1, end+1, api.ErrShort)
		}
	})
}

func TestP101EachPlaceWhereSomethingCantStand(t *testing.T) {
	eachMade(103, 150, func(m *maker, l []api.Instr) {
		for _, p := range m.parts {
			for _, w := range p.wrongs {
				refuses(t, m.instead(p, w), 0, p.at+w.at, w.e)
			}
		}
	})
}

// rows goes over all rows of so many bytes of some.
func rows(of []byte, size int, see func(b []byte)) {
	b := make([]byte, size)
	var fill func(i int)
	fill = func(i int) {
		if i == len(b) {
			see(b)
			return
		}
		for _, c := range of {
			b[i] = c
			fill(i + 1)
		}
	}
	fill(0)
}

// everyRow goes over all rows of at most two bytes, and longer ones of bytes that mean something.
func everyRow(see func(b []byte)) {
	all := make([]byte, 256)
	for i := range all {
		all[i] = byte(i)
	}
	for size := range 3 {
		rows(all, size, see)
	}
	for size := 3; size <= 6; size++ {
		rows([]byte{0x01, 0x04, 0x05, 0x0b, 0x1f, 0x40}, size, see)
	}
	for size := 7; size <= 9; size++ {
		rows([]byte{0x04, 0x05, 0x0b}, size, see)
	}
}

func TestP101ByItsGrammar(t *testing.T) {
	taken := 0
	everyRow(func(b []byte) {
		want, next, fault := byGrammar(b, 0)
		l, place, e := code.Expr(b, 0)
		if e == api.OK {
			taken++
		}
		if place != next || e != fault || fmt.Sprint(l) != fmt.Sprint(want) {
			t.Errorf("Expr(%x): %s, %d, %d, not %s, %d, %d", b, sketch(l), place, e, sketch(want), next, fault)
		}
	})
	if taken < 1000 {
		t.Errorf("only %d rows were taken", taken)
	}
}

// Lists of an answer share no memory, and have no room: what one appends to them is not written over by another.
func TestP101ListsHaveNoRoom(t *testing.T) {
	eachMade(104, 200, func(m *maker, l []api.Instr) {
		got, _, _ := code.Expr(m.loose, 0)
		nested, _, _ := code.Nest(code.Flat(got))
		for _, x := range [][]api.Instr{got, nested} {
			if !growsApart(x) || told(x) != told(l) {
				t.Errorf("of %x: %s, not %s, or with room", m.loose, sketch(x), sketch(l))
			}
		}
	})
}

// growsApart appends to each list within a list, twice.
func growsApart(l []api.Instr) bool {
	first, second := append(l, of(1)), append(l, of(2))
	apart := first[len(l)].Op == 1 && second[len(l)].Op == 2
	for _, i := range l {
		apart = growsApart(i.Body) && growsApart(i.Else) && apart
	}
	return apart
}
