package code_test

import (
	"bytes"
	"testing"

	"ratchet/api"
	"ratchet/code"
)

// back asks that what is written is read as what it was, and ends where the bytes do.
func back(t *testing.T, l []api.Instr) []byte {
	t.Helper()
	b, e := code.PutExpr(l)
	if e != api.OK {
		t.Errorf("PutExpr(%s): %d", sketch(l), e)
		return nil
	}
	got, place, e := code.Expr(b, 0)
	if !same(got, l) || !code.Same(got, l) || place != len(b) || e != api.OK {
		t.Errorf("Expr of PutExpr(%s): %s, %d, %d", sketch(l), sketch(got), place, e)
	}
	return b
}

func TestP106WhatIsWrittenIsRead(t *testing.T) {
	eachMade(109, 1500, func(m *maker, l []api.Instr) { back(t, l) })
	back(t, deep(api.MaxNest, 0x1f, nop()))
}

// What Expr reads, PutExpr writes in at most as many bytes, and as itself again.
func TestP106WhatIsReadIsWritten(t *testing.T) {
	see := func(b []byte) {
		l, place, e := code.Expr(b, 0)
		if e != api.OK {
			return
		}
		out := back(t, l)
		if len(out) > place {
			t.Errorf("Expr(%x), written: %x", b[:place], out)
		}
		again, _, _ := code.Expr(out, 0)
		if twice := back(t, again); !bytes.Equal(out, twice) {
			t.Errorf("PutExpr of %x, read: %x", out, twice)
		}
	}
	everyRow(see)
	eachMade(110, 800, func(m *maker, l []api.Instr) { see(m.loose) })
}

func TestP106NestOfFlat(t *testing.T) {
	eachMade(111, 1500, func(m *maker, l []api.Instr) {
		got, place, e := code.Nest(code.Flat(l))
		if told(got) != told(l) || place != 0 || e != api.OK {
			t.Errorf("Nest of Flat(%s): %s, %d, %d", sketch(l), sketch(got), place, e)
		}
	})
}

// No expression that Expr reads as the same has fewer bytes.
func TestP106Shortest(t *testing.T) {
	shortest := map[string]int{}
	everyRow(func(b []byte) {
		l, place, e := code.Expr(b, 0)
		if e != api.OK {
			return
		}
		text := told(l)
		if n, ok := shortest[text]; !ok || place < n {
			shortest[text] = place
		}
	})
	everyRow(func(b []byte) {
		if l, _, e := code.Expr(b, 0); e == api.OK {
			if out, _ := code.PutExpr(l); len(out) > shortest[told(l)] {
				t.Errorf("PutExpr(%s): %x, though there is one of %d bytes", sketch(l), out, shortest[told(l)])
			}
		}
	})
}

// Bytes behind an expression's end have no part in anything.
func TestP106NothingBehindIsRead(t *testing.T) {
	everyRow(func(b []byte) {
		l, place, e := code.Expr(b, 0)
		if e == api.ErrShort {
			if place != len(b) {
				t.Errorf("Expr(%x): ErrShort at %d", b, place)
			}
			return
		}
		got, at, f := code.Expr(append(bytes.Clone(b), 0x05, 0xfd), 0)
		if at != place || f != e || !same(got, l) {
			t.Errorf("Expr(%x): %s, %d, %d; with more behind: %s, %d, %d", b, sketch(l), place, e, sketch(got), at, f)
		}
	})
}
