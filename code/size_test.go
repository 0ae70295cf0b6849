package code_test

import (
	"testing"

	"ratchet/api"
	"ratchet/code"
	"ratchet/instr"
)

// measures asks for a list's count and depth.
func measures(t *testing.T, count, depth int, l ...api.Instr) {
	t.Helper()
	if c, d := code.Count(l), code.Depth(l); c != count || d != depth {
		t.Errorf("Count, Depth of %s: %d, %d, not %d, %d", sketch(l), c, d, count, depth)
	}
}

func TestP105CountAndDepth(t *testing.T) {
	measures(t, 0, 0)
	measures(t, 1, 0, nop())
	measures(t, 3, 0, nop(), nop(), constant(2))
	for _, op := range blocks() {
		measures(t, 1, 1, block(op))
		measures(t, 2, 1, block(op, nop()))
		measures(t, 2, 1, nop(), block(op))
		measures(t, 4, 1, block(op), block(op, nop()), nop())
		measures(t, 5, 2, block(op, nop(), block(0x02)), nop(), block(op))
		measures(t, 5, 3, block(op, both(nil, list(block(op), nop()))), nop())
		measures(t, 5, 3, block(op, both(list(block(op)), nil)), nop(), nop())
		for _, d := range []int{10, api.MaxNest, api.MaxNest + 1, 20000} {
			measures(t, d, d, deep(d, op)...)
			measures(t, d+3, d, append(deep(d, op, nop(), nop()), nop())...)
		}
	}
	measures(t, 1, 1, both(nil, nil))
	measures(t, 4, 1, both(list(nop()), list(nop(), nop())))
	measures(t, 6, 3, both(deep(1, 0x02), deep(2, 0x03)), both(nil, list(nop())))
	measures(t, 5, 4, both(deep(3, 0x02), list(nop())))
	measures(t, api.MaxBody+1, 0, many(nop(), api.MaxBody+1)...)
}

// Elses and ends are no instructions, wherever they stand; what stands in an instruction counts, whether it may or not.
func TestP105WhatMayNotBe(t *testing.T) {
	measures(t, 0, 0, turn(), end())
	measures(t, 2, 1, block(0x04), turn(), nop(), end())
	measures(t, 1, 0, withBody(turn(), nop()), end())
	measures(t, 2, 1, block(0x02, turn(), nop(), end()))
	measures(t, 3, 0, withElse(withBody(nop(), of(0)), of(0)))
	measures(t, 2, 1, withBody(nop(), block(0x02)))
	measures(t, 3, 2, withElse(block(0x02), block(0x03, nop())))
	measures(t, 2, 1, withElse(block(0x04), nop()))
	measures(t, 2, 0, of(-1), of(0x7777))
}

func TestP105FlatCountsAsNested(t *testing.T) {
	eachMade(107, 400, func(m *maker, l []api.Instr) {
		flat, deepest, open := code.Flat(l), 0, 0
		for _, i := range flat {
			switch instr.Name(i.Op) {
			case "block", "loop", "if", "try_table":
				open++
				deepest = max(deepest, open)
			case "end":
				open--
			}
		}
		measures(t, m.count, deepest, l...)
		measures(t, m.count, min(deepest, 1), flat...)
		for _, op := range instr.Ops() {
			want := false
			for _, i := range flat {
				want = want || i.Op == op && op != 0x05 && op != 0x0b
			}
			uses(t, want, op, l...)
		}
	})
}

func uses(t *testing.T, want bool, op int, l ...api.Instr) {
	t.Helper()
	if got := code.Uses(l, op); got != want {
		t.Errorf("Uses(%s, %x): %v", sketch(l), op, got)
	}
}

func TestP105Uses(t *testing.T) {
	uses(t, false, 0x00)
	uses(t, true, 0x01, nop())
	uses(t, false, 0x00, nop())
	uses(t, true, 0x1a, of(0xfb00), nop(), of(0x1a))
	uses(t, false, 0x02, nop(), block(0x03, nop()))
	for _, i := range list(of(0x1a), of(0xfc08), block(0x03)) {
		for _, l := range around(i) {
			uses(t, true, i.Op, l...)
			uses(t, false, 0xfc09, l...)
			uses(t, false, 0x08, l...)
		}
	}
	uses(t, true, 0xfb09, deep(5000, 0x02, of(0xfb09))...)
	uses(t, false, 0xfb0a, deep(5000, 0x02, of(0xfb09))...)
	l := list(both(list(nop()), list(of(0))))
	uses(t, false, 0x05, l...)
	uses(t, false, 0x0b, l...)
	uses(t, true, 0x04, l...)
	uses(t, true, 0x05, code.Flat(l)...)
	uses(t, true, 0x0b, code.Flat(l)...)
	uses(t, true, 0x1a, withBody(nop(), of(0x1a)))
	uses(t, true, 0x1a, withElse(block(0x02), of(0x1a)))
	uses(t, true, -1, of(-1))
	uses(t, false, -1, of(0xffff))
}

func agree(t *testing.T, want bool, a, b []api.Instr) {
	t.Helper()
	if code.Same(a, b) != want || code.Same(b, a) != want {
		t.Errorf("Same(%s; %s): not %v", sketch(a), sketch(b), want)
	}
}

func TestP105Same(t *testing.T) {
	agree(t, true, nil, []api.Instr{})
	agree(t, false, nil, list(nop()))
	agree(t, true, list(nop()), list(nop()))
	agree(t, false, list(nop()), list(nop(), nop()))
	agree(t, false, list(nop(), of(0)), list(of(0), nop()))
	agree(t, false, list(constant(1)), list(constant(2)))
	agree(t, false, list(both(nil, nil)), list(block(0x04)))
	agree(t, false, list(block(0x02, nop()), nop()), list(block(0x02), nop(), nop()))
	agree(t, false, list(block(0x02, nop())), code.Flat(list(block(0x02, nop()))))
	agree(t, true, list(api.Instr{Op: 0x01, X: 5}), list(nop()))
	for n, a := range around(constant(1)) {
		agree(t, true, a, around(constant(1))[n])
		agree(t, false, a, around(constant(2))[n])
		agree(t, false, a, around(of(0x1a))[n])
		agree(t, false, a, append(list(a...), nop()))
	}
	agree(t, true, deep(5000, 0x03, constant(1)), deep(5000, 0x03, constant(1)))
	agree(t, false, deep(5000, 0x03, constant(1)), deep(5000, 0x03, constant(2)))
	agree(t, false, deep(5000, 0x03), deep(5001, 0x03))
}

func TestP105SameOfWhatIsMade(t *testing.T) {
	var before []api.Instr
	eachMade(108, 400, func(m *maker, l []api.Instr) {
		agree(t, true, l, plain(l))
		agree(t, told(l) == told(before), l, before)
		before = l
	})
}
