package instr_test

import (
	"slices"
	"testing"

	"ratchet/api"
	"ratchet/instr"
)

// holds asks for whether two instructions are the same, either way round.
func holds(t *testing.T, a, b api.Instr, want bool) {
	t.Helper()
	if instr.Same(a, b) != want || instr.Same(b, a) != want {
		t.Errorf("Same(%.300s, %.300s) is not %v", told(a), told(b), want)
	}
}

// change is an instruction with another value in one field.
type change struct {
	field string
	make  func(*api.Instr)
}

// changes are one and more of each field.
func changes() []change {
	return []change{
		{"X", func(i *api.Instr) { i.X++ }},
		{"X", func(i *api.Instr) { i.X ^= 1 << 31 }},
		{"Y", func(i *api.Instr) { i.Y++ }},
		{"Y", func(i *api.Instr) { i.Y ^= 1 << 31 }},
		{"N", func(i *api.Instr) { i.N++ }},
		{"N", func(i *api.Instr) { i.N ^= 1 << 31 }},
		{"N", func(i *api.Instr) { i.N ^= 1 << 63 }},
		{"Mem", func(i *api.Instr) { i.Mem.Align++ }},
		{"Mem", func(i *api.Instr) { i.Mem.Mem++ }},
		{"Mem", func(i *api.Instr) { i.Mem.Offset ^= 1 << 63 }},
		{"Block", func(i *api.Instr) { i.Block.Type++ }},
		{"Block", func(i *api.Instr) { i.Block.Result = refNull(77) }},
		{"Labels", func(i *api.Instr) { i.Labels = append(slices.Clone(i.Labels), 0) }},
		{"Labels", func(i *api.Instr) { i.Labels = append([]uint32{99}, i.Labels[1:]...) }},
		{"Labels", func(i *api.Instr) { i.Labels = i.Labels[:1] }},
		{"Labels", func(i *api.Instr) { i.Labels = nil }},
		{"Types", func(i *api.Instr) { i.Types = append(slices.Clone(i.Types), num(api.TI32)) }},
		{"Types", func(i *api.Instr) { i.Types = i.Types[:1] }},
		{"Types", func(i *api.Instr) { i.Types = nil }},
		{"Types", func(i *api.Instr) { i.Types = []api.ValType{i.Types[0], refNull(5)} }},
		{"Types", func(i *api.Instr) { i.Types = []api.ValType{i.Types[0], ref(6)} }},
		{"Types", func(i *api.Instr) { i.Types = []api.ValType{num(api.TI64), i.Types[1]} }},
		{"Types", func(i *api.Instr) { i.Types = []api.ValType{i.Types[1], i.Types[0]} }},
		{"Catches", func(i *api.Instr) { i.Catches = i.Catches[:1] }},
		{"Catches", func(i *api.Instr) { i.Catches = nil }},
		{"Catches", func(i *api.Instr) { i.Catches = append(slices.Clone(i.Catches), api.Catch{}) }},
		{"Catches", func(i *api.Instr) { i.Catches = []api.Catch{i.Catches[0], {Kind: 1, Tag: 3, Label: 4}} }},
		{"Catches", func(i *api.Instr) { i.Catches = []api.Catch{i.Catches[0], {Kind: 0, Tag: 9, Label: 4}} }},
		{"Catches", func(i *api.Instr) { i.Catches = []api.Catch{i.Catches[0], {Kind: 0, Tag: 3, Label: 9}} }},
		{"Body", func(i *api.Instr) { i.Body = nil }},
		{"Body", func(i *api.Instr) { i.Body = append(slices.Clone(i.Body), of("nop")) }},
		{"Body", func(i *api.Instr) { i.Body = []api.Instr{i.Body[0], withN("i32.const", 2)} }},
		{"Body", func(i *api.Instr) { i.Body = []api.Instr{i.Body[1], i.Body[0]} }},
		{"Else", func(i *api.Instr) { i.Else = nil }},
		{"Else", func(i *api.Instr) { i.Else = []api.Instr{withX("local.get", 3)} }},
		{"Else", func(i *api.Instr) { i.Else = append(slices.Clone(i.Else), of("nop")) }},
		{"HasElse", func(i *api.Instr) { i.HasElse = !i.HasElse }},
	}
}

// base is an instruction with something in each field.
func base(op int) api.Instr {
	return api.Instr{
		Op: op, X: 1, Y: 2, N: 3, Mem: api.MemArg{Align: 1, Mem: 2, Offset: 3}, Block: api.Block{Type: -1, Result: num(api.TI32)},
		Body: []api.Instr{of("nop"), withN("i32.const", 1)}, Else: []api.Instr{withX("local.get", 2)}, HasElse: true,
		Labels: []uint32{5, 6}, Types: []api.ValType{num(api.TI32), ref(5)}, Catches: []api.Catch{{Kind: 3, Label: 2}, {Kind: 0, Tag: 3, Label: 4}},
	}
}

// allFields are the fields that an instruction of that opcode has, bodies too.
func allFields(op int) []string {
	fields := fieldsOf(op)
	switch op {
	case 0x02, 0x03, 0x1f:
		return append([]string{"Body"}, fields...)
	case 0x04:
		return append([]string{"Body", "Else", "HasElse"}, fields...)
	}
	return fields
}

// Of each instruction just the fields count that its form has.
func TestIS6EachField(t *testing.T) {
	for _, r := range table() {
		a := base(r.op)
		holds(t, a, base(r.op), true)
		has := allFields(r.op)
		for _, c := range changes() {
			b := base(r.op)
			c.make(&b)
			holds(t, a, b, !slices.Contains(has, c.field))
		}
		other := noise()
		other.Op = r.op
		holds(t, a, other, len(has) == 0)
	}
}

func TestIS6Opcodes(t *testing.T) {
	ops := append(instr.Ops(), -1, 0x06, 0xfd)
	for _, a := range ops {
		for _, b := range ops {
			holds(t, api.Instr{Op: a}, api.Instr{Op: b}, a == b)
		}
	}
}

func TestIS6NilAndEmptyLists(t *testing.T) {
	for _, r := range table() {
		empty := api.Instr{Op: r.op, Body: []api.Instr{}, Else: []api.Instr{}, Labels: []uint32{}, Types: []api.ValType{}, Catches: []api.Catch{}}
		holds(t, empty, api.Instr{Op: r.op}, true)
	}
}

// As in package types, a number type's Null and Heap count for nothing.
func TestIS6Types(t *testing.T) {
	holds(t, withTypes("select_t", num(api.TI32)), withTypes("select_t", api.ValType{Num: api.TI32, Null: true, Heap: 4}), true)
	holds(t, withBlock("block", result(num(api.TI32))), withBlock("block", result(api.ValType{Num: api.TI32, Heap: 4})), true)
	holds(t, withTypes("ref.null", refNull(1)), withTypes("ref.null", ref(1)), false)
	holds(t, withTypes("ref.null", refNull(1)), withTypes("ref.null", refNull(2)), false)
	holds(t, withBlock("if", result(ref(1))), withBlock("if", result(refNull(1))), false)
	holds(t, withBlock("loop", api.Block{Type: 0}), withBlock("loop", bare()), false)
}

// nested is an instruction within so many blocks, of one kind after another.
func nested(i api.Instr, depth int) api.Instr {
	for n := range depth {
		around := withBlock([]string{"block", "loop", "if", "try_table", "if"}[n%5], bare())
		around.Body = []api.Instr{of("nop"), i}
		if n%5 == 4 {
			around.Body, around.Else, around.HasElse = []api.Instr{of("nop")}, []api.Instr{i, of("nop")}, true
		}
		i = around
	}
	return i
}

func TestIS6NestedBodies(t *testing.T) {
	for _, depth := range []int{0, 1, 2, 3, 4, 5, 6, 10, 256, 1 << 16} {
		a := nested(withN("i32.const", 1), depth)
		holds(t, a, nested(withN("i32.const", 1), depth), true)
		holds(t, a, nested(withN("i32.const", 2), depth), false)
		holds(t, a, nested(of("nop"), depth), false)
		holds(t, a, nested(withN("i32.const", 1), depth+1), false)
		more := withN("i32.const", 1)
		more.Body, more.X = []api.Instr{of("nop")}, 7
		holds(t, a, nested(more, depth), true)
	}
}

func TestIS6Elses(t *testing.T) {
	a := withBlock("if", bare())
	b := withBlock("if", bare())
	b.HasElse = true
	holds(t, a, b, false)
	a.HasElse = true
	holds(t, a, b, true)
	a.Else = []api.Instr{of("nop")}
	holds(t, a, b, false)
	b.Body = []api.Instr{of("nop")}
	holds(t, a, b, false)
	// What stands in the one part is not the same as what stands in the other.
	a.Body, a.Else, b.Body, b.Else = []api.Instr{of("nop")}, []api.Instr{of("drop")}, []api.Instr{of("drop")}, []api.Instr{of("nop")}
	holds(t, a, b, false)
	a.Body, a.Else, b.Body, b.Else = []api.Instr{of("nop"), of("drop")}, nil, []api.Instr{of("nop")}, []api.Instr{of("drop")}
	holds(t, a, b, false)
}

// Two that were made are the same just if all their fields are, since those that the form doesn't have are zero in both.
func TestIS6WhatIsMade(t *testing.T) {
	var last api.Instr
	same := 0
	eachMade(96, 400, func(m *maker, i api.Instr) {
		if is := told(i) == told(last); last.Op == i.Op {
			holds(t, i, last, is)
			if is {
				same++
			}
		}
		last = i
	})
	if same < 100 {
		t.Errorf("only %d of those that were made are the same", same)
	}
}
