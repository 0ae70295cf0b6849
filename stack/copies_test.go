package stack_test

import (
	"slices"
	"testing"

	"ratchet/api"
	"ratchet/opcode"
	"ratchet/stack"
)

// spoil writes over a list, and over what could be appended to it.
func spoil(l []api.ValType) {
	l = l[:cap(l)]
	for n := range l {
		l[n] = api.ValType{Num: 77, Null: true, Heap: 77}
	}
}

// spoilGroups writes over all that a list of groups holds.
func spoilGroups(l []api.RecType) {
	for g := range l {
		for n := range l[g].Types {
			s := &l[g].Types[n]
			spoil(s.Comp.Params)
			spoil(s.Comp.Results)
			for i := range s.Supers {
				s.Supers[i] = 99
			}
			for i := range s.Comp.Fields {
				s.Comp.Fields[i].Type = val("(ref 99)")
			}
			*s = api.SubType{Supers: []int{99}}
		}
		l[g] = api.RecType{Types: []api.SubType{{Supers: []int{99}}}}
	}
}

// kin are groups in which 1 matches 0, 5 is 2, and 6 is 3.
func kin() []api.RecType {
	pair := "(rec (func (param (ref 0)) (result (ref 1))) (func (param i32 (ref 1))))"
	return read("(sub (struct (field (ref null 0))))", "(sub 0 (struct (field (ref null 0)) (field i32)))", pair, "(func)", pair)
}

// What New is handed may be changed by the caller, each part of it by itself.
func TestST1Copied(t *testing.T) {
	for name, change := range map[string]func(l []api.RecType){
		"nothing": func([]api.RecType) {},
		"all":     spoilGroups,
		"groups":  func(l []api.RecType) { l[0], l[1] = l[1], l[0] },
		"types":   func(l []api.RecType) { l[2].Types[0], l[2].Types[1] = l[2].Types[1], l[2].Types[0] },
		"supers":  func(l []api.RecType) { l[1].Types[0].Supers[0] = 1 },
		"params":  func(l []api.RecType) { l[2].Types[0].Comp.Params[0] = val("i32") },
		"results": func(l []api.RecType) { l[2].Types[0].Comp.Results[0] = val("i32") },
		"fields":  func(l []api.RecType) { l[0].Types[0].Comp.Fields[0].Type = val("(ref 9)") },
	} {
		l, params, locals, results := kin(), vals("(ref 0)"), vals("(ref 1), i32"), vals("(ref 0), (ref 2)")
		c := stack.New(l, params, locals, results)
		before := look(c)
		change(l)
		spoil(params)
		spoil(locals)
		spoil(results)
		if after := look(c); after != before {
			t.Errorf("%s: it was\n%sand is\n%s", name, before, after)
		}
		must(t, c.Pushes(vals("(ref 1), (ref 5), (ref 3)")))
		if e := c.Pops(vals("(ref 0), (ref 2), (ref 6)")); e != api.OK {
			t.Errorf("%s: Pops: %d", name, e)
		}
		must(t, c.Unreachable(), c.Push(val("(ref 5)")))
		if e := c.Pops(vals("(ref 6)")); e != api.ErrType {
			t.Errorf("%s: Pops of another type: %d", name, e)
		}
		op, in, out, e := c.Leave()
		isFrame(t, name+": Leave", op, in, out, e, opcode.Block, "", "(ref 0), (ref 2)")
	}
}

// unchanged says that nothing is seen of what f does.
func unchanged(t *testing.T, what string, c checker, f func()) {
	t.Helper()
	before := look(c)
	f()
	if after := look(c); after != before {
		t.Errorf("%s: it was\n%sand is\n%s", what, before, after)
	}
}

// spoilAnswers writes over all lists that a checker answers without changing anything.
func spoilAnswers(c checker) {
	_, in, out, _ := c.Last()
	spoil(in)
	spoil(out)
	for n := range uint32(c.Depth()) {
		l, _ := c.Label(n)
		spoil(l)
	}
	spoil(c.Results())
	spoil(c.Operands())
}

// Lists that are handed to calls, and those that they answer, are no part of the checker.
func TestST7Copied(t *testing.T) {
	c := stack.New(nil, vals("i32"), vals("i64"), vals("f32, f64"))
	unchanged(t, "answers at first", c, func() { spoilAnswers(c) })
	l := vals("i32, i64")
	must(t, c.Pushes(l))
	unchanged(t, "Pushes", c, func() { spoil(l) })
	l = vals("i32, i64")
	must(t, c.Swap(l, l))
	unchanged(t, "Swap", c, func() { spoil(l) })
	for _, op := range []int{opcode.Block, opcode.Loop} {
		l = vals("i32, i64")
		must(t, c.Enter(op, l, l))
		unchanged(t, "Enter", c, func() { spoil(l) })
		unchanged(t, "answers in a block", c, func() { spoilAnswers(c) })
	}
	for range 2 {
		_, in, out, e := c.Leave()
		must(t, e, c.Pushes(vals("i32, i64")))
		unchanged(t, "Leave", c, func() {
			spoil(in)
			if told(out) != told(vals("i32, i64")) {
				t.Errorf("Leave's lists are one: %v", out)
			}
			spoil(out)
		})
	}
	must(t, c.Pops(vals("i32, i64")), c.Pushes(vals("f32, f64")))
	_, _, out, e := c.Leave()
	must(t, e)
	unchanged(t, "Leave of the first frame", c, func() { spoil(out) })
	unchanged(t, "answers at the end", c, func() { spoilAnswers(c) })
}

// Last's two lists are not one, also where one list was handed in for both.
func TestST3LastLists(t *testing.T) {
	c := fresh("")
	l := vals("i32, i64")
	must(t, c.Pushes(l), c.Enter(opcode.Block, l, l))
	_, in, out, _ := c.Last()
	spoil(in)
	if told(out) != told(vals("i32, i64")) {
		t.Errorf("Last's lists are one: %v", out)
	}
}

// What is handed in is not changed.
func TestST7HandedIn(t *testing.T) {
	texts := "i32, (ref null any), none, i64"
	in, out, groups := vals(texts), vals(texts), kin()
	c := stack.New(groups, in, out, in)
	must(t, c.Pushes(in), c.Swap(in, out), c.Enter(opcode.Block, in, out), c.Pops(in), c.Unreachable(), c.Swap(in, out), leave(c), c.Swap(nil, out), leave(c))
	if told(in, out, groups) != told(vals(texts), vals(texts), kin()) {
		t.Errorf("changed: %v, %v, %v", in, out, groups)
	}
}

// Two checkers of the same lists know nothing of one another.
func TestST7Two(t *testing.T) {
	l, types := kin(), vals("i32, (ref func)")
	a, b := stack.New(l, types, types, types), stack.New(l, types, types, types)
	must(t, b.Pushes(types))
	unchanged(t, "another one's calls", b, func() {
		a.Set(3)
		must(t, a.Pushes(slices.Repeat(types, 3)), a.Enter(opcode.Block, types, types), a.Unreachable(), leave(a), a.Unreachable(), leave(a))
	})
}
