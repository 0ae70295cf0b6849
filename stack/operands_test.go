package stack_test

import (
	"fmt"
	"testing"

	"ratchet/api"
	"ratchet/opcode"
	"ratchet/stack"
)

func TestST2PushPop(t *testing.T) {
	c := fresh("")
	// Whatever stands in a type, it is the same when it comes back.
	l := append(vals("i32, none, (ref null any), (ref 7), i8, i64"), api.ValType{Num: 99, Null: true, Heap: -99}, api.ValType{Num: api.TI32, Null: true, Heap: 5}, api.ValType{Heap: 3})
	for n, v := range l {
		must(t, c.Push(v))
		if c.Height() != n+1 || c.Operands()[n] != v {
			t.Errorf("Push(%v): %v", v, c.Operands())
		}
	}
	for n := len(l) - 1; n >= 0; n-- {
		v, e := c.Pop()
		is(t, "Pop", v, e, l[n], api.OK)
		if c.Height() != n {
			t.Errorf("Pop leaves %d operands, not %d", c.Height(), n)
		}
	}
	v, e := c.Pop()
	is(t, "Pop of nothing", v, e, api.ValType{}, api.ErrUnder)
	must(t, c.Push(val("f32")))
	hasOperands(t, c, "f32")
}

// At a frame's height the operands below it are not there.
func TestST2PopAtHeight(t *testing.T) {
	c := fresh("")
	must(t, c.Pushes(vals("i32, i64")), c.Enter(opcode.Block, vals("i64"), nil))
	v, e := c.Pop()
	is(t, "Pop of what came in", v, e, val("i64"), api.OK)
	for range 3 {
		v, e = c.Pop()
		is(t, "Pop at the height, reached", v, e, api.ValType{}, api.ErrUnder)
		v, e = c.PopType(val("i32"))
		is(t, "PopType at the height, reached", v, e, api.ValType{}, api.ErrUnder)
		hasOperands(t, c, "i32")
	}
	must(t, c.Unreachable())
	for range 3 {
		v, e = c.Pop()
		is(t, "Pop at the height, not reached", v, e, api.ValType{}, api.OK)
		v, e = c.PopType(val("f64"))
		is(t, "PopType at the height, not reached", v, e, api.ValType{}, api.OK)
		hasOperands(t, c, "i32")
	}
	must(t, c.Push(val("f32")))
	v, e = c.Pop()
	is(t, "Pop above the height, not reached", v, e, val("f32"), api.OK)
	must(t, leave(c))
	v, e = c.Pop()
	is(t, "Pop behind the block", v, e, val("i32"), api.OK)
	v, e = c.Pop()
	is(t, "Pop of nothing behind the block", v, e, api.ValType{}, api.ErrUnder)
}

// Types that hold against each other as chapter 7 says, told by their texts: what is on the operands, what is asked.
func TestST2PopType(t *testing.T) {
	l := read("(sub (struct))", "(sub 0 (struct (field i32)))", "(func)", "(func)", "(array i8)")
	for _, x := range []struct{ on, asked string }{
		{"i32", "i32"}, {"i64", "i64"}, {"f32", "f32"}, {"f64", "f64"}, {"i8", "i8"}, {"i16", "i16"},
		{"(ref any)", "(ref null any)"}, {"(ref null none)", "(ref null eq)"}, {"(ref i31)", "(ref eq)"},
		{"(ref 1)", "(ref 0)"}, {"(ref 1)", "(ref struct)"}, {"(ref 2)", "(ref 3)"}, {"(ref null 3)", "(ref null 2)"},
		{"(ref 4)", "(ref array)"}, {"(ref none)", "(ref 4)"}, {"(ref nofunc)", "(ref 3)"}, {"(ref 0)", "(ref 0)"},
		{"none", "i32"}, {"none", "(ref 4)"}, {"none", "(ref 99)"}, {"none", "none"},
		{"i32", "none"}, {"(ref null extern)", "none"}, {"(ref 99)", "none"},
	} {
		c := stack.New(l, nil, nil, nil)
		must(t, c.Pushes(vals("f64, "+x.on)))
		v, e := c.PopType(val(x.asked))
		is(t, fmt.Sprintf("PopType(%s) on %s", x.asked, x.on), v, e, val(x.on), api.OK)
		hasOperands(t, c, "f64")
	}
	for _, x := range []struct{ on, asked string }{
		{"i32", "i64"}, {"i64", "i32"}, {"f32", "f64"}, {"i8", "i32"}, {"i32", "i8"}, {"i8", "i16"},
		{"i32", "(ref any)"}, {"(ref any)", "i32"}, {"(ref null any)", "(ref any)"}, {"(ref any)", "(ref eq)"},
		{"(ref i31)", "(ref struct)"}, {"(ref 0)", "(ref 1)"}, {"(ref struct)", "(ref 0)"}, {"(ref 2)", "(ref struct)"},
		{"(ref null 2)", "(ref 3)"}, {"(ref none)", "(ref 3)"}, {"(ref func)", "(ref extern)"},
		{"(ref 5)", "(ref 5)"}, {"(ref 5)", "(ref any)"}, {"(ref none)", "(ref 5)"},
	} {
		refuses(t, func() *stack.Checker {
			c := stack.New(l, nil, nil, nil)
			must(t, c.Pushes(vals("f64, "+x.on)))
			return c
		}, fmt.Sprintf("PopType(%s) on %s", x.asked, x.on), func(c *stack.Checker) api.Errno {
			v, e := c.PopType(val(x.asked))
			if v != (api.ValType{}) {
				t.Errorf("PopType(%s) on %s: %v beside an error", x.asked, x.on, v)
			}
			return e
		}, api.ErrType)
	}
}

// What is no type matches nothing but what is any type.
func TestST2WrongTypes(t *testing.T) {
	for _, wrong := range []api.ValType{{Num: 99}, {Num: -1}, {Num: 8}, {Num: api.TRef}, {Num: api.TRef, Heap: -13}, {Num: api.TRef, Heap: -100}, {Num: api.TRef, Null: true, Heap: 1 << 40}} {
		c := fresh("")
		must(t, c.Push(wrong))
		for _, asked := range append(vals("i32, i8, (ref null any), (ref null func)"), wrong) {
			v, e := c.PopType(asked)
			is(t, fmt.Sprintf("PopType(%v) on %v", asked, wrong), v, e, api.ValType{}, api.ErrType)
		}
		v, e := c.PopType(api.ValType{})
		is(t, fmt.Sprintf("PopType of any type on %v", wrong), v, e, wrong, api.OK)
		must(t, c.Push(val("none")))
		v, e = c.PopType(wrong)
		is(t, fmt.Sprintf("PopType(%v) on any type", wrong), v, e, api.ValType{}, api.OK)
	}
	// A number's Null and Heap count for nothing, nor do those of any type.
	c := fresh("")
	odd := api.ValType{Num: api.TI32, Null: true, Heap: 77}
	must(t, c.Push(odd))
	v, e := c.PopType(val("i32"))
	is(t, "PopType of an i32 with a heap type", v, e, odd, api.OK)
	odd = api.ValType{Null: true, Heap: 77}
	must(t, c.Push(odd))
	v, e = c.PopType(val("(ref i31)"))
	is(t, "PopType of any type with a heap type", v, e, odd, api.OK)
	must(t, c.Push(val("i64")))
	v, e = c.PopType(odd)
	is(t, "PopType that asks for any type with a heap type", v, e, val("i64"), api.OK)
}

// Of groups that are not closed no reference matches; numbers and any type do.
func TestST2NotClosed(t *testing.T) {
	for _, l := range [][]api.RecType{read("(struct (field (ref 1)))"), read("(func)", "(array (ref 2))", "(func)"), {{Types: []api.SubType{{Supers: []int{-1}}}}}} {
		c := stack.New(l, nil, nil, nil)
		for _, text := range []string{"(ref 0)", "(ref null 0)", "(ref any)", "(ref null func)"} {
			must(t, c.Push(val(text)))
			v, e := c.PopType(val(text))
			is(t, "PopType where groups are not closed", v, e, api.ValType{}, api.ErrType)
			v, e = c.PopType(val("none"))
			is(t, "PopType of any type where groups are not closed", v, e, val(text), api.OK)
		}
		must(t, c.Pushes(vals("i32, none")), c.Pops(vals("i32, (ref 0)")))
	}
}

func TestST2PushesPops(t *testing.T) {
	c := fresh("")
	must(t, c.Pushes(nil), c.Pushes([]api.ValType{}))
	hasOperands(t, c, "")
	must(t, c.Pushes(vals("i32, i64")), c.Pushes(vals("f32")))
	hasOperands(t, c, "i32, i64, f32")
	must(t, c.Pops(nil), c.Pops([]api.ValType{}))
	hasOperands(t, c, "i32, i64, f32")
	must(t, c.Pops(vals("i64, f32")))
	hasOperands(t, c, "i32")
	must(t, c.Pops(vals("i32")), c.Pushes(vals("(ref i31), none")), c.Pops(vals("(ref null any), (ref 8)")))
	hasOperands(t, c, "")
	// What is not there is taken for what is asked, only where it is not reached.
	if e := c.Pops(vals("i32")); e != api.ErrUnder {
		t.Errorf("Pops of nothing: %d", e)
	}
	must(t, c.Unreachable(), c.Push(val("f64")), c.Pops(vals("i32, i64, (ref 3), none, f64")))
	hasOperands(t, c, "")
}

func TestST2Swap(t *testing.T) {
	for _, x := range []struct{ on, in, out, then string }{
		{"", "", "", ""}, {"i32", "", "", "i32"}, {"i32", "", "i64", "i32, i64"}, {"i32, i64", "i64", "", "i32"},
		{"i32, i32", "i32, i32", "i32", "i32"}, {"f32, i32", "i32", "i64, f64, i32", "f32, i64, f64, i32"},
		{"(ref none)", "(ref null any)", "(ref null any)", "(ref null any)"}, {"f32, none", "i64", "none", "f32, none"},
	} {
		c := fresh("")
		must(t, c.Pushes(vals(x.on)), c.Swap(vals(x.in), vals(x.out)))
		hasOperands(t, c, x.then)
	}
	c := fresh("")
	must(t, c.Push(val("i64")), c.Enter(opcode.Loop, nil, nil), c.Unreachable(), c.Push(val("i32")), c.Swap(vals("f32, (ref 9), i32"), vals("f64, f64")))
	hasOperands(t, c, "i64, f64, f64")
	if c.Reached() {
		t.Error("Swap reaches what is not reached")
	}
	must(t, c.Swap([]api.ValType{}, []api.ValType{}))
}

// places are checkers with these operands on their last frame, others below it, and one more frame around; not reached or reached.
func places(t *testing.T, operands string, reached bool) map[string]func() *stack.Checker {
	start := func() *stack.Checker {
		return stack.New(read("(func)"), vals("i32"), vals("(ref func), (ref any), i32"), vals("i64"))
	}
	end := func(c *stack.Checker) *stack.Checker {
		if !reached {
			must(t, c.Unreachable())
		}
		must(t, c.Pushes(vals(operands)))
		return c
	}
	return map[string]func() *stack.Checker{
		"first frame": func() *stack.Checker { return end(start()) },
		"a frame above operands": func() *stack.Checker {
			c := start()
			c.Set(1)
			must(t, c.Pushes(vals("i32, i64, f32, f64")), c.Enter(opcode.Block, vals("f64"), vals("i32, i64")))
			c.Set(2)
			must(t, c.Pops(vals("f64")))
			return end(c)
		},
		"a frame in one that is not reached": func() *stack.Checker {
			c := start()
			must(t, c.Unreachable(), c.Pushes(vals("i32, i64")), c.Enter(opcode.Loop, vals("f32, i32, i64"), vals("i64")))
			c.Set(1)
			must(t, c.Pops(vals("f32, i32, i64")))
			return end(c)
		},
	}
}

// fits are lists that can't be popped where i32, i64, f32 are the operands, with the error: faults at the last type, in the middle, at the first, and behind the last operand that is there. Those where a fault comes only with operands that are missing are under.
func fits() (wrong, under []string) {
	wrong = []string{"i64", "f64", "f32, f32", "i32, i64, f64", "i32, i32, f32", "i64, i64, f32", "i64, f32, f32", "none, none, f64", "(ref 0), none, none", "f32, f32, i64, f32", "(ref any)"}
	under = []string{"i32, i32, i64, f32", "none, none, none, none", "i32, i32, i32, i64, f32", "(ref func), i32, i64, f32"}
	return wrong, under
}

// calls are those that pop a list, and what they put in its place must not be seen.
func calls() map[string]func(c *stack.Checker, l string) api.Errno {
	return map[string]func(c *stack.Checker, l string) api.Errno{
		"Pops":  func(c *stack.Checker, l string) api.Errno { return c.Pops(vals(l)) },
		"Swap":  func(c *stack.Checker, l string) api.Errno { return c.Swap(vals(l), vals("f64, f64, f64, f64, f64")) },
		"Swap0": func(c *stack.Checker, l string) api.Errno { return c.Swap(vals(l), nil) },
		"Enter": func(c *stack.Checker, l string) api.Errno { return c.Enter(opcode.Block, vals(l), vals("f64, f64")) },
		"Loop":  func(c *stack.Checker, l string) api.Errno { return c.Enter(opcode.Loop, vals(l), nil) },
	}
}

func TestST2ST3Refused(t *testing.T) {
	wrong, under := fits()
	for name, call := range calls() {
		for _, reached := range []bool{true, false} {
			for place, make := range places(t, "i32, i64, f32", reached) {
				for _, l := range wrong {
					refuses(t, make, fmt.Sprint(name, " of ", l, " in ", place, reached), func(c *stack.Checker) api.Errno { return call(c, l) }, api.ErrType)
				}
				for _, l := range under {
					what := fmt.Sprint(name, " of ", l, " in ", place, reached)
					if reached {
						refuses(t, make, what, func(c *stack.Checker) api.Errno { return call(c, l) }, api.ErrUnder)
					} else if e := call(make(), l); e != api.OK {
						t.Errorf("%s: %d", what, e)
					}
				}
			}
		}
	}
}

// The first error from the last type on is told, whatever stands ahead of it.
func TestST2FirstError(t *testing.T) {
	for _, x := range []struct {
		on, asked string
		want      api.Errno
	}{
		{"i32", "i32, i64", api.ErrType}, {"i32", "i64, i32", api.ErrUnder}, {"", "i64, i32", api.ErrUnder},
		{"i32, i32", "i64, i64, i32", api.ErrType}, {"i32, i32", "i64, i32, i32", api.ErrUnder},
	} {
		for name, call := range calls() {
			c := fresh("")
			must(t, c.Pushes(vals(x.on)))
			if e := call(c, x.asked); e != x.want {
				t.Errorf("%s of %s on %s: %d, not %d", name, x.asked, x.on, e, x.want)
			}
			hasOperands(t, c, x.on)
		}
	}
}
