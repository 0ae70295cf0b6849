package stack_test

import (
	"fmt"
	"math"
	"slices"
	"testing"

	"ratchet/api"
	"ratchet/opcode"
	"ratchet/stack"
)

func TestST1New(t *testing.T) {
	c := stack.New(nil, vals("i32, (ref func)"), vals("i64, (ref any)"), vals("f32, f64"))
	if c.Depth() != 1 || c.Height() != 0 || !c.Reached() || c.Done() || told(c.Results()) != told(vals("f32, f64")) {
		t.Errorf("a new checker: %s", look(c))
	}
	op, in, out, e := c.Last()
	isFrame(t, "Last of a new one", op, in, out, e, 2, "", "f32, f64")
	if l, e := c.Label(0); told(l, e) != told(vals("f32, f64"), api.OK) {
		t.Errorf("Label of a new one: %v, %d", l, e)
	}
	for n, text := range []string{"i32", "(ref func)", "i64", "(ref any)"} {
		v, e := c.Local(uint32(n))
		is(t, fmt.Sprint("Local ", n), v, e, val(text), api.OK)
	}
}

// Params are set, whatever they are; locals where they have a first value.
func TestST1Set(t *testing.T) {
	with := append(vals("i32, i64, f32, f64, i8, i16, (ref null func), (ref null none), (ref null 0), (ref null 99)"), api.ValType{Num: api.TRef, Null: true, Heap: -77})
	without := append(vals("(ref func), (ref any), (ref none), (ref 0), (ref 99), none"), api.ValType{Num: 99}, api.ValType{Num: -1, Null: true}, api.ValType{Null: true})
	for _, l := range [][]api.RecType{nil, read("(func)"), read("(array (ref 7))")} {
		for _, v := range append(with, without...) {
			c := stack.New(l, []api.ValType{v}, nil, nil)
			got, e := c.Get(0)
			is(t, "Get of a param", got, e, v, api.OK)
		}
		for _, v := range with {
			c := stack.New(l, nil, []api.ValType{v}, nil)
			got, e := c.Get(0)
			is(t, "Get of a local with a first value", got, e, v, api.OK)
		}
		for _, v := range without {
			c := stack.New(l, vals("i32"), []api.ValType{val("i64"), v}, nil)
			got, e := c.Get(2)
			is(t, "Get of a local without a first value", got, e, api.ValType{}, api.ErrUnset)
			got, e = c.Local(2)
			is(t, "Local of a local without a first value", got, e, v, api.OK)
			got, e = c.Set(2)
			is(t, "Set of a local without a first value", got, e, v, api.OK)
			got, e = c.Get(2)
			is(t, "Get of what was set", got, e, v, api.OK)
		}
	}
}

// nil and empty lists are the same.
func TestST1Empty(t *testing.T) {
	none := []api.ValType{}
	a, b := stack.New(nil, nil, nil, nil), stack.New([]api.RecType{}, none, none, none)
	if x, y := look(a), look(b); x != y {
		t.Errorf("of nil lists\n%sof empty ones\n%s", x, y)
	}
	must(t, a.Enter(opcode.Loop, nil, nil), b.Enter(opcode.Loop, none, none))
	must(t, a.Swap(nil, nil), b.Swap(none, none), a.Pops(nil), b.Pops(none), a.Pushes(nil), b.Pushes(none))
	if x, y := look(a), look(b); x != y {
		t.Errorf("of nil lists\n%sof empty ones\n%s", x, y)
	}
	if x, y := drain(a), drain(b); x != y {
		t.Errorf("of nil lists\n%sof empty ones\n%s", x, y)
	}
}

func TestST5Numbers(t *testing.T) {
	for _, x := range []struct{ params, locals string }{{"", ""}, {"i32", ""}, {"", "i32"}, {"i32, i64", "(ref any), f32, f64"}} {
		c := stack.New(nil, vals(x.params), vals(x.locals), nil)
		many := uint32(len(vals(x.params)) + len(vals(x.locals)))
		before := look(c)
		for _, n := range []uint32{many, many + 1, 50000, math.MaxInt32, 1 << 31, 1<<31 + 1, math.MaxUint32 - 1, math.MaxUint32} {
			for name, call := range map[string]func(n uint32) (api.ValType, api.Errno){"Local": c.Local, "Get": c.Get, "Set": c.Set} {
				v, e := call(n)
				is(t, fmt.Sprint(name, " ", n, " of ", many), v, e, api.ValType{}, api.ErrArg)
			}
		}
		if after := look(c); after != before {
			t.Errorf("it was\n%sand is\n%s", before, after)
		}
	}
}

// Local and Set ask nothing but that there be one; Get asks that it be set.
func TestST5Set(t *testing.T) {
	c := stack.New(nil, vals("(ref any)"), vals("(ref func), (ref extern), i32"), nil)
	for _, n := range []uint32{1, 2} {
		v, e := c.Get(n)
		is(t, "Get of what is not set", v, e, api.ValType{}, api.ErrUnset)
	}
	for range 2 {
		v, e := c.Set(2)
		is(t, "Set", v, e, val("(ref extern)"), api.OK)
		v, e = c.Get(2)
		is(t, "Get of what was set", v, e, val("(ref extern)"), api.OK)
		v, e = c.Get(1)
		is(t, "Get of the one beside it", v, e, api.ValType{}, api.ErrUnset)
	}
	for n, text := range map[uint32]string{0: "(ref any)", 3: "i32"} {
		v, e := c.Set(n)
		is(t, "Set of what is set", v, e, val(text), api.OK)
		v, e = c.Get(n)
		is(t, "Get of what is set", v, e, val(text), api.OK)
	}
	hasOperands(t, c, "")
}

// setOnes tells which locals are set.
func setOnes(c checker) string {
	out := ""
	for n := range uint32(1000) {
		_, e := c.Get(n)
		switch e {
		case api.OK:
			out += "s"
		case api.ErrUnset:
			out += "-"
		default:
			return out
		}
	}
	return out
}

// What is set ahead of a block stays set; what is set within it is not behind it, nor what is set in a block in it.
func TestST3Locals(t *testing.T) {
	c := stack.New(nil, vals("(ref func)"), vals("(ref func), (ref func), (ref func), (ref func), i32"), nil)
	ask := func(where, want string) {
		t.Helper()
		if got := setOnes(c); got != want {
			t.Errorf("%s: %s, not %s", where, got, want)
		}
	}
	ask("at first", "s----s")
	c.Set(1)
	must(t, c.Enter(opcode.Block, nil, nil))
	ask("in the block", "ss---s")
	c.Set(2)
	c.Set(0)
	c.Set(5)
	c.Set(1)
	ask("set in the block", "sss--s")
	must(t, c.Enter(opcode.Loop, nil, nil))
	ask("in the block in it", "sss--s")
	c.Set(3)
	c.Set(2)
	ask("set in the block in it", "ssss-s")
	// Leave that is refused leaves them set.
	must(t, c.Push(val("i32")))
	if e := leave(c); e != api.ErrLeft {
		t.Errorf("Leave: %d", e)
	}
	ask("behind a refusal", "ssss-s")
	must(t, c.Unreachable())
	ask("where it is not reached", "ssss-s")
	must(t, leave(c))
	ask("behind the block in it", "sss--s")
	must(t, c.Enter(opcode.If, nil, nil), leave(c), c.Enter(opcode.Else, nil, nil))
	c.Set(4)
	c.Set(3)
	ask("set in another one", "ssssss")
	must(t, leave(c))
	ask("behind that", "sss--s")
	c.Set(4)
	ask("set between", "sss-ss")
	must(t, leave(c))
	ask("behind the block", "ss---s")
	c.Set(2)
	ask("set behind it", "sss--s")
	// Enter that is refused keeps no frame, that would lay back.
	if e := c.Enter(opcode.Block, vals("i32"), nil); e != api.ErrUnder {
		t.Errorf("Enter: %d", e)
	}
	c.Set(3)
	must(t, leave(c))
	ask("behind the first frame", "s----s")
}

// Locals are laid back in whichever order they were set, however many there are.
func TestST3ManyLocals(t *testing.T) {
	const many = 101
	locals := make([]api.ValType, many)
	for n := range locals {
		locals[n] = val("(ref any)")
	}
	c := stack.New(nil, nil, locals, nil)
	var ahead []string
	for n := range uint32(many) {
		ahead = append(ahead, setOnes(c))
		must(t, c.Enter(opcode.Block, nil, nil))
		// 5 and 101 have no common part: each number comes once.
		c.Set(n * 5 % many)
	}
	for _, want := range slices.Backward(ahead) {
		for n := range uint32(many) {
			c.Set(n * 7 % many)
		}
		must(t, leave(c))
		if got := setOnes(c); got != want {
			t.Fatalf("set: %s, not %s", got, want)
		}
	}
}
