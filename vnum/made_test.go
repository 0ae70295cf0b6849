package vnum_test

import (
	"fmt"
	"math"
	"slices"
	"strings"
	"testing"

	"ratchet/api"
	"ratchet/instr"
	"ratchet/opcode"
	"ratchet/stack"
	"ratchet/types"
	"ratchet/vnum"
)

// read makes a list of groups from their texts.
func read(texts ...string) []api.RecType {
	var l []api.RecType
	for _, s := range texts {
		r, at, e := types.ParseRec(s)
		if e != api.OK {
			panic(fmt.Sprint(s, ": error ", e, " at ", at))
		}
		l = append(l, r)
	}
	return l
}

// val is a type by its text; of none it is the one of no type.
func val(text string) api.ValType {
	if text == "none" {
		return api.ValType{}
	}
	v, at, e := types.Parse(text)
	if e != api.OK {
		panic(fmt.Sprint(text, ": error ", e, " at ", at))
	}
	return v
}

// vals are types by their texts, with commas between.
func vals(texts string) []api.ValType {
	if texts == "" {
		return nil
	}
	var l []api.ValType
	for s := range strings.SplitSeq(texts, ",") {
		l = append(l, val(strings.TrimSpace(s)))
	}
	return l
}

// kinds are types that an operand may have, or that it is given all the same.
func kinds() []api.ValType {
	return append(vals("i32, i64, f32, f64, i8, i16, (ref any), (ref null any), (ref null func), (ref func), (ref null 0), (ref 0), (ref 1), (ref null 1), (ref 2), (ref null 3), (ref null extern), (ref i31), (ref null none), (ref nofunc), (ref 9)"),
		api.ValType{Num: 99}, api.ValType{Num: -1})
}

// context has lists of unlike lengths, so that an index that is asked of another list is seen. Of its types 1 matches 0, and 3 is 0.
func context() api.Ctx {
	wide := api.Limits{Wide: true, Min: 1}
	return api.Ctx{
		Types:    read("(sub (struct))", "(sub 0 (struct (field i32)))", "(func)", "(sub (struct))"),
		Funcs:    []int{2},
		Tables:   []api.TableType{{Elem: val("(ref null func)")}, {Elem: val("(ref null func)"), Limits: wide}, {Elem: val("(ref null 0)")}, {Elem: val("(ref null 0)"), Limits: wide}, {Elem: val("(ref 1)")}, {Elem: val("(ref null 3)")}},
		Memories: []api.Limits{{Min: 1}, wide},
		Globals:  []api.GlobalType{{Type: val("i64")}, {Type: val("i64"), Mut: true}, {Type: val("(ref null 0)"), Mut: true}, {Type: val("(ref 1)")}},
		Tags:     slices.Repeat([]int{2}, 8),
		Elems:    vals("(ref func), (ref null func), (ref 1), (ref null 0), (ref null 3), i32, (ref null extern)"),
		Datas:    3,
		Refs:     []bool{true},
	}
}

// Locals of the function that is checked, the last of which are not set at first.
const (
	params = "i32, (ref 0)"
	locals = "i64, (ref null 1), (ref func), (ref 0)"
	unset  = 4
	nobody = 6
)

// fresh is a checker at the beginning of a function in the context.
func fresh() *stack.Checker {
	return stack.New(context().Types, vals(params), vals(locals), vals("i32, i64"))
}

// Instructions by the fields that they have.
func x(op int, n uint32) api.Instr     { return api.Instr{Op: op, X: n} }
func xy(op int, n, m uint32) api.Instr { return api.Instr{Op: op, X: n, Y: m} }
func selectT(types string) api.Instr   { return api.Instr{Op: opcode.SelectT, Types: vals(types)} }
func mem(op int, memory, align uint32, offset uint64) api.Instr {
	return api.Instr{Op: op, Mem: api.MemArg{Mem: memory, Align: align, Offset: offset}}
}

// step is Step in the context.
func step(c *stack.Checker, i api.Instr) api.Errno { return vnum.Step(context(), c, i) }

// told is what calls answered, as one text, in which nil and empty lists are the same.
func told(answers ...any) string { return fmt.Sprintln(answers...) }

// look tells all that can be asked of a checker.
func look(c *stack.Checker) string {
	var b strings.Builder
	b.WriteString(told(c.Depth(), c.Height(), c.Operands(), c.Reached(), c.Done(), c.Results()))
	b.WriteString(told(c.Last()))
	for n := range uint32(c.Depth()) + 1 {
		b.WriteString(told(c.Label(n)))
	}
	for n, e := uint32(0), api.OK; e == api.OK && n < 100; n++ {
		_, e = c.Local(n)
		b.WriteString(told(c.Local(n)))
		b.WriteString(told(c.Get(n)))
	}
	return b.String()
}

// drain leaves one frame after another, and tells what could be seen on the way: heights and locals that a frame keeps are seen only behind it.
func drain(c *stack.Checker) string {
	var b strings.Builder
	for range c.Depth() {
		b.WriteString(look(c))
		b.WriteString(told(c.Unreachable()))
		b.WriteString(told(c.Leave()))
	}
	b.WriteString(look(c))
	return b.String()
}

// must says that calls are taken.
func must(t *testing.T, errors ...api.Errno) {
	t.Helper()
	for n, e := range errors {
		if e != api.OK {
			t.Fatalf("call %d is refused: %d", n, e)
		}
	}
}

// place makes checkers that are all at one place of a function.
type place func() *stack.Checker

// with is the place at which more operands lie.
func (p place) with(l []api.ValType) place {
	return func() *stack.Checker {
		c := p()
		c.Pushes(l)
		return c
	}
}

// refuses says that a step answers an error, and that all is as it was, also what is seen only later.
func refuses(t *testing.T, p place, x api.Ctx, i api.Instr, want api.Errno) {
	t.Helper()
	c := p()
	if e := vnum.Step(x, c, i); e != want {
		t.Errorf("%s on %v: %d, not %d", instr.Text(i), p().Operands(), e, want)
		return
	}
	if got, want := drain(c), drain(p()); got != want {
		t.Errorf("%s on %v: it should lead to\n%sand leads to\n%s", instr.Text(i), p().Operands(), want, got)
	}
}

// takes says that a step is taken, and that nothing has changed but the operands, which are those ahead and out.
func takes(t *testing.T, p place, x api.Ctx, i api.Instr, ahead, out []api.ValType) {
	t.Helper()
	c, d := p(), p()
	if e := vnum.Step(x, c, i); e != api.OK {
		t.Errorf("%s on %v: %d", instr.Text(i), d.Operands(), e)
		return
	}
	want := slices.Concat(ahead, out)
	if told(c.Operands()) != told(want) || c.Reached() != d.Reached() || c.Depth() != d.Depth() {
		t.Errorf("%s on %v: %v, reached %v, in %d frames, not %v", instr.Text(i), d.Operands(), c.Operands(), c.Reached(), c.Depth(), want)
	}
	set(d, i)
	if got, want := frames(c), frames(d); got != want {
		t.Errorf("%s on %v: it should lead to\n%sand leads to\n%s", instr.Text(i), p().Operands(), want, got)
	}
}

// set sets the local that an instruction sets.
func set(c *stack.Checker, i api.Instr) {
	if i.Op == opcode.LocalSet || i.Op == opcode.LocalTee {
		c.Set(i.X)
	}
}

// frames tells what is known of a checker beside the operands of its last frame.
func frames(c *stack.Checker) string {
	dead := c.Reached()
	c.Unreachable()
	return told(dead) + drain(c)
}

// places are where a function's code may be, by name, and how many operands lie below.
func places() map[string]place {
	start := place(fresh)
	return map[string]place{
		"at first":  start,
		"on others": start.with(vals("f64, (ref any), none, i32")),
		"in a block": func() *stack.Checker {
			c := start.with(vals("i64, i32, i32, i32, (ref 1)"))()
			c.Enter(opcode.Block, nil, vals("f32"))
			return c
		},
		"in a loop, on others": func() *stack.Checker {
			c := start.with(vals("i32, i32"))()
			c.Enter(opcode.Loop, vals("i32"), nil)
			c.Set(unset)
			return c
		},
	}
}

// unreached are places that are not reached: the operands above the last frame's height are gone there.
func unreached() map[string]place {
	out := map[string]place{}
	for name, p := range places() {
		out[name] = func() *stack.Checker {
			c := p()
			c.Unreachable()
			return c
		}
	}
	return out
}

// indices are numbers at and above the first of which nothing is there.
func indices(first int) []uint32 {
	return []uint32{uint32(first), uint32(first) + 1, 1000, math.MaxInt32, math.MaxInt32 + 1, math.MaxUint32 - 1, math.MaxUint32}
}
