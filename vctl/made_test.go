package vctl_test

import (
	"fmt"
	"math"
	"strings"
	"testing"

	"ratchet/api"
	"ratchet/instr"
	"ratchet/opcode"
	"ratchet/stack"
	"ratchet/types"
	"ratchet/vctl"
)

// read makes a list of groups from their texts.
func read(texts ...string) []api.RecType {
	var l []api.RecType
	for _, s := range texts {
		r, at, e := types.ParseRec(s)
		if e != api.OK {
			panic(fmt.Sprint(s, ": error ", e, " at ", at))
		}
		l = append(l, r)
	}
	return l
}

// val is a type by its text; of none it is the one of no type.
func val(text string) api.ValType {
	if text == "none" {
		return api.ValType{}
	}
	v, at, e := types.Parse(text)
	if e != api.OK {
		panic(fmt.Sprint(text, ": error ", e, " at ", at))
	}
	return v
}

// vals are types by their texts, with commas between.
func vals(texts string) []api.ValType {
	if texts == "" {
		return nil
	}
	var l []api.ValType
	for s := range strings.SplitSeq(texts, ",") {
		l = append(l, val(strings.TrimSpace(s)))
	}
	return l
}

// kinds are types that an operand may have, or that it is given all the same.
func kinds() []api.ValType {
	return append(vals("i32, i64, f32, f64, i8, i16, (ref any), (ref null any), (ref null func), (ref func), (ref null 4), (ref 4), (ref 5), (ref null 5), (ref null 3), (ref 8), (ref null 9), (ref null extern), (ref exn), (ref null exn), (ref noexn), (ref i31), (ref null none), (ref none), (ref nofunc), (ref null nofunc), (ref 99)"),
		api.ValType{Num: 99}, api.ValType{Num: -1})
}

// Of the context's types 5 matches 4, 9 matches 8, and 15 is 0; those that are no functions are told.
const (
	aStruct, anArray = 4, 6
	noType           = 20
	home             = "f32, (ref null 4)" // what the function in which all stands answers
)

// context has lists whose numbers are unlike those of the types, so that one that is taken for another is seen.
func context() api.Ctx {
	wide := api.Limits{Wide: true, Min: 1}
	return api.Ctx{
		Types: read(
			"(func)", "(func (param i32))", "(func (result i32))", "(func (param i32 i64) (result f32 f64))", "(sub (struct))", "(sub 4 (struct (field i32)))", "(array (mut i8))",
			"(func (param (ref 5) i64) (result i32 (ref null 4)))", "(sub (func (param (ref null 4)) (result (ref null 4))))", "(sub 8 (func (param (ref null 4)) (result (ref 5))))",
			"(func (param i64 (ref null exn)))", "(func (param i32) (result i32))", "(func (param f64 (ref null 5)) (result f32 (ref 5)))", "(func (result f32 (ref null 4)))", "(func (param i64) (result i32))", "(func)",
			"(func (param i64 (ref 5)) (result i64 (ref null 4)))", "(func (param i64 (ref null 4)) (result i64 (ref 5)))", "(func (result f32))", "(func (result f32 (ref null 4) i32))",
		),
		Funcs: []int{3, 0, 7, 1, 12, 13, 8, 2, 18, 19, aStruct, anArray, noType, -1, math.MaxInt, math.MinInt, -100},
		Tables: []api.TableType{
			{Elem: val("(ref null func)")}, {Elem: val("(ref null func)"), Limits: wide}, {Elem: val("(ref func)")}, {Elem: val("(ref null 12)")}, {Elem: val("(ref nofunc)"), Limits: wide},
			{Elem: val("(ref null any)")}, {Elem: val("(ref 4)")}, {Elem: val("(ref null extern)"), Limits: wide}, {Elem: val("i32")}, {Elem: val("(ref null none)")},
		},
		Memories: make([]api.Limits, 30),
		Globals:  make([]api.GlobalType, 40),
		Tags:     []int{10, 0, 1, 7, aStruct, noType, -1, math.MaxInt, math.MinInt, 2},
		Elems:    make([]api.ValType, 50),
		Datas:    60,
		Refs:     []bool{true},
	}
}

// The first numbers of the context's lists that name nothing.
const (
	noFunc  = 17
	noTable = 10
	noTag   = 10
	noLabel = 7
)

// fresh is a checker at the beginning of a function in the context, of whose locals the last one is not set.
func fresh() *stack.Checker {
	return stack.New(context().Types, vals("i32, (ref 4)"), vals("i64, (ref func)"), vals(home))
}

const unset = 3

// Labels of nested, by what a branch takes along.
const (
	toI32      = 0 // i32
	toNull4    = 1 // i64, (ref null 4)
	toNull5    = 2 // i64, (ref null 5)
	toRef4     = 3 // (ref 4)
	toLoop     = 4 // i32, with which the loop begins
	toNothing  = 5
	toFunction = 6 // as home
)

// nested is a place within blocks, each with operands ahead of it.
func nested() *stack.Checker {
	c := fresh()
	enter := func(on string, op int, in, out string) {
		c.Pushes(vals(on))
		if e := c.Enter(op, vals(in), vals(out)); e != api.OK {
			panic(fmt.Sprint("nested: error ", e))
		}
	}
	enter("f32, (ref 5), i32", opcode.Block, "", "")
	enter("i64, i32", opcode.Loop, "i32", "f64, f64")
	enter("", opcode.TryTable, "", "(ref 4)")
	enter("(ref 4)", opcode.Block, "", "i64, (ref null 5)")
	enter("i64, (ref 5)", opcode.Else, "", "i64, (ref null 4)")
	enter("i64, (ref 5), i32, i32", opcode.Block, "", "i32")
	return c
}

// Instructions by the fields that they have.
func x(op int, n uint32) api.Instr     { return api.Instr{Op: op, X: n} }
func xy(op int, n, m uint32) api.Instr { return api.Instr{Op: op, X: n, Y: m} }
func brTable(last uint32, labels ...uint32) api.Instr {
	return api.Instr{Op: opcode.BrTable, X: last, Labels: labels}
}

// Blocks by their types, and clauses by their parts.
func typed(n int) api.Block          { return api.Block{Type: n} }
func result(text string) api.Block   { return api.Block{Type: -1, Result: val(text)} }
func block(op, n int) api.Instr      { return api.Instr{Op: op, Block: typed(n)} }
func one(op int, r string) api.Instr { return api.Instr{Op: op, Block: result(r)} }
func try(b api.Block, l ...api.Catch) api.Instr {
	return api.Instr{Op: opcode.TryTable, Block: b, Catches: l}
}
func clause(kind int, tag, label uint32) api.Catch {
	return api.Catch{Kind: kind, Tag: tag, Label: label}
}

// told is what calls answered, as one text, in which nil and empty lists are the same.
func told(answers ...any) string { return fmt.Sprintln(answers...) }

// look tells all that can be asked of a checker.
func look(c *stack.Checker) string {
	var b strings.Builder
	b.WriteString(told(c.Depth(), c.Height(), c.Operands(), c.Reached(), c.Done(), c.Results()))
	b.WriteString(told(c.Last()))
	for n := range uint32(c.Depth()) + 1 {
		b.WriteString(told(c.Label(n)))
	}
	for n, e := uint32(0), api.OK; e == api.OK && n < 100; n++ {
		_, e = c.Local(n)
		b.WriteString(told(c.Local(n)))
		b.WriteString(told(c.Get(n)))
	}
	return b.String()
}

// drain leaves one frame after another, and tells what could be seen on the way: heights and locals that a frame keeps are seen only behind it.
func drain(c *stack.Checker) string {
	var b strings.Builder
	for range c.Depth() {
		b.WriteString(look(c))
		b.WriteString(told(c.Unreachable()))
		b.WriteString(told(c.Leave()))
	}
	b.WriteString(look(c))
	return b.String()
}

// must says that calls are taken.
func must(t *testing.T, errors ...api.Errno) {
	t.Helper()
	for n, e := range errors {
		if e != api.OK {
			t.Fatalf("call %d is refused: %d", n, e)
		}
	}
}

// place makes checkers that are all at one place of a function.
type place func() *stack.Checker

// with is the place at which more operands lie.
func (p place) with(l []api.ValType) place {
	return func() *stack.Checker {
		c := p()
		c.Pushes(l)
		return c
	}
}

// below are the operands ahead of the last frame.
func (p place) below() []api.ValType {
	c := p()
	c.Unreachable()
	return c.Operands()
}

// act is one of the calls that may change a checker.
type act struct {
	name string
	do   func(x api.Ctx, c *stack.Checker) api.Errno
}

// a is Step or Open of an instruction, whichever knows it.
func a(i api.Instr) act {
	switch i.Op {
	case opcode.Block, opcode.Loop, opcode.If, opcode.TryTable:
		return opening(i)
	}
	return stepping(i)
}

func stepping(i api.Instr) act {
	return act{instr.Text(i), func(x api.Ctx, c *stack.Checker) api.Errno { return vctl.Step(x, c, i) }}
}

func opening(i api.Instr) act {
	return act{"Open of " + instr.Text(i), func(x api.Ctx, c *stack.Checker) api.Errno { return vctl.Open(x, c, i) }}
}

func turn() act {
	return act{"Turn", func(_ api.Ctx, c *stack.Checker) api.Errno { return vctl.Turn(c) }}
}

func closing() act {
	return act{"Close", func(x api.Ctx, c *stack.Checker) api.Errno { return vctl.Close(x, c) }}
}

// refuses says that a call answers an error, and that all is as it was, also what is seen only later.
func refuses(t *testing.T, p place, x api.Ctx, a act, want api.Errno) {
	t.Helper()
	c := p()
	if e := a.do(x, c); e != want {
		t.Errorf("%s on %v: %d, not %d", a.name, p().Operands(), e, want)
		return
	}
	if got, want := drain(c), drain(p()); got != want {
		t.Errorf("%s on %v: it should lead to\n%sand leads to\n%s", a.name, p().Operands(), want, got)
	}
}

// takes says that a step is taken, and what the operands are then; behind it nothing is reached, if it ends, and else all but the operands is as it was.
func takes(t *testing.T, p place, x api.Ctx, i api.Instr, operands []api.ValType, ends bool) {
	t.Helper()
	c, d := p(), p()
	if e := vctl.Step(x, c, i); e != api.OK {
		t.Errorf("%s on %v: %d", instr.Text(i), d.Operands(), e)
		return
	}
	if told(c.Operands()) != told(operands) || c.Reached() != (d.Reached() && !ends) {
		t.Errorf("%s on %v: %v, reached %v, not %v", instr.Text(i), d.Operands(), c.Operands(), c.Reached(), operands)
	}
	c.Unreachable()
	d.Unreachable()
	if got, want := drain(c), drain(d); got != want {
		t.Errorf("%s on %v: it should lead to\n%sand leads to\n%s", instr.Text(i), p().Operands(), want, got)
	}
}

// places are where a function's code may be, by name: all know the labels of nested.
func places() map[string]place {
	start := place(nested)
	return map[string]place{
		"in blocks": start,
		"on others": start.with(vals("f64, (ref any), none, i32, (ref 5)")),
		"with a local that is set": func() *stack.Checker {
			c := nested()
			c.Set(unset)
			c.Push(val("i32"))
			return c
		},
	}
}

// dead is a place behind which nothing is reached.
func (p place) dead() place {
	return func() *stack.Checker {
		c := p()
		c.Unreachable()
		return c
	}
}

// indices are numbers at and above the first of which nothing is there.
func indices(first int) []uint32 {
	return []uint32{uint32(first), uint32(first) + 1, 1000, math.MaxInt32, math.MaxInt32 + 1, math.MaxUint32 - 1, math.MaxUint32}
}
