package vref_test

import (
	"fmt"
	"math"
	"runtime/debug"
	"strconv"
	"strings"
	"testing"

	"ratchet/api"
	"ratchet/instr"
	"ratchet/opcode"
	"ratchet/stack"
	"ratchet/types"
	"ratchet/vref"
)

// TestMain lets more garbage lie: the tests make a great many small checkers and texts, none of which lives on, and would spend most of their time on it.
func TestMain(m *testing.M) {
	debug.SetGCPercent(800)
	m.Run()
}

// read makes a list of groups from their texts.
func read(texts ...string) []api.RecType {
	var l []api.RecType
	for _, s := range texts {
		r, at, e := types.ParseRec(s)
		if e != api.OK {
			panic(fmt.Sprint(s, ": error ", e, " at ", at))
		}
		l = append(l, r)
	}
	return l
}

// val is a type by its text; of none it is the one of no type.
func val(text string) api.ValType {
	if text == "none" {
		return api.ValType{}
	}
	v, at, e := types.Parse(text)
	if e != api.OK {
		panic(fmt.Sprint(text, ": error ", e, " at ", at))
	}
	return v
}

// vals are types by their texts, with commas between.
func vals(texts string) []api.ValType {
	if texts == "" {
		return nil
	}
	var l []api.ValType
	for s := range strings.SplitSeq(texts, ",") {
		l = append(l, val(strings.TrimSpace(s)))
	}
	return l
}

// ref is a type of references.
func ref(null bool, heap int) api.ValType {
	return api.ValType{Num: api.TRef, Null: null, Heap: heap}
}

// heaps are all heap types of the context.
func heaps() []int {
	var l []int
	for h := api.HNoExn; h < noType; h++ {
		l = append(l, h)
	}
	return l
}

// refs are all types of references of the context.
func refs() []api.ValType {
	var l []api.ValType
	for _, h := range heaps() {
		l = append(l, ref(false, h), ref(true, h))
	}
	return l
}

// kinds are types that an operand may have, or that it is given all the same.
func kinds() []api.ValType {
	return append(vals("i32, i64, f32, f64, i8, i16, (ref any), (ref null any), (ref null eq), (ref i31), (ref null struct), (ref array), (ref null none), (ref none), (ref null 0), (ref 0), (ref 1), (ref null 1), (ref 14), (ref null 5), (ref 9), (ref 10), (ref null 15), (ref null func), (ref 12), (ref nofunc), (ref null extern), (ref noextern), (ref null exn), (ref noexn), (ref 99)"),
		api.ValType{Num: 99}, api.ValType{Num: -1})
}

// Of the context's types 1 matches 0, and 14 is 0.
var texts = [...]string{
	"(sub (struct (field i32)))",
	"(sub 0 (struct (field i32) (field (mut (ref null 0)))))",
	"(struct (field i8) (field (mut i16)) (field (mut i32)) (field f64) (field (ref null 1)) (field (mut (ref 1))) (field (mut i8)) (field i16) (field (ref func)))",
	"(struct)",
	"(array i8)",
	"(array (mut i8))",
	"(array (mut i16))",
	"(array i64)",
	"(array (mut f32))",
	"(array (mut (ref null 0)))",
	"(array (ref 1))",
	"(array (mut (ref 0)))",
	"(func (param i32) (result (ref 0)))",
	"(array (mut (ref null func)))",
	"(sub (struct (field i32)))",
	"(array (mut i32))",
	"(struct (field (mut i64)) (field (mut f32)) (field (mut i8)) (field (ref null func)))",
	"(func)",
	"(array i16)",
}

// groups are the context's types, for checkers, which copy them.
var groups = read(texts[:]...)

// The first numbers of the context's lists that name nothing.
const (
	noType = len(texts)
	noFunc = 5
	noElem = 9
	noData = 3
)

// context has lists of unlike lengths, so that one that is taken for another is seen.
func context() api.Ctx {
	mut := func(text string) api.GlobalType { return api.GlobalType{Type: val(text), Mut: true} }
	still := func(text string) api.GlobalType { return api.GlobalType{Type: val(text)} }
	return api.Ctx{
		Types:    read(texts[:]...),
		Funcs:    []int{12, 17, 12, 17, 17},
		Tables:   make([]api.TableType, 30),
		Memories: make([]api.Limits, 40),
		Globals:  []api.GlobalType{still("i32"), mut("i32"), still("(ref null any)"), mut("(ref 0)"), still("i64"), still("(ref func)"), mut("f32")},
		Tags:     make([]int, 50),
		Elems:    vals("(ref null func), (ref func), (ref null 0), (ref 1), (ref null none), (ref null extern), (ref 14), i32, (ref null nofunc)"),
		Datas:    noData,
		Refs:     []bool{true, false, false, true}, // of the last function it is not told
	}
}

// home is what the function in which all stands answers.
const home = "f32, (ref 0)"

// fresh is a checker at the beginning of a function in the context, of whose locals the last one is not set.
func fresh() *stack.Checker {
	return stack.New(groups, vals("i32, (ref 0)"), vals("i64, (ref func)"), vals(home))
}

const unset = 3

// Labels of nested, by what a branch takes along.
const (
	toNothing = iota
	toAny     // i32, (ref null any)
	toI31     // (ref i31)
	toNumber  // (ref null any), i32
	toLoop    // (ref null eq), with which the loop begins
	toStruct  // i64, f32, (ref null 0)
	toExtern  // (ref null extern)
	toHome    // as home
	noLabel
)

// nested is a place within blocks, each with operands ahead of it.
func nested() *stack.Checker {
	c := fresh()
	enter := func(on string, op int, in, out string) {
		c.Pushes(vals(on))
		if e := c.Enter(op, vals(in), vals(out)); e != api.OK {
			panic(fmt.Sprint("nested: error ", e))
		}
	}
	enter("f32, (ref 1), i32", opcode.Block, "", "(ref null extern)")
	enter("i64, i32", opcode.If, "i32", "i64, f32, (ref null 0)")
	enter("f64, (ref i31)", opcode.Loop, "(ref null eq)", "f64, f64")
	enter("", opcode.TryTable, "", "(ref null any), i32")
	enter("(ref null none), i32", opcode.Block, "", "(ref i31)")
	enter("i64, (ref null any)", opcode.Else, "", "i32, (ref null any)")
	enter("i32, (ref null eq), i32, i32, (ref null 5), i32, i32, i32", opcode.Block, "", "")
	return c
}

// Instructions by the fields that they have.
func plain(op int) api.Instr           { return api.Instr{Op: op} }
func x(op int, n uint32) api.Instr     { return api.Instr{Op: op, X: n} }
func xy(op int, n, m uint32) api.Instr { return api.Instr{Op: op, X: n, Y: m} }
func fixed(n uint32, many uint64) api.Instr {
	return api.Instr{Op: opcode.ArrayNewFixed, X: n, N: many}
}
func of(op int, l ...api.ValType) api.Instr { return api.Instr{Op: op, Types: l} }
func cast(op int, text string) api.Instr    { return of(op, val(text)) }
func branch(op int, label uint32, a, b string) api.Instr {
	return api.Instr{Op: op, X: label, Types: []api.ValType{val(a), val(b)}}
}

// told is what calls answered, as one text, in which nil and empty lists are the same.
func told(answers ...any) string {
	var b []byte
	for _, a := range answers {
		switch v := a.(type) {
		case []api.ValType:
			// Most that is told are such lists; fmt would go over each by reflection.
			for _, one := range v {
				b = append(strconv.AppendInt(append(b, '('), int64(one.Num), 10), ' ')
				b = append(strconv.AppendBool(b, one.Null), ' ')
				b = append(strconv.AppendInt(b, int64(one.Heap), 10), ')')
			}
		case int:
			b = strconv.AppendInt(b, int64(v), 10)
		case bool:
			b = strconv.AppendBool(b, v)
		default:
			b = fmt.Append(b, v)
		}
		b = append(b, ' ')
	}
	return string(append(b, '\n'))
}

// look tells all that can be asked of a checker.
func look(c *stack.Checker) string {
	var b strings.Builder
	b.WriteString(told(c.Depth(), c.Done(), c.Results()))
	for n := range uint32(c.Depth()) + 1 {
		b.WriteString(told(c.Label(n)))
	}
	b.WriteString(top(c))
	return b.String()
}

// top tells what can be asked of a checker's last frame.
func top(c *stack.Checker) string {
	var b strings.Builder
	b.WriteString(told(c.Height(), c.Operands(), c.Reached()))
	b.WriteString(told(c.Last()))
	for n, e := uint32(0), api.OK; e == api.OK && n < 100; n++ {
		_, e = c.Local(n)
		b.WriteString(told(c.Local(n)))
		b.WriteString(told(c.Get(n)))
	}
	return b.String()
}

// drain leaves one frame after another, and tells what could be seen on the way: heights and locals that a frame keeps are seen only behind it.
func drain(c *stack.Checker) string {
	var b strings.Builder
	b.WriteString(look(c))
	for range c.Depth() {
		b.WriteString(told(c.Unreachable()))
		b.WriteString(told(c.Leave()))
		b.WriteString(top(c))
	}
	b.WriteString(look(c))
	return b.String()
}

// place makes checkers that are all at one place of a function.
type place func() *stack.Checker

// with is the place at which more operands lie.
func (p place) with(l []api.ValType) place {
	return func() *stack.Checker {
		c := p()
		c.Pushes(l)
		return c
	}
}

// dead is the place behind which nothing is reached.
func (p place) dead() place {
	return func() *stack.Checker {
		c := p()
		c.Unreachable()
		return c
	}
}

// on are the operands that lie at a place, others behind them.
func (p place) on(l []api.ValType) []api.ValType { return append(p().Operands(), l...) }

// refuses says that a step answers an error, and that all is as it was, also what is seen only later.
func refuses(t *testing.T, p place, x api.Ctx, i api.Instr, want api.Errno) {
	t.Helper()
	c := p()
	if e := vref.Step(x, c, i); e != want {
		t.Errorf("%s on %v: %d, not %d", instr.Text(i), p().Operands(), e, want)
		return
	}
	if got, want := drain(c), drain(p()); got != want {
		t.Errorf("%s on %v: it should lead to\n%sand leads to\n%s", instr.Text(i), p().Operands(), want, got)
	}
}

// refusesAnyway says that a step is refused for what it names, whatever the operands are, reached or not.
func refusesAnyway(t *testing.T, i api.Instr, in []api.ValType, want api.Errno) {
	t.Helper()
	start := place(nested)
	for _, l := range [][]api.ValType{nil, in, vals("none, none, none, none, none"), vals("f32, f64, (ref exn)")} {
		refuses(t, start.with(l), context(), i, want)
		refuses(t, start.dead().with(l), context(), i, want)
	}
}

// takes says that a step is taken, and what the operands are then; all else is as it was.
func takes(t *testing.T, p place, x api.Ctx, i api.Instr, operands []api.ValType) {
	t.Helper()
	c, d := p(), p()
	if e := vref.Step(x, c, i); e != api.OK {
		t.Errorf("%s on %v: %d", instr.Text(i), d.Operands(), e)
		return
	}
	if told(c.Operands()) != told(operands) || c.Reached() != d.Reached() {
		t.Errorf("%s on %v: %v, reached %v, not %v", instr.Text(i), d.Operands(), c.Operands(), c.Reached(), operands)
	}
	c.Unreachable()
	d.Unreachable()
	if got, want := drain(c), drain(d); got != want {
		t.Errorf("%s on %v: it should lead to\n%sand leads to\n%s", instr.Text(i), p().Operands(), want, got)
	}
}

// takesAnyway says that a step is taken on operands behind others, and where it is not reached on none and on all; and what it gives.
func takesAnyway(t *testing.T, i api.Instr, in, out []api.ValType) {
	t.Helper()
	for _, p := range places() {
		takes(t, p.with(in), context(), i, p.on(out))
		takes(t, p.dead().with(in), context(), i, p.dead().on(out))
		takes(t, p.dead(), context(), i, p.dead().on(out))
	}
}

// places are where a function's code may be, by name: all know the labels of nested.
func places() map[string]place {
	start := place(nested)
	return map[string]place{
		"in blocks": start,
		"on others": start.with(vals("f64, (ref any), none, i32, (ref 1)")),
		"with a local that is set": func() *stack.Checker {
			c := nested()
			c.Set(unset)
			c.Push(val("i32"))
			return c
		},
	}
}

// must says that calls are taken.
func must(t *testing.T, errors ...api.Errno) {
	t.Helper()
	for n, e := range errors {
		if e != api.OK {
			t.Fatalf("call %d is refused: %d", n, e)
		}
	}
}

// indices are numbers at and above the first of which nothing is there.
func indices(first int) []uint32 {
	return []uint32{uint32(first), uint32(first) + 1, 1000, math.MaxInt32, math.MaxInt32 + 1, math.MaxUint32 - 1, math.MaxUint32}
}

// span are the numbers from one to another.
func span(first, last int) []int {
	var out []int
	for n := first; n <= last; n++ {
		out = append(out, n)
	}
	return out
}
