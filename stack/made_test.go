package stack_test

import (
	"fmt"
	"math"
	"strings"
	"testing"

	"ratchet/api"
	"ratchet/opcode"
	"ratchet/stack"
	"ratchet/types"
)

// checker has the chapter's calls: package stack's checker, and the oracle.
type checker interface {
	Push(v api.ValType) api.Errno
	Pop() (api.ValType, api.Errno)
	PopType(v api.ValType) (api.ValType, api.Errno)
	Pushes(l []api.ValType) api.Errno
	Pops(l []api.ValType) api.Errno
	Swap(in, out []api.ValType) api.Errno
	Enter(op int, in, out []api.ValType) api.Errno
	Leave() (int, []api.ValType, []api.ValType, api.Errno)
	Last() (int, []api.ValType, []api.ValType, api.Errno)
	Unreachable() api.Errno
	Label(n uint32) ([]api.ValType, api.Errno)
	Results() []api.ValType
	Local(n uint32) (api.ValType, api.Errno)
	Get(n uint32) (api.ValType, api.Errno)
	Set(n uint32) (api.ValType, api.Errno)
	Depth() int
	Height() int
	Operands() []api.ValType
	Reached() bool
	Done() bool
}

// read makes a list of groups from their texts.
func read(texts ...string) []api.RecType {
	var l []api.RecType
	for _, s := range texts {
		r, at, e := types.ParseRec(s)
		if e != api.OK {
			panic(fmt.Sprint(s, ": error ", e, " at ", at))
		}
		l = append(l, r)
	}
	return l
}

// val is a type by its text; of none it is the one of no type.
func val(text string) api.ValType {
	if text == "none" {
		return api.ValType{}
	}
	v, at, e := types.Parse(text)
	if e != api.OK {
		panic(fmt.Sprint(text, ": error ", e, " at ", at))
	}
	return v
}

// vals are types by their texts, with commas between.
func vals(texts string) []api.ValType {
	if texts == "" {
		return nil
	}
	var l []api.ValType
	for s := range strings.SplitSeq(texts, ",") {
		l = append(l, val(strings.TrimSpace(s)))
	}
	return l
}

// fresh is a checker without groups and locals.
func fresh(results string) *stack.Checker { return stack.New(nil, nil, nil, vals(results)) }

// told is what calls answered, as one text, in which nil and empty lists are the same.
func told(answers ...any) string { return fmt.Sprintln(answers...) }

// look tells all that can be asked of a checker.
func look(c checker) string {
	var b strings.Builder
	b.WriteString(told(c.Depth(), c.Height(), c.Operands(), c.Reached(), c.Done(), c.Results()))
	b.WriteString(told(c.Last()))
	for n := range uint32(c.Depth()) + 1 {
		b.WriteString(told(c.Label(n)))
	}
	b.WriteString(told(c.Label(math.MaxUint32)))
	for n := range uint32(1000) {
		v, e := c.Local(n)
		b.WriteString(told(v, e))
		b.WriteString(told(c.Get(n)))
		if e != api.OK {
			break
		}
	}
	return b.String()
}

// drain leaves one frame after another, and tells what could be seen on the way: heights and locals that a frame keeps are seen only behind it.
func drain(c checker) string {
	var b strings.Builder
	for range c.Depth() {
		b.WriteString(look(c))
		b.WriteString(told(c.Unreachable()))
		b.WriteString(told(c.Leave()))
	}
	b.WriteString(look(c))
	return b.String()
}

// must says that calls are taken.
func must(t *testing.T, errors ...api.Errno) {
	t.Helper()
	for n, e := range errors {
		if e != api.OK {
			t.Fatalf("call %d is refused: %d", n, e)
		}
	}
}

// is holds a type and an error against what they should be.
func is(t *testing.T, what string, v api.ValType, e api.Errno, want api.ValType, errno api.Errno) {
	t.Helper()
	if v != want || e != errno {
		t.Errorf("%s: %v, %d, not %v, %d", what, v, e, want, errno)
	}
}

// refuses says that a call answers an error, and that all is as it was, also what is seen only later.
func refuses(t *testing.T, make func() *stack.Checker, what string, call func(c *stack.Checker) api.Errno, want api.Errno) {
	t.Helper()
	c := make()
	before := look(c)
	if e := call(c); e != want {
		t.Errorf("%s: %d, not %d", what, e, want)
	}
	if after := look(c); after != before {
		t.Errorf("%s: it was\n%sand is\n%s", what, before, after)
	}
	if got, want := drain(c), drain(make()); got != want {
		t.Errorf("%s: it should lead to\n%sand leads to\n%s", what, want, got)
	}
}

// leave is Leave's error.
func leave(c checker) api.Errno {
	_, _, _, e := c.Leave()
	return e
}

// isFrame holds what Leave and Last answer against a frame.
func isFrame(t *testing.T, what string, op int, in, out []api.ValType, e api.Errno, want int, wantIn, wantOut string) {
	t.Helper()
	if told(op, in, out, e) != told(want, vals(wantIn), vals(wantOut), api.OK) {
		t.Errorf("%s: %s", what, told(op, in, out, e))
	}
}

// hasOperands holds the operands against types.
func hasOperands(t *testing.T, c checker, want string) {
	t.Helper()
	l := vals(want)
	if told(c.Operands()) != told(l) || c.Height() != len(l) {
		t.Errorf("operands: %v, %d of them, not %v", c.Operands(), c.Height(), l)
	}
}

// blocks are opcodes that a frame may have, and others that it is handed all the same.
func blocks() []int {
	return []int{opcode.Block, opcode.Loop, opcode.If, opcode.Else, opcode.TryTable, 0, 1, -1, -3, 259, math.MaxInt, math.MinInt}
}
