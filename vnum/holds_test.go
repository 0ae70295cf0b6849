package vnum_test

import (
	"math"
	"math/rand"
	"slices"
	"strings"
	"testing"

	"ratchet/api"
	"ratchet/instr"
	"ratchet/opcode"
	"ratchet/stack"
	"ratchet/vnum"
)

func TestExamples(t *testing.T) {
	x := api.Ctx{Memories: []api.Limits{{Min: 1}}, Globals: []api.GlobalType{{Type: val("i32")}}}
	start := func() *stack.Checker { return stack.New(nil, vals("i32"), nil, nil) }
	for _, c := range []struct {
		list []api.Instr
		want api.Errno
	}{
		{[]api.Instr{{Op: 0x20}, mem(0x28, 0, 3, 0)}, api.ErrAlign},
		{[]api.Instr{{Op: 0x20}, mem(0x28, 0, 2, 0)}, api.OK},
		{[]api.Instr{{Op: 0x41, N: 1}, {Op: 0x42, N: 2}, {Op: 0x41}, {Op: 0x1b}}, api.ErrSelect},
		{[]api.Instr{{Op: 0x41, N: 1}, {Op: 0x41, N: 2}, {Op: 0x41}, {Op: 0x1b}}, api.OK},
		{[]api.Instr{{Op: 0x20}, {Op: 0x24}}, api.ErrMut},
		{[]api.Instr{{Op: 0x20, X: 1}}, api.ErrIndex},
		{[]api.Instr{{Op: 0x1a}}, api.ErrUnder},
	} {
		k, last := start(), len(c.list)-1
		for _, i := range c.list[:last] {
			must(t, vnum.Step(x, k, i))
		}
		if e := vnum.Step(x, k, c.list[last]); e != c.want {
			t.Errorf("%s: %d, not %d", instr.Text(c.list[last]), e, c.want)
		}
	}
}

// chooser chooses by chance; all that it chooses hangs on its seed.
type chooser struct {
	*rand.Rand
	ops  []int
	rows map[int][]row
}

func newChooser(seed int64) *chooser {
	// Those that count for much in the table come more often than the many operators.
	few := slices.Concat(span(0x1a, 0x1c), span(0x20, 0x26), span(0x3f, 0x44), span(0xfc08, 0xfc11))
	r := &chooser{rand.New(rand.NewSource(seed)), slices.Concat(few, few, few, few, span(0x28, 0x3e), span(0x28, 0x3e), vnum.Ops(), []int{0, 0x0f, 0xd1, 0xfc12}), map[int][]row{}}
	for _, one := range rows() {
		r.rows[one.i.Op] = append(r.rows[one.i.Op], one)
	}
	return r
}

// index is one of the first numbers, or a great one.
func (r *chooser) index() uint32 {
	if r.Intn(40) == 0 {
		return math.MaxUint32 - uint32(r.Intn(3))
	}
	return uint32(r.Intn(4 + r.Intn(4)))
}

func (r *chooser) kind() api.ValType {
	all := append(kinds(), vals("i32, i32, i32, i32, i32, i64, i64, i64, none, none, (ref 1), (ref 1), (ref func)")...)
	return all[r.Intn(len(all))]
}

func (r *chooser) list(most int) []api.ValType {
	l := make([]api.ValType, r.Intn(most+1))
	for n := range l {
		l[n] = r.kind()
	}
	return l
}

// instr is any instruction, of which most name what there is.
func (r *chooser) instr() api.Instr {
	i := api.Instr{Op: r.ops[r.Intn(len(r.ops))], X: r.index(), Y: r.index(), N: r.Uint64(), Types: r.list(2)}
	i.Mem = api.MemArg{Align: uint32(r.Intn(4)), Mem: uint32(r.Intn(3)), Offset: uint64(r.Intn(2)) << 31 << r.Intn(3)}
	return i
}

// likely are operands with which an instruction may often go.
func (r *chooser) likely(i api.Instr) []api.ValType {
	all := r.rows[i.Op]
	if len(all) == 0 {
		return r.list(3)
	}
	l := slices.Clone(all[r.Intn(len(all))].in)
	if len(l) > 0 && r.Intn(8) == 0 {
		l[r.Intn(len(l))] = r.kind()
	}
	return l[r.Intn(1+r.Intn(len(l)+1)):]
}

// act is a call that is made again on another checker.
type act func(c *stack.Checker)

// move chooses what changes a checker without a step.
func (r *chooser) move(i api.Instr) act {
	l := r.likely(i)
	switch r.Intn(12) {
	case 0:
		return func(c *stack.Checker) { c.Unreachable() }
	case 1, 2:
		return func(c *stack.Checker) { c.Enter(opcode.Block, nil, vals("i32")) }
	case 3:
		return func(c *stack.Checker) {
			c.Unreachable()
			c.Leave()
		}
	}
	return func(c *stack.Checker) { c.Pushes(l) }
}

// again makes a checker on which acts have been made.
func again(acts []act) place {
	return func() *stack.Checker {
		c := fresh()
		for _, a := range acts {
			a(c)
		}
		return c
	}
}

// Rows of steps answer what the chapter's words answer, and leave what these leave; with an error all is as it was, also what is seen only later.
func TestP142Rows(t *testing.T) {
	x, seen := context(), map[api.Errno]int{}
	taken := map[int]int{}
	r := newChooser(5)
	for row := range 1200 {
		var acts []act
		var texts strings.Builder
		c := fresh()
		for range 30 {
			i := r.instr()
			before := r.move(i)
			before(c)
			acts = append(acts, before)
			o := again(acts)()
			texts.WriteString(instr.Text(i) + " on " + told(o.Operands()))
			want, got := oracleStep(x, o, i), vnum.Step(x, c, i)
			if got != want {
				t.Fatalf("row %d: %s: %d, not %d", row, texts.String(), got, want)
			}
			seen[got]++
			if got == api.OK {
				taken[i.Op]++
				acts = append(acts, func(c *stack.Checker) { oracleStep(x, c, i) })
			} else {
				o = again(acts)()
			}
			if got, want := look(c), look(o); got != want {
				t.Fatalf("row %d: %s leaves\n%snot\n%s", row, texts.String(), got, want)
			}
		}
		if got, want := drain(c), drain(again(acts)()); got != want {
			t.Fatalf("row %d: %s leads to\n%snot\n%s", row, texts.String(), got, want)
		}
	}
	// The rows must come to all that there is.
	for _, e := range []api.Errno{api.OK, api.ErrNone, api.ErrUnder, api.ErrType, api.ErrUnset, api.ErrBlock, api.ErrIndex, api.ErrArity, api.ErrAlign, api.ErrOffset, api.ErrMut, api.ErrSelect} {
		if seen[e] < 20 {
			t.Errorf("%d steps of error %d", seen[e], e)
		}
	}
	for _, op := range vnum.Ops() {
		if taken[op] == 0 {
			t.Errorf("%s is never taken", instr.Name(op))
		}
	}
}

// oracleStep is expect, which knows only the table's instructions.
func oracleStep(x api.Ctx, c *stack.Checker, i api.Instr) api.Errno {
	if !slices.Contains(ops(), i.Op) {
		return api.ErrNone
	}
	return expect(x, c, i)
}

// What is taken with some operands is taken with others ahead of them, and these stay.
func TestP143Ahead(t *testing.T) {
	r := newChooser(7)
	for range 3000 {
		i := r.instr()
		on, more := r.likely(i), r.list(4)
		c := place(fresh).with(on)()
		if vnum.Step(context(), c, i) != api.OK {
			continue
		}
		d := place(fresh).with(more).with(on)()
		if e := vnum.Step(context(), d, i); e != api.OK {
			t.Fatalf("%s on %v: taken, and behind %v: %d", instr.Text(i), on, more, e)
		}
		if want := slices.Concat(more, c.Operands()); told(d.Operands()) != told(want) {
			t.Fatalf("%s on %v behind %v: %v, not %v", instr.Text(i), on, more, d.Operands(), want)
		}
	}
}

// Behind what is not reached each goes just where nothing is wrong with its indices and immediates, as on operands that go.
func TestP143NothingThere(t *testing.T) {
	r := newChooser(11)
	for range 6000 {
		i, p := r.instr(), unreached()["in a block"]
		want := oracleStep(context(), p(), i)
		if want == api.ErrUnder || want == api.ErrType && i.Op != opcode.TableCopy && i.Op != opcode.TableInit {
			t.Fatalf("%s where it is not reached: the chapter's words come to %d", instr.Text(i), want)
		}
		if want == api.OK {
			c := p()
			must(t, vnum.Step(context(), c, i))
			if c.Reached() {
				t.Fatalf("%s makes it reached", instr.Text(i))
			}
		} else {
			refuses(t, p, context(), i, want)
		}
	}
}

// Two checkers know nothing of one another, and a step hangs on nothing that was stepped ahead elsewhere.
func TestP142Two(t *testing.T) {
	a, b := place(fresh).with(vals("(ref func), i32"))(), place(fresh).with(vals("(ref func), i32"))()
	before := drain(place(fresh).with(vals("(ref func), i32"))())
	must(t, step(a, x(opcode.LocalSet, 0)), step(a, x(opcode.LocalSet, unset)), step(a, x(opcode.LocalGet, unset)))
	if got := drain(b); got != before {
		t.Errorf("a step on another checker leaves\n%snot\n%s", got, before)
	}
}
