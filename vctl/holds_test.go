package vctl_test

import (
	"math"
	"math/rand"
	"slices"
	"strings"
	"testing"

	"ratchet/api"
	"ratchet/instr"
	"ratchet/opcode"
	"ratchet/stack"
	"ratchet/vctl"
)

func TestExamples(t *testing.T) {
	x := context()
	start := func() *stack.Checker { return stack.New(x.Types, nil, nil, vals("i32")) }
	c := start()
	must(t, c.Push(val("i32")), vctl.Step(x, c, api.Instr{Op: 0xc}))
	if c.Reached() || c.Height() != 0 {
		t.Error("behind br something is reached")
	}
	c = start()
	must(t, vctl.Open(x, c, one(2, "none")), c.Push(val("i32")), c.Push(val("i32")))
	if e := vctl.Step(x, c, brTable(1, 0)); e != api.ErrArity {
		t.Errorf("br_table 0 1: %d", e)
	}
	c = start()
	must(t, vctl.Open(x, c, one(2, "i32")))
	if e := vctl.Close(x, c); e != api.ErrUnder {
		t.Errorf("block (result i32) end: %d", e)
	}
	c = start()
	must(t, c.Push(val("i32")), vctl.Open(x, c, one(4, "i32")), c.Push(val("i32")))
	if e := vctl.Close(x, c); e != api.ErrArity {
		t.Errorf("if (result i32) i32.const 1 end: %d", e)
	}
	c = start()
	must(t, c.Push(val("i32")))
	if e := vctl.Step(x, c, api.Instr{Op: 0x12, X: 4}); e != api.ErrType {
		t.Errorf("return_call of a function with other results: %d", e)
	}
}

// chooser chooses by chance; all that it chooses hangs on its seed.
type chooser struct {
	*rand.Rand
	rows map[int][]row
}

func newChooser(seed int64) *chooser {
	r := &chooser{rand.New(rand.NewSource(seed)), map[int][]row{}}
	for _, one := range rows() {
		r.rows[one.i.Op] = append(r.rows[one.i.Op], one)
	}
	return r
}

// index is one of the first numbers, or a great one.
func (r *chooser) index() uint32 {
	if r.Intn(40) == 0 {
		return math.MaxUint32 - uint32(r.Intn(3))
	}
	return uint32(r.Intn(3 + r.Intn(20)))
}

func (r *chooser) label() uint32 {
	if r.Intn(20) == 0 {
		return r.index()
	}
	return uint32(r.Intn(1 + r.Intn(5)))
}

func (r *chooser) labels() []uint32 {
	l, first := make([]uint32, r.Intn(4)), r.label()
	for n := range l {
		if l[n] = first; r.Intn(3) == 0 {
			l[n] = r.label()
		}
	}
	return l
}

func (r *chooser) kind() api.ValType {
	all := append(kinds(), vals("i32, i32, i32, i64, i64, none, none, (ref null 4), (ref 5), (ref null exn)")...)
	return all[r.Intn(len(all))]
}

func (r *chooser) list(most int) []api.ValType {
	l := make([]api.ValType, r.Intn(most+1))
	for n := range l {
		l[n] = r.kind()
	}
	return l
}

func (r *chooser) block() api.Block {
	switch r.Intn(4) {
	case 0:
		return api.Block{Type: -1 - r.Intn(2), Result: r.kind()}
	case 1:
		return api.Block{Type: -1}
	}
	return api.Block{Type: r.Intn(noType + r.Intn(2))}
}

func (r *chooser) catches() []api.Catch {
	l := make([]api.Catch, max(0, r.Intn(4)-1))
	for n := range l {
		l[n] = clause(r.Intn(4), uint32(r.Intn(4)), r.label())
		if r.Intn(8) == 0 {
			l[n] = clause(r.Intn(6)-1, r.index(), r.label())
		}
	}
	return l
}

// instr is an instruction, of which most name what there is: a row's, or one of any fields.
func (r *chooser) instr() api.Instr {
	all := append(ops(), 2, 2, 2, 3, 3, 4, 4, 4, 4, 0x1f, 0x1f, 0x1f, 0x1f, 5, 0xb)
	i := api.Instr{Op: all[r.Intn(len(all))], X: r.index(), Y: r.index(), Labels: r.labels(), Block: r.block(), Catches: r.catches()}
	if l := r.rows[i.Op]; len(l) > 0 && r.Intn(3) > 0 {
		i.X, i.Y = l[r.Intn(len(l))].i.X, l[r.Intn(len(l))].i.Y
	}
	if strings.HasPrefix(instr.Name(i.Op), "br") {
		i.X = r.label()
	}
	return i
}

// likely are operands on which an instruction may often go at a place.
func (r *chooser) likely(c *stack.Checker, i api.Instr) []api.ValType {
	var l []api.ValType
	switch rows := r.rows[i.Op]; {
	case strings.HasPrefix(instr.Name(i.Op), "br"):
		l, _ = c.Label(i.X)
		l = append(l, [][]api.ValType{vals("i32"), vals("(ref null 4)"), nil}[r.Intn(3)]...)
	case len(rows) > 0:
		for _, one := range rows {
			if one.i.X == i.X && (l == nil || one.i.Y == i.Y) {
				l = slices.Clone(one.in)
			}
		}
	default:
		in, _, _ := vctl.BlockType(context(), i.Block)
		l = on(i.Op, in)
	}
	if len(l) > 0 && r.Intn(8) == 0 {
		l[r.Intn(len(l))] = r.kind()
	}
	return l[r.Intn(1+r.Intn(len(l)+1)):]
}

// change is a call that is made again on another checker.
type change func(c *stack.Checker)

// ahead chooses what changes a checker ahead of a call.
func (r *chooser) ahead(l []api.ValType) change {
	local := uint32(r.Intn(unset + 1))
	switch r.Intn(16) {
	case 0:
		return func(c *stack.Checker) { c.Unreachable() }
	case 1:
		return func(c *stack.Checker) { c.Set(local) }
	case 2:
		return func(c *stack.Checker) {}
	case 3:
		return func(c *stack.Checker) { c.Enter(opcode.If, l, l) }
	}
	return func(c *stack.Checker) { c.Pushes(l) }
}

// again makes a checker on which changes have been made.
func again(l []change) *stack.Checker {
	c := fresh()
	for _, do := range l {
		do(c)
	}
	return c
}

// move is a call and what the chapter says of it.
type move struct {
	act
	i    api.Instr
	want func(oracle)
}

// move chooses a call, and the operands that it is likely to go on.
func (r *chooser) move(c *stack.Checker) (move, []api.ValType) {
	_, in, out, _ := c.Last()
	switch r.Intn(8) {
	case 0:
		return move{closing(), api.Instr{}, oracle.close}, out[r.Intn(len(out)+1):]
	case 1:
		return move{turn(), api.Instr{}, oracle.turn}, append(in, out...)[r.Intn(len(in)+1):]
	}
	i := r.instr()
	on := r.likely(c, i)
	if slices.Contains(blockOps(), i.Op) == (r.Intn(30) > 0) {
		return move{opening(i), i, oracle.open}, on
	}
	return move{stepping(i), i, oracle.step}, on
}

// Rows of calls answer what the chapter's words answer, and leave what these leave; with an error all is as it was, also what is seen only later.
func TestVC4Rows(t *testing.T) {
	x, seen, taken := context(), map[api.Errno]int{}, map[string]int{}
	r := newChooser(5)
	for row := range 800 {
		var done []change
		var texts strings.Builder
		c := fresh()
		for range 25 {
			m, on := r.move(c)
			before := r.ahead(on)
			before(c)
			done = append(done, before)
			o := again(done)
			texts.WriteString(m.name + " on " + told(o.Operands()))
			want, got := expect(x, o, m.i, m.want), m.do(x, c)
			if got != want {
				t.Fatalf("row %d: %s: %d, not %d", row, texts.String(), got, want)
			}
			seen[got]++
			if got == api.OK {
				taken[strings.Fields(m.name)[0]]++
				done = append(done, func(c *stack.Checker) { expect(x, c, m.i, m.want) })
			} else {
				o = again(done)
			}
			if got, want := look(c), look(o); got != want {
				t.Fatalf("row %d: %s leaves\n%snot\n%s", row, texts.String(), got, want)
			}
		}
		if got, want := drain(c), drain(again(done)); got != want {
			t.Fatalf("row %d: %s leads to\n%snot\n%s", row, texts.String(), got, want)
		}
	}
	// The rows must come to all that there is.
	for _, e := range []api.Errno{api.OK, api.ErrNone, api.ErrForm, api.ErrUnder, api.ErrType, api.ErrLeft, api.ErrBlock, api.ErrIndex, api.ErrKind, api.ErrArity} {
		if seen[e] < 20 {
			t.Errorf("%d calls of error %d", seen[e], e)
		}
	}
	for _, op := range append(ops(), 2) {
		if name := instr.Name(op); taken[name] == 0 && op != 2 {
			t.Errorf("%s is never taken", name)
		}
	}
	if taken["Open"] < 100 || taken["Close"] < 100 || taken["Turn"] < 100 {
		t.Errorf("few blocks are taken: %v", taken)
	}
}

// Behind br, return, throw, tail calls and unreachable nothing is reached; behind all others it is as it was.
func TestVC4Reached(t *testing.T) {
	last := []int{opcode.Unreachable, opcode.Throw, opcode.ThrowRef, opcode.Br, opcode.BrTable, opcode.Return, opcode.ReturnCall, opcode.ReturnCallIndirect, opcode.ReturnCallRef}
	for _, r := range rows() {
		for _, p := range []place{nested, place(nested).dead()} {
			c := p.with(r.in)()
			before := c.Reached()
			must(t, vctl.Step(context(), c, r.i))
			if c.Reached() != (before && !slices.Contains(last, r.i.Op)) {
				t.Errorf("%s: reached %v, and was %v", instr.Text(r.i), c.Reached(), before)
			}
		}
	}
}

// What is taken with some operands is taken with others ahead of them, and with such as match, and these stay or go.
func TestVC4Ahead(t *testing.T) {
	r := newChooser(7)
	for range 3000 {
		i := r.instr()
		on, more := r.likely(nested(), i), r.list(4)
		c := place(nested).with(on)()
		if vctl.Step(context(), c, i) != api.OK {
			continue
		}
		d := place(nested).with(more).with(on)()
		if e := vctl.Step(context(), d, i); e != api.OK {
			t.Fatalf("%s on %v: taken, and behind %v: %d", instr.Text(i), on, more, e)
		}
		below := place(nested).below()
		want := c.Operands()
		if c.Reached() {
			want = slices.Concat(below, more, c.Operands()[len(below):])
		}
		if told(d.Operands()) != told(want) || d.Reached() != c.Reached() {
			t.Fatalf("%s on %v behind %v: %v, not %v", instr.Text(i), on, more, d.Operands(), want)
		}
	}
}

// What Open opens, and Close closes, leaves the operands as they were, less in, with out.
func TestVC4OpenClose(t *testing.T) {
	for _, p := range places() {
		for _, op := range blockOps() {
			for n := range noType {
				in, out, e := vctl.FuncType(context(), n)
				if e != api.OK {
					continue
				}
				c, d := p.with(on(op, in))(), p.with(out)()
				must(t, vctl.Open(context(), c, block(op, n)))
				if op == opcode.If {
					must(t, c.Unreachable(), vctl.Turn(c))
				}
				must(t, c.Unreachable())
				if _, e := c.Set(unset); e != api.OK {
					t.Fatal("no such local")
				}
				must(t, vctl.Close(context(), c))
				if got, want := drain(c), drain(d); got != want {
					t.Errorf("a block %x of the type %d leads to\n%snot to\n%s", op, n, got, want)
				}
			}
		}
	}
}

// Two checkers know nothing of one another.
func TestVC4Two(t *testing.T) {
	c, d := place(nested).with(vals("i32, i32"))(), place(nested).with(vals("i32, i32"))()
	before := drain(place(nested).with(vals("i32, i32"))())
	must(t, vctl.Step(context(), c, x(opcode.BrIf, 0)), vctl.Open(context(), c, block(opcode.Block, 1)), vctl.Step(context(), c, x(opcode.Br, 1)), vctl.Close(context(), c))
	if got := drain(d); got != before {
		t.Errorf("steps on another checker leave\n%snot\n%s", got, before)
	}
}
