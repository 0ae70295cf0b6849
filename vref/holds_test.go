package vref_test

import (
	"math"
	"math/rand"
	"slices"
	"strings"
	"testing"

	"ratchet/api"
	"ratchet/instr"
	"ratchet/opcode"
	"ratchet/stack"
	"ratchet/vref"
)

// chooser chooses by chance; all that it chooses hangs on its seed.
type chooser struct {
	*rand.Rand
	rows map[int][]row
}

func newChooser(seed int64) *chooser {
	r := &chooser{rand.New(rand.NewSource(seed)), map[int][]row{}}
	for _, one := range rows() {
		r.rows[one.i.Op] = append(r.rows[one.i.Op], one)
	}
	return r
}

// index is one of the first numbers, or a great one.
func (r *chooser) index() uint32 {
	if r.Intn(40) == 0 {
		return math.MaxUint32 - uint32(r.Intn(3))
	}
	return uint32(r.Intn(3 + r.Intn(noType)))
}

func (r *chooser) kind() api.ValType {
	all := append(kinds(), vals("i32, i32, i32, i32, none, none, (ref null none), (ref none), (ref 1)")...)
	return all[r.Intn(len(all))]
}

func (r *chooser) list(most int) []api.ValType {
	l := make([]api.ValType, r.Intn(most+1))
	for n := range l {
		l[n] = r.kind()
	}
	return l
}

// heap is a type of references, most often to what there is.
func (r *chooser) heap() api.ValType {
	h := r.Intn(noType-api.HNoExn) + api.HNoExn
	if r.Intn(20) == 0 {
		h = []int{noType, api.HNoExn - 1, math.MaxInt}[r.Intn(3)]
	}
	return ref(r.Intn(2) == 0, h)
}

// types are as many as an instruction has, or others.
func (r *chooser) types() []api.ValType {
	l := []api.ValType{r.heap(), r.heap(), r.heap()}
	if r.Intn(10) == 0 {
		return l[r.Intn(4):]
	}
	if r.Intn(3) == 0 {
		l[1].Heap = l[0].Heap
	}
	return l[:2]
}

// instr is an instruction, of which most name what there is: a row's, or one of any fields.
func (r *chooser) instr() api.Instr {
	all := append(ops(), opcode.BrOnCast, opcode.BrOnCast, opcode.BrOnCastFail, opcode.BrOnCastFail)
	if r.Intn(30) == 0 {
		all = []int{0, 0x0d, 0x1a, 0x23, 0x41, 0xd5, 0xd6, 0xcf, 0xfaff, 0xfb1f, 0xfc00, -1}
	}
	i := api.Instr{Op: all[r.Intn(len(all))], X: r.index(), Y: r.index(), N: uint64(r.Intn(4)), Types: r.types()}
	if i.Op == opcode.BrOnCast || i.Op == opcode.BrOnCastFail {
		i.X = uint32(r.Intn(1 + r.Intn(noLabel+1)))
	}
	if l := r.rows[i.Op]; len(l) > 0 && r.Intn(2) > 0 {
		one := l[r.Intn(len(l))].i
		if i.X = one.X; r.Intn(2) > 0 {
			i = one
		}
	}
	if i.Op == opcode.ArrayNewFixed && r.Intn(4) == 0 {
		i.N = api.MaxFields + uint64(r.Intn(3))
	}
	return i
}

// likely are operands on which an instruction may often go at a place.
func (r *chooser) likely(c *stack.Checker, i api.Instr) []api.ValType {
	l := r.list(3)
	switch rows := r.rows[i.Op]; {
	case (i.Op == opcode.BrOnCast || i.Op == opcode.BrOnCastFail) && len(i.Types) > 0:
		if l, _ = c.Label(i.X); len(l) > 0 {
			l = l[:len(l)-1]
		}
		l = append(l, i.Types[0])
	case len(rows) > 0:
		l = slices.Clone(rows[r.Intn(len(rows))].in)
		for _, one := range rows {
			if one.i.X == i.X && one.i.Y == i.Y {
				l = slices.Clone(one.in)
			}
		}
	}
	if len(l) > 0 && r.Intn(8) == 0 {
		l[r.Intn(len(l))] = r.kind()
	}
	return l[r.Intn(1+r.Intn(len(l)+1)):]
}

// act is a call that is made again on another checker.
type act func(c *stack.Checker)

// ahead chooses what changes a checker ahead of a step.
func (r *chooser) ahead(l []api.ValType) act {
	out := r.list(3)
	switch r.Intn(20) {
	case 0:
		return func(c *stack.Checker) { c.Unreachable() }
	case 1:
		return func(c *stack.Checker) { c.Set(unset) }
	case 2, 3:
		return func(c *stack.Checker) { c.Enter(opcode.Block, nil, out) }
	case 4:
		return func(c *stack.Checker) { c.Enter(opcode.Loop, l, out) }
	case 5:
		return func(c *stack.Checker) {
			c.Unreachable()
			c.Leave()
		}
	}
	return func(c *stack.Checker) { c.Pushes(l) }
}

// again is the place at which acts have been made.
func again(acts []act) place {
	return func() *stack.Checker {
		c := nested()
		for _, a := range acts {
			a(c)
		}
		return c
	}
}

// Rows of steps answer what the chapter's words answer, and leave what these leave; with an error all is as it was, also what is seen only later.
func TestP162Rows(t *testing.T) {
	t.Parallel()
	x1, seen, taken := context(), map[api.Errno]int{}, map[int]int{}
	r := newChooser(5)
	for row := range 800 {
		var acts []act
		var texts strings.Builder
		c := nested()
		for range 25 {
			i := r.instr()
			before := r.ahead(r.likely(c, i))
			before(c)
			acts = append(acts, before)
			o := again(acts)()
			texts.WriteString(instr.Text(i) + " on " + told(o.Operands()))
			want, got := expect(x1, o, i), vref.Step(x1, c, i)
			if got != want {
				t.Fatalf("row %d: %s: %d, not %d", row, texts.String(), got, want)
			}
			seen[got]++
			if got == api.OK {
				taken[i.Op]++
				acts = append(acts, func(c *stack.Checker) { expect(x1, c, i) })
			} else {
				o = again(acts)()
			}
			if got, want := look(c), look(o); got != want {
				t.Fatalf("row %d: %s leaves\n%snot\n%s", row, texts.String(), got, want)
			}
		}
		if got, want := drain(c), drain(again(acts)()); got != want {
			t.Fatalf("row %d: %s leads to\n%snot\n%s", row, texts.String(), got, want)
		}
	}
	// The rows must come to all that there is.
	for _, e := range []api.Errno{api.OK, api.ErrArg, api.ErrLong, api.ErrNone, api.ErrUnder, api.ErrType, api.ErrBlock, api.ErrIndex, api.ErrKind, api.ErrMutable, api.ErrRef, api.ErrDefault, api.ErrPacked, api.ErrBits} {
		if seen[e] < 20 {
			t.Errorf("%d steps of error %d", seen[e], e)
		}
	}
	for _, op := range ops() {
		if taken[op] < 5 {
			t.Errorf("%s is taken %d times", instr.Name(op), taken[op])
		}
	}
}

// What is taken with some operands is taken with others ahead of them, and these stay.
func TestP163Ahead(t *testing.T) {
	t.Parallel()
	r := newChooser(7)
	for range 4000 {
		i := r.instr()
		on, more := r.likely(nested(), i), r.list(4)
		c := place(nested).with(on)()
		if vref.Step(context(), c, i) != api.OK {
			continue
		}
		below := nested().Height()
		takes(t, place(nested).with(more).with(on), context(), i, place(nested).on(append(more, c.Operands()[below:]...)))
	}
}

// What is taken is taken, too, with types in the operands' places that match these.
func TestP163Lesser(t *testing.T) {
	for _, r := range rows() {
		for n, v := range r.in {
			for _, w := range kinds() {
				if !r.goes(n, w) {
					continue
				}
				in := slices.Clone(r.in)
				in[n] = w
				c := place(nested).with(in)()
				if e := vref.Step(context(), c, r.i); e != api.OK {
					t.Errorf("%s with %v in the place of %v: %d", instr.Text(r.i), w, v, e)
				}
			}
		}
	}
}

// Behind what is not reached each goes just where nothing is wrong with what it names.
func TestP163NothingThere(t *testing.T) {
	t.Parallel()
	r := newChooser(11)
	for range 4000 {
		i, p := r.instr(), place(nested).dead()
		want := expect(context(), p(), i)
		if want == api.ErrUnder {
			t.Fatalf("%s where it is not reached: the chapter's words come to %d", instr.Text(i), want)
		}
		if want != api.OK {
			refuses(t, p, context(), i, want)
			// What is named is wrong, so that it is, too, where it is reached.
			refuses(t, place(nested).with(vals("none, none, none, none, none, none, none, none, none")), context(), i, want)
			continue
		}
		c := p()
		must(t, vref.Step(context(), c, i))
		if c.Reached() {
			t.Fatalf("%s makes it reached", instr.Text(i))
		}
	}
}

// Two checkers know nothing of one another, and a step hangs on nothing that was stepped ahead elsewhere.
func TestP162Two(t *testing.T) {
	c, d := nested(), nested()
	before := drain(nested())
	null := cast(opcode.RefNull, "(ref null 5)")
	must(t, vref.Step(context(), c, null), vref.Step(context(), c, plain(opcode.RefAsNonNull)), vref.Step(context(), c, plain(opcode.ArrayLen)), vref.Step(context(), c, plain(opcode.RefI31)))
	if got := drain(d); got != before {
		t.Errorf("steps on another checker leave\n%snot\n%s", got, before)
	}
}

// A struct of as many fields as there may be.
func TestP162ManyFields(t *testing.T) {
	l := slices.Repeat([]api.Field{{Type: val("i16"), Mut: true}}, api.MaxFields)
	l[api.MaxFields-1].Type = val("f64")
	x1 := api.Ctx{Types: []api.RecType{{Types: []api.SubType{{Comp: api.CompType{Kind: api.CStruct, Fields: l}}}}}}
	in := slices.Repeat(vals("i32"), api.MaxFields-1)
	start := func() *stack.Checker { return stack.New(x1.Types, nil, nil, nil) }
	takes(t, place(start).with(in).with(vals("f64")), x1, x(opcode.StructNew, 0), vals("(ref 0)"))
	refuses(t, place(start).with(in[1:]).with(vals("f64")), x1, x(opcode.StructNew, 0), api.ErrUnder)
	refuses(t, place(start).with(in).with(vals("i32")), x1, x(opcode.StructNew, 0), api.ErrType)
	takes(t, start, x1, x(opcode.StructNewDefault, 0), vals("(ref 0)"))
	takes(t, place(start).with(vals("(ref 0)")), x1, xy(opcode.StructGet, 0, api.MaxFields-1), vals("f64"))
	takes(t, place(start).with(vals("(ref 0), i32")), x1, xy(opcode.StructSet, 0, api.MaxFields-2), nil)
	refuses(t, place(start).with(vals("(ref 0)")), x1, xy(opcode.StructGet, 0, api.MaxFields), api.ErrIndex)
}
