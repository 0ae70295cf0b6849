package vctl_test

import (
	"slices"
	"strings"
	"testing"

	"ratchet/api"
	"ratchet/instr"
	"ratchet/opcode"
	"ratchet/stack"
	"ratchet/sub"
	"ratchet/types"
	"ratchet/vctl"
)

// row is an instruction that may stand at the places, what it takes and what it gives.
type row struct {
	i       api.Instr
	in, out []api.ValType
	ends    bool // nothing is reached behind it
}

// onRef tells whether the last type that a row takes stands for every reference.
func (r row) onRef() bool { return r.i.Op == opcode.BrOnNull }

// given tells what a row gives where its last operand is another one than the row's.
func (r row) given(last api.ValType) []api.ValType {
	out := slices.Clone(r.out)
	if r.onRef() {
		last.Null = false
		out[len(out)-1] = last
	}
	return out
}

// behind tells what lies at a place behind a row that was taken there, with the last operand given.
func (r row) behind(p place, last api.ValType) []api.ValType {
	if r.ends {
		return p.below()
	}
	return slices.Concat(p().Operands(), r.given(last))
}

// takes says that a row is taken on operands, of which as many were there as are told.
func (r row) takes(t *testing.T, p place, on []api.ValType) {
	t.Helper()
	var last api.ValType
	if len(on) > 0 {
		last = on[len(on)-1]
	}
	takes(t, p.with(on), context(), r.i, r.behind(p, last), r.ends)
}

// goes tells whether an operand goes where a row takes its n-th one.
func (r row) goes(n int, v api.ValType) bool {
	if r.onRef() && n == len(r.in)-1 {
		return v.Num == api.TRef
	}
	return sub.Val(context().Types, v, r.in[n])
}

// rows are all that the chapter's table has.
func rows() []row {
	var out []row
	for _, r := range []struct {
		i       api.Instr
		in, out string
	}{
		{api.Instr{Op: opcode.Nop}, "", ""},
		{x(opcode.BrIf, toI32), "i32, i32", "i32"},
		{x(opcode.BrIf, toNull4), "i64, (ref null 4), i32", "i64, (ref null 4)"},
		{x(opcode.BrIf, toNull5), "i64, (ref null 5), i32", "i64, (ref null 5)"},
		{x(opcode.BrIf, toRef4), "(ref 4), i32", "(ref 4)"},
		{x(opcode.BrIf, toLoop), "i32, i32", "i32"},
		{x(opcode.BrIf, toNothing), "i32", ""},
		{x(opcode.BrIf, toFunction), "f32, (ref null 4), i32", "f32, (ref null 4)"},
		{x(opcode.Call, 0), "i32, i64", "f32, f64"},
		{x(opcode.Call, 1), "", ""},
		{x(opcode.Call, 2), "(ref 5), i64", "i32, (ref null 4)"},
		{x(opcode.Call, 3), "i32", ""},
		{x(opcode.Call, 4), "f64, (ref null 5)", "f32, (ref 5)"},
		{x(opcode.Call, 6), "(ref null 4)", "(ref null 4)"},
		{x(opcode.Call, 7), "", "i32"},
		{xy(opcode.CallIndirect, 3, 0), "i32, i64, i32", "f32, f64"},
		{xy(opcode.CallIndirect, 3, 1), "i32, i64, i64", "f32, f64"},
		{xy(opcode.CallIndirect, 7, 2), "(ref 5), i64, i32", "i32, (ref null 4)"},
		{xy(opcode.CallIndirect, 0, 3), "i32", ""},
		{xy(opcode.CallIndirect, 2, 4), "i64", "i32"},
		{xy(opcode.CallIndirect, 9, 0), "(ref null 4), i32", "(ref 5)"},
		{x(opcode.CallRef, 0), "(ref null 0)", ""},
		{x(opcode.CallRef, 3), "i32, i64, (ref null 3)", "f32, f64"},
		{x(opcode.CallRef, 8), "(ref null 4), (ref null 8)", "(ref null 4)"},
		{x(opcode.CallRef, 9), "(ref null 4), (ref null 9)", "(ref 5)"},
		{x(opcode.BrOnNull, toI32), "i32, (ref null 4)", "i32, (ref 4)"},
		{x(opcode.BrOnNull, toNull4), "i64, (ref null 4), (ref extern)", "i64, (ref null 4), (ref extern)"},
		{x(opcode.BrOnNull, toLoop), "i32, (ref null func)", "i32, (ref func)"},
		{x(opcode.BrOnNull, toNothing), "(ref null none)", "(ref none)"},
		{x(opcode.BrOnNull, toFunction), "f32, (ref null 4), (ref null 5)", "f32, (ref null 4), (ref 5)"},
		{x(opcode.BrOnNonNull, toNull4), "i64, (ref null 4)", "i64"},
		{x(opcode.BrOnNonNull, toNull5), "i64, (ref null 5)", "i64"},
		{x(opcode.BrOnNonNull, toRef4), "(ref null 4)", ""},
		{x(opcode.BrOnNonNull, toFunction), "f32, (ref null 4)", "f32"},
	} {
		out = append(out, row{r.i, vals(r.in), vals(r.out), false})
	}
	return append(out, lastRows()...)
}

// lastRows are those behind which nothing is reached.
func lastRows() []row {
	var out []row
	for _, r := range []struct {
		i  api.Instr
		in string
	}{
		{api.Instr{Op: opcode.Unreachable}, ""},
		{x(opcode.Throw, 0), "i64, (ref null exn)"},
		{x(opcode.Throw, 1), ""},
		{x(opcode.Throw, 2), "i32"},
		{x(opcode.Throw, 3), "(ref 5), i64"},
		{x(opcode.Throw, 9), ""},
		{api.Instr{Op: opcode.ThrowRef}, "(ref null exn)"},
		{x(opcode.Br, toI32), "i32"},
		{x(opcode.Br, toNull4), "i64, (ref null 4)"},
		{x(opcode.Br, toNull5), "i64, (ref null 5)"},
		{x(opcode.Br, toRef4), "(ref 4)"},
		{x(opcode.Br, toLoop), "i32"},
		{x(opcode.Br, toNothing), ""},
		{x(opcode.Br, toFunction), home},
		{brTable(toI32), "i32, i32"},
		{brTable(toNothing), "i32"},
		{brTable(toFunction), home + ", i32"},
		{brTable(toLoop, toI32), "i32, i32"},
		{brTable(toI32, toLoop, toI32, toLoop, toLoop), "i32, i32"},
		{brTable(toNothing, toNothing, toNothing), "i32"},
		{brTable(toNull4, toNull5), "i64, (ref null 5), i32"},
		{brTable(toNull5, toNull4), "i64, (ref null 5), i32"},
		{brTable(toNull4, toNull4, toNull5, toNull4), "i64, (ref null 5), i32"},
		{api.Instr{Op: opcode.Return}, home},
		{x(opcode.ReturnCall, 4), "f64, (ref null 5)"},
		{x(opcode.ReturnCall, 5), ""},
		{xy(opcode.ReturnCallIndirect, 12, 0), "f64, (ref null 5), i32"},
		{xy(opcode.ReturnCallIndirect, 12, 1), "f64, (ref null 5), i64"},
		{xy(opcode.ReturnCallIndirect, 13, 3), "i32"},
		{xy(opcode.ReturnCallIndirect, 13, 4), "i64"},
		{x(opcode.ReturnCallRef, 12), "f64, (ref null 5), (ref null 12)"},
		{x(opcode.ReturnCallRef, 13), "(ref null 13)"},
	} {
		out = append(out, row{r.i, vals(r.in), nil, true})
	}
	return out
}

// Each of Ops has a row, so that what is said of rows is said of all.
func TestVC2AllRows(t *testing.T) {
	var got []int
	for _, r := range rows() {
		got = append(got, r.i.Op)
	}
	slices.Sort(got)
	if l := slices.Compact(got); !slices.Equal(l, vctl.Ops()) {
		t.Errorf("rows: %x, Ops: %x", l, vctl.Ops())
	}
}

// Operands that go are taken, whatever lies ahead of them, and others are laid in their place.
func TestVC2Taken(t *testing.T) {
	for _, p := range places() {
		for _, r := range rows() {
			r.takes(t, p, r.in)
			r.takes(t, p.dead(), r.in)
		}
	}
}

// One operand too few, and more of them: those below the last frame's height are none.
func TestVC2TooFew(t *testing.T) {
	for _, r := range rows() {
		for n := range r.in {
			refuses(t, place(nested).with(r.in[n+1:]), context(), a(r.i), api.ErrUnder)
		}
	}
}

// Of another type at each place: what matches is taken, all else is refused, reached or not.
func TestVC2Types(t *testing.T) {
	start, dead := place(nested).with(vals("f64, f32")), place(nested).dead()
	for _, r := range rows() {
		for n := range r.in {
			for _, v := range kinds() {
				in := slices.Clone(r.in)
				in[n] = v
				if r.goes(n, v) {
					r.takes(t, start, in)
					r.takes(t, dead, in[n:])
					continue
				}
				refuses(t, start.with(in), context(), a(r.i), api.ErrType)
				refuses(t, dead.with(in), context(), a(r.i), api.ErrType)
				refuses(t, dead.with(in[n:]), context(), a(r.i), api.ErrType)
			}
		}
	}
}

// An operand of any type goes at each place.
func TestVC2Any(t *testing.T) {
	for _, p := range places() {
		for _, r := range rows() {
			for n := range r.in {
				in := slices.Clone(r.in)
				in[n] = api.ValType{}
				r.takes(t, p, in)
			}
		}
	}
}

// What is not reached goes with as many of the operands as are there, also with none.
func TestVC4NotReached(t *testing.T) {
	for _, p := range places() {
		for _, r := range rows() {
			for n := range len(r.in) + 1 {
				r.takes(t, p.dead(), r.in[n:])
			}
		}
	}
}

// Of two operands that do not go, one too few and one of another type, the last one is told.
func TestVC2LastFirst(t *testing.T) {
	for _, r := range rows() {
		if last := len(r.in) - 1; last > 0 {
			refuses(t, place(nested).with(append(slices.Clone(r.in[1:last]), api.ValType{Num: 99})), context(), a(r.i), api.ErrType)
		}
	}
}

// left is a checker all of whose frames have been left.
func left() *stack.Checker {
	c := fresh()
	c.Unreachable()
	c.Leave()
	return c
}

// Where all frames have been left there is no label, nothing can be popped, and nothing can come to be not reached; what asks for none of these is taken.
func TestVC2AllLeft(t *testing.T) {
	for _, r := range rows() {
		branch := strings.HasPrefix(instr.Name(r.i.Op), "br")
		switch {
		case branch:
			refuses(t, left, context(), a(r.i), api.ErrBlock)
		case r.i.Op == opcode.Return, len(r.in) > 0:
			refuses(t, left, context(), a(r.i), api.ErrUnder)
		case r.ends, len(r.out) > 0:
			refuses(t, left, context(), a(r.i), api.ErrBlock)
		default:
			takes(t, left, context(), r.i, nil, false)
		}
	}
	refuses(t, left, context(), a(x(opcode.Throw, noTag)), api.ErrIndex)
	refuses(t, left, context(), a(x(opcode.Call, 10)), api.ErrKind)
	refuses(t, left, context(), a(x(opcode.ReturnCall, 0)), api.ErrType)
	refuses(t, left, context(), stepping(api.Instr{Op: opcode.If}), api.ErrNone)
	nothing := func() *stack.Checker {
		c := stack.New(nil, nil, nil, nil)
		c.Leave()
		return c
	}
	refuses(t, nothing, context(), a(api.Instr{Op: opcode.Return}), api.ErrBlock)
	refuses(t, nothing, context(), a(x(opcode.ReturnCall, 1)), api.ErrBlock)
	refuses(t, nothing, context(), a(x(opcode.ReturnCall, 3)), api.ErrUnder)
}

// A checker that no call made is told ahead of all else.
func TestZero(t *testing.T) {
	all := []api.Instr{{Op: -1}, {Op: opcode.Drop}, x(opcode.Call, 99), x(opcode.Br, 99), block(opcode.Block, 99), try(typed(0), clause(9, 9, 9)), block(opcode.If, 0)}
	for _, r := range rows() {
		all = append(all, r.i)
	}
	for _, c := range []*stack.Checker{nil, {}, new(stack.Checker)} {
		for _, i := range all {
			if e := vctl.Step(context(), c, i); e != api.ErrZero {
				t.Errorf("%s of %p: %d", instr.Text(i), c, e)
			}
			if e := vctl.Open(context(), c, i); e != api.ErrZero {
				t.Errorf("Open of %s of %p: %d", instr.Text(i), c, e)
			}
		}
		if e, f := vctl.Turn(c), vctl.Close(context(), c); e != api.ErrZero || f != api.ErrZero {
			t.Errorf("Turn and Close of %p: %d, %d", c, e, f)
		}
		if c.Depth() != 0 || c.Height() != 0 || c.Reached() || c.Done() {
			t.Errorf("something is made of %p", c)
		}
	}
}

// What is handed in is not changed, and the checker keeps none of the lists.
func TestVC2HandedIn(t *testing.T) {
	for _, r := range rows() {
		x, i := context(), r.i
		i.Labels = slices.Clone(i.Labels)
		c := place(nested).with(r.in)()
		must(t, vctl.Step(x, c, i))
		if told(x) != told(context()) || told(i) != told(r.i) {
			t.Errorf("%s: changed: %v, %v", instr.Text(i), x, i)
		}
		before := look(c)
		spoil(x)
		if after := look(c); after != before {
			t.Errorf("%s: it was\n%sand is\n%s", instr.Text(i), before, after)
		}
	}
}

// spoil changes the types of which a context speaks, place by place.
func spoil(x api.Ctx) {
	for _, r := range x.Types {
		for _, s := range r.Types {
			for _, l := range [][]api.ValType{s.Comp.Params, s.Comp.Results} {
				for n := range l {
					l[n] = api.ValType{Num: api.T16}
				}
			}
		}
	}
}

// Fields that an instruction does not have count for nothing.
func TestVC2OtherFields(t *testing.T) {
	for _, r := range rows() {
		i := r.i
		form := instr.Form(i.Op)
		if form == "-" {
			i.X = 77
		}
		if form != "xy" {
			i.Y = 77
		}
		if form != "table" {
			i.Labels = []uint32{77}
		}
		i.N, i.Mem, i.Types = 77, api.MemArg{Align: 77, Mem: 77}, vals("(ref 77)")
		i.Block, i.Catches = api.Block{Type: 77}, []api.Catch{{Kind: 77}}
		i.HasElse, i.Body, i.Else = true, []api.Instr{{Op: 77}}, []api.Instr{{Op: 77}}
		other := r
		other.i = i
		other.takes(t, nested, r.in)
	}
}

// Types by which the rows are told are those of the context.
func TestRowsContext(t *testing.T) {
	x := context()
	if n, e := types.Closed(x.Types); n != 0 || e != api.OK {
		t.Errorf("the context's types are not closed: %d, %d", n, e)
	}
	if n, e := sub.Decl(x.Types); n != 0 || e != api.OK {
		t.Errorf("the context's types may not be: %d, %d", n, e)
	}
	if types.Count(x.Types) != noType || len(x.Funcs) != noFunc || len(x.Tables) != noTable || len(x.Tags) != noTag || nested().Depth() != noLabel {
		t.Error("the context has more or fewer than is told")
	}
}
