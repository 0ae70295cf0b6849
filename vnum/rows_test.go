package vnum_test

import (
	"slices"
	"strings"
	"testing"

	"ratchet/api"
	"ratchet/instr"
	"ratchet/opcode"
	"ratchet/stack"
	"ratchet/sub"
	"ratchet/types"
	"ratchet/vnum"
)

// row is an instruction that may stand in the context, what it takes and what it gives.
type row struct {
	i       api.Instr
	in, out []api.ValType
	free    int // so many of the first types that it takes may be others, too
}

// last tells what it gives where only so many of its last operands are there: a select that tells no type can't know it then.
func (r row) last(n int) []api.ValType {
	if r.i.Op == opcode.Select && n < 2 {
		return vals("none")
	}
	return r.out
}

// fixed are the instructions of the chapter's table, each with all indices that are unlike in what they ask.
func fixed() []row {
	var out []row
	for _, r := range []struct {
		i       api.Instr
		in, out string
	}{
		{selectT("i32"), "i32, i32, i32", "i32"},
		{selectT("f64"), "f64, f64, i32", "f64"},
		{selectT("(ref null 0)"), "(ref null 0), (ref null 0), i32", "(ref null 0)"},
		{selectT("(ref func)"), "(ref func), (ref func), i32", "(ref func)"},
		{selectT("(ref 3)"), "(ref 3), (ref 3), i32", "(ref 3)"},
		{selectT("(ref null noexn)"), "(ref null noexn), (ref null noexn), i32", "(ref null noexn)"},
		{x(opcode.LocalGet, 0), "", "i32"},
		{x(opcode.LocalGet, 1), "", "(ref 0)"},
		{x(opcode.LocalGet, 2), "", "i64"},
		{x(opcode.LocalGet, 3), "", "(ref null 1)"},
		{x(opcode.LocalSet, 0), "i32", ""},
		{x(opcode.LocalSet, 1), "(ref 0)", ""},
		{x(opcode.LocalSet, 3), "(ref null 1)", ""},
		{x(opcode.LocalSet, 4), "(ref func)", ""},
		{x(opcode.LocalSet, 5), "(ref 0)", ""},
		{x(opcode.LocalTee, 0), "i32", "i32"},
		{x(opcode.LocalTee, 2), "i64", "i64"},
		{x(opcode.LocalTee, 4), "(ref func)", "(ref func)"},
		{x(opcode.LocalTee, 5), "(ref 0)", "(ref 0)"},
		{x(opcode.GlobalGet, 0), "", "i64"},
		{x(opcode.GlobalGet, 1), "", "i64"},
		{x(opcode.GlobalGet, 2), "", "(ref null 0)"},
		{x(opcode.GlobalGet, 3), "", "(ref 1)"},
		{x(opcode.GlobalSet, 1), "i64", ""},
		{x(opcode.GlobalSet, 2), "(ref null 0)", ""},
		{x(opcode.MemorySize, 0), "", "i32"},
		{x(opcode.MemorySize, 1), "", "i64"},
		{x(opcode.MemoryGrow, 0), "i32", "i32"},
		{x(opcode.MemoryGrow, 1), "i64", "i64"},
		{x(opcode.MemoryFill, 0), "i32, i32, i32", ""},
		{x(opcode.MemoryFill, 1), "i64, i32, i64", ""},
		{xy(opcode.MemoryCopy, 0, 0), "i32, i32, i32", ""},
		{xy(opcode.MemoryCopy, 0, 1), "i32, i64, i32", ""},
		{xy(opcode.MemoryCopy, 1, 0), "i64, i32, i32", ""},
		{xy(opcode.MemoryCopy, 1, 1), "i64, i64, i64", ""},
		{xy(opcode.MemoryInit, 2, 0), "i32, i32, i32", ""},
		{xy(opcode.MemoryInit, 0, 1), "i64, i32, i32", ""},
		{x(opcode.DataDrop, 0), "", ""},
		{x(opcode.DataDrop, 2), "", ""},
		{x(opcode.TableGet, 0), "i32", "(ref null func)"},
		{x(opcode.TableGet, 3), "i64", "(ref null 0)"},
		{x(opcode.TableGet, 4), "i32", "(ref 1)"},
		{x(opcode.TableSet, 1), "i64, (ref null func)", ""},
		{x(opcode.TableSet, 4), "i32, (ref 1)", ""},
		{x(opcode.TableSize, 0), "", "i32"},
		{x(opcode.TableSize, 1), "", "i64"},
		{x(opcode.TableGrow, 2), "(ref null 0), i32", "i32"},
		{x(opcode.TableGrow, 3), "(ref null 0), i64", "i64"},
		{x(opcode.TableFill, 0), "i32, (ref null func), i32", ""},
		{x(opcode.TableFill, 3), "i64, (ref null 0), i64", ""},
		{xy(opcode.TableCopy, 0, 0), "i32, i32, i32", ""},
		{xy(opcode.TableCopy, 0, 1), "i32, i64, i32", ""},
		{xy(opcode.TableCopy, 1, 0), "i64, i32, i32", ""},
		{xy(opcode.TableCopy, 1, 1), "i64, i64, i64", ""},
		{xy(opcode.TableCopy, 3, 4), "i64, i32, i32", ""},
		{xy(opcode.TableInit, 0, 0), "i32, i32, i32", ""},
		{xy(opcode.TableInit, 1, 1), "i64, i32, i32", ""},
		{xy(opcode.TableInit, 2, 4), "i32, i32, i32", ""},
		{x(opcode.ElemDrop, 0), "", ""},
		{x(opcode.ElemDrop, 6), "", ""},
		// Some operators as the chapters' words have them, beside what instr tells of all.
		{api.Instr{Op: 0x41}, "", "i32"},
		{api.Instr{Op: 0x42}, "", "i64"},
		{api.Instr{Op: 0x43, N: 1 << 40}, "", "f32"},
		{api.Instr{Op: 0x44}, "", "f64"},
		{api.Instr{Op: 0x45}, "i32", "i32"},
		{api.Instr{Op: 0x50}, "i64", "i32"},
		{api.Instr{Op: 0x66}, "f64, f64", "i32"},
		{api.Instr{Op: 0x6a}, "i32, i32", "i32"},
		{api.Instr{Op: 0x98}, "f32, f32", "f32"},
		{api.Instr{Op: 0xa7}, "i64", "i32"},
		{api.Instr{Op: 0xbb}, "f32", "f64"},
		{api.Instr{Op: 0xc4}, "i64", "i64"},
		{api.Instr{Op: 0xfc00}, "f32", "i32"},
		{api.Instr{Op: 0xfc07}, "f64", "i64"},
	} {
		out = append(out, row{r.i, vals(r.in), vals(r.out), 0})
	}
	return out
}

// accesses are the loads and stores: the type of each, and the greatest alignment.
const accesses = `i32.load i32 2 i64.load i64 3 f32.load f32 2 f64.load f64 3 i32.load8_s i32 0 i32.load8_u i32 0 i32.load16_s i32 1 i32.load16_u i32 1
i64.load8_s i64 0 i64.load8_u i64 0 i64.load16_s i64 1 i64.load16_u i64 1 i64.load32_s i64 2 i64.load32_u i64 2
i32.store i32 2 i64.store i64 3 f32.store f32 2 f64.store f64 3 i32.store8 i32 0 i32.store16 i32 1 i64.store8 i64 0 i64.store16 i64 1 i64.store32 i64 2`

// access is a load or a store.
type access struct {
	op    int
	v     api.ValType
	most  uint32
	store bool
}

func allAccesses() []access {
	var out []access
	for l := range slices.Chunk(strings.Fields(accesses), 3) {
		op, _ := instr.Op(l[0])
		out = append(out, access{op, val(l[1]), uint32(l[2][0] - '0'), strings.Contains(l[0], "store")})
	}
	return out
}

// row is the access by an instruction that may be, at addresses of a type.
func (a access) row(i api.Instr, addr string) row {
	if a.store {
		return row{i, append(vals(addr), a.v), nil, 0}
	}
	return row{i, vals(addr), []api.ValType{a.v}, 0}
}

// rows are all that the chapter's table has.
func rows() []row {
	out := fixed()
	for _, v := range append(kinds(), api.ValType{}) {
		out = append(out, row{api.Instr{Op: opcode.Drop}, []api.ValType{v}, nil, 1})
	}
	for _, v := range vals("i32, i64, f32, f64") {
		out = append(out, row{api.Instr{Op: opcode.Select}, []api.ValType{v, v, val("i32")}, []api.ValType{v}, 2})
	}
	for _, a := range allAccesses() {
		out = append(out, a.row(mem(a.op, 0, 0, 0), "i32"), a.row(mem(a.op, 0, a.most, 1<<32-1), "i32"))
		out = append(out, a.row(mem(a.op, 1, 0, 1<<32), "i64"), a.row(mem(a.op, 1, a.most, 1<<64-1), "i64"))
	}
	for _, op := range slices.Concat(span(0x41, 0xc4), span(0xfc00, 0xfc07)) {
		in, gives, _ := instr.Sig(op)
		out = append(out, row{api.Instr{Op: op, N: uint64(op) * 0x1111111111}, in, gives, 0})
	}
	return out
}

// span are the numbers from one to another.
func span(first, last int) []int {
	var out []int
	for n := first; n <= last; n++ {
		out = append(out, n)
	}
	return out
}

// Each of Ops has a row, so that what is said of rows is said of all.
func TestP142AllRows(t *testing.T) {
	var got []int
	for _, r := range rows() {
		got = append(got, r.i.Op)
	}
	slices.Sort(got)
	if l := slices.Compact(got); !slices.Equal(l, vnum.Ops()) {
		t.Errorf("rows: %x, Ops: %x", l, vnum.Ops())
	}
}

// Operands that go are taken, whatever lies ahead of them, and others are laid in their place.
func TestP142Taken(t *testing.T) {
	for _, p := range places() {
		for _, r := range rows() {
			takes(t, p.with(r.in), context(), r.i, p().Operands(), r.out)
		}
	}
}

// One operand too few, and more of them: those below the last frame's height are none.
func TestP142TooFew(t *testing.T) {
	for _, name := range []string{"at first", "in a block"} {
		p := places()[name]
		for _, r := range rows() {
			for n := range r.in {
				refuses(t, p.with(r.in[n+1:]), context(), r.i, api.ErrUnder)
			}
		}
	}
}

// Of another type at each place: what matches is taken, all else is refused, reached or not.
func TestP142Types(t *testing.T) {
	x, start := context(), place(fresh).with(vals("f64, f32"))
	dead := unreached()["in a block"]
	for _, r := range rows() {
		for n := r.free; n < len(r.in); n++ {
			for _, v := range kinds() {
				in := slices.Clone(r.in)
				in[n] = v
				if sub.Val(x.Types, v, r.in[n]) {
					takes(t, start.with(in), x, r.i, start().Operands(), r.out)
					takes(t, dead.with(in[n:]), x, r.i, dead().Operands(), r.last(len(in)-n))
				} else {
					refuses(t, start.with(in), x, r.i, api.ErrType)
					refuses(t, dead.with(in), x, r.i, api.ErrType)
					refuses(t, dead.with(in[n:]), x, r.i, api.ErrType)
				}
			}
		}
	}
}

// An operand of any type goes at each place.
func TestP142Any(t *testing.T) {
	for _, p := range places() {
		for _, r := range rows() {
			for n := r.free; n < len(r.in); n++ {
				in := slices.Clone(r.in)
				in[n] = api.ValType{}
				takes(t, p.with(in), context(), r.i, p().Operands(), r.out)
			}
		}
	}
}

// What is not reached goes with as many of the operands as are there, also with none.
func TestP143NotReached(t *testing.T) {
	for _, p := range unreached() {
		for _, r := range rows() {
			for n := range len(r.in) + 1 {
				takes(t, p.with(r.in[n:]), context(), r.i, p().Operands(), r.last(len(r.in)-n))
			}
		}
	}
}

// Of two operands that do not go, one too few and one of another type, the last one is told.
func TestP142LastFirst(t *testing.T) {
	for _, r := range rows() {
		if len(r.in) > 1 && r.free == 0 {
			last := len(r.in) - 1
			refuses(t, place(fresh).with(append(slices.Clone(r.in[1:last]), val("(ref extern)"))), context(), r.i, api.ErrType)
		}
	}
}

// left is a checker all of whose frames have been left.
func left() *stack.Checker {
	c := fresh()
	c.Unreachable()
	c.Leave()
	return c
}

// Where all frames have been left nothing can be popped or pushed; only what does neither is taken.
func TestP142AllLeft(t *testing.T) {
	for _, r := range rows() {
		switch {
		case len(r.in) > 0:
			refuses(t, left, context(), r.i, api.ErrUnder)
		case len(r.out) > 0:
			refuses(t, left, context(), r.i, api.ErrBlock)
		default:
			takes(t, left, context(), r.i, nil, nil)
		}
	}
	refuses(t, left, context(), x(opcode.LocalGet, nobody), api.ErrIndex)
	refuses(t, left, context(), x(opcode.LocalGet, unset), api.ErrUnset)
	refuses(t, left, context(), x(opcode.GlobalSet, 0), api.ErrMut)
	refuses(t, left, context(), x(opcode.MemorySize, 2), api.ErrIndex)
	refuses(t, left, context(), x(opcode.DataDrop, 3), api.ErrIndex)
	refuses(t, left, context(), selectT(""), api.ErrArity)
	refuses(t, left, context(), api.Instr{Op: opcode.Return}, api.ErrNone)
}

// A checker that no call made is told ahead of all else.
func TestP142Zero(t *testing.T) {
	all := []api.Instr{{Op: opcode.Return}, {Op: -1}, x(opcode.LocalGet, 99), selectT(""), mem(opcode.I32Load, 9, 9, 0)}
	for _, r := range rows() {
		all = append(all, r.i)
	}
	for _, i := range all {
		for _, c := range []*stack.Checker{nil, {}, new(stack.Checker)} {
			if e := step(c, i); e != api.ErrZero {
				t.Errorf("%s of %p: %d", instr.Text(i), c, e)
			}
			if c.Depth() != 0 || c.Height() != 0 || c.Reached() || c.Done() {
				t.Errorf("%s of %p makes something of it", instr.Text(i), c)
			}
		}
	}
}

// What is handed in is not changed, and the checker keeps none of the lists.
func TestP142HandedIn(t *testing.T) {
	for _, r := range rows() {
		x, i := context(), r.i
		i.Types = slices.Clone(i.Types)
		c := place(fresh).with(r.in)()
		must(t, vnum.Step(x, c, i))
		if told(x) != told(context()) || told(i) != told(r.i) {
			t.Errorf("%s: changed: %v, %v", instr.Text(i), x, i)
		}
		before := look(c)
		for n := range i.Types {
			i.Types[n] = val("i64")
		}
		for n := range x.Globals {
			x.Globals[n] = api.GlobalType{}
			x.Tables[n] = api.TableType{}
		}
		if after := look(c); after != before {
			t.Errorf("%s: it was\n%sand is\n%s", instr.Text(i), before, after)
		}
	}
}

// Fields that an instruction does not have count for nothing.
func TestP142OtherFields(t *testing.T) {
	for _, r := range rows() {
		i := r.i
		if !strings.HasPrefix(instr.Form(i.Op), "x") {
			i.X = 77
		}
		if instr.Form(i.Op) != "xy" {
			i.Y = 77
		}
		if instr.Form(i.Op) != "mem" {
			i.Mem = api.MemArg{Align: 77, Mem: 77, Offset: 1 << 63}
		}
		if i.Op != opcode.SelectT {
			i.Types = vals("(ref 77), (ref 77)")
		}
		i.N, i.Block, i.Labels, i.Catches = ^i.N, api.Block{Type: 77}, []uint32{77}, []api.Catch{{Kind: 77}}
		i.HasElse, i.Body, i.Else = true, []api.Instr{{Op: 77}}, []api.Instr{{Op: 77}}
		takes(t, place(fresh).with(r.in), context(), i, nil, r.out)
	}
}

// Types by which the rows are told are those of the context.
func TestRowsContext(t *testing.T) {
	if n, e := types.Closed(context().Types); n != 0 || e != api.OK {
		t.Errorf("the context's types are not closed: %d, %d", n, e)
	}
	if n, e := sub.Decl(context().Types); n != 0 || e != api.OK {
		t.Errorf("the context's types may not be: %d, %d", n, e)
	}
}
