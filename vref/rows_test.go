package vref_test

import (
	"slices"
	"testing"

	"ratchet/api"
	"ratchet/instr"
	"ratchet/opcode"
	"ratchet/stack"
	"ratchet/sub"
	"ratchet/types"
	"ratchet/vref"
)

// row is an instruction that may stand at the places, what it takes and what it gives.
type row struct {
	i       api.Instr
	in, out []api.ValType
}

// given tells what a row gives where its last operand is another one than the row's.
func (r row) given(last api.ValType) []api.ValType {
	out := slices.Clone(r.out)
	switch r.i.Op {
	case opcode.RefAsNonNull:
		last.Null = false
		out[0] = last
	case opcode.AnyConvertExtern, opcode.ExternConvertAny:
		out[0].Null = last.Null
	}
	return out
}

// takes says that a row is taken on operands, of which as many were there as are told.
func (r row) takes(t *testing.T, p place, on []api.ValType) {
	t.Helper()
	var last api.ValType
	if len(on) > 0 {
		last = on[len(on)-1]
	}
	takes(t, p.with(on), context(), r.i, p.on(r.given(last)))
}

// goes tells whether an operand goes where a row takes its n-th one.
func (r row) goes(n int, v api.ValType) bool {
	if r.i.Op == opcode.RefIsNull || r.i.Op == opcode.RefAsNonNull {
		return v.Num == api.TRef
	}
	return sub.Val(context().Types, v, r.in[n])
}

// rows are all that the chapter's table has.
func rows() []row { return slices.Concat(refRows(), structRows(), arrayRows(), castRows()) }

// text is a row by the texts of what it takes and gives.
type text struct {
	i       api.Instr
	in, out string
}

func made(l []text) []row {
	var out []row
	for _, r := range l {
		out = append(out, row{r.i, vals(r.in), vals(r.out)})
	}
	return out
}

func refRows() []row {
	return made([]text{
		{cast(opcode.RefNull, "(ref null any)"), "", "(ref null any)"},
		{cast(opcode.RefNull, "(ref null noexn)"), "", "(ref null noexn)"},
		{cast(opcode.RefNull, "(ref null 0)"), "", "(ref null 0)"},
		{cast(opcode.RefNull, "(ref null 18)"), "", "(ref null 18)"},
		{x(opcode.RefFunc, 0), "", "(ref 12)"},
		{x(opcode.RefFunc, 3), "", "(ref 17)"},
		{plain(opcode.RefIsNull), "(ref null any)", "i32"},
		{plain(opcode.RefAsNonNull), "(ref null 4)", "(ref 4)"},
		{plain(opcode.RefAsNonNull), "(ref func)", "(ref func)"},
		{plain(opcode.RefEq), "(ref null eq), (ref null eq)", "i32"},
		{plain(opcode.RefI31), "i32", "(ref i31)"},
		{plain(opcode.I31GetS), "(ref null i31)", "i32"},
		{plain(opcode.I31GetU), "(ref null i31)", "i32"},
		{plain(opcode.AnyConvertExtern), "(ref null extern)", "(ref null any)"},
		{plain(opcode.ExternConvertAny), "(ref null any)", "(ref null extern)"},
	})
}

func structRows() []row {
	return made([]text{
		{x(opcode.StructNew, 0), "i32", "(ref 0)"},
		{x(opcode.StructNew, 1), "i32, (ref null 0)", "(ref 1)"},
		{x(opcode.StructNew, 2), "i32, i32, i32, f64, (ref null 1), (ref 1), i32, i32, (ref func)", "(ref 2)"},
		{x(opcode.StructNew, 3), "", "(ref 3)"},
		{x(opcode.StructNewDefault, 1), "", "(ref 1)"},
		{x(opcode.StructNewDefault, 3), "", "(ref 3)"},
		{x(opcode.StructNewDefault, 16), "", "(ref 16)"},
		{xy(opcode.StructGet, 0, 0), "(ref null 0)", "i32"},
		{xy(opcode.StructGet, 1, 1), "(ref null 1)", "(ref null 0)"},
		{xy(opcode.StructGet, 2, 3), "(ref null 2)", "f64"},
		{xy(opcode.StructGet, 2, 8), "(ref null 2)", "(ref func)"},
		{xy(opcode.StructGetS, 2, 0), "(ref null 2)", "i32"},
		{xy(opcode.StructGetS, 2, 7), "(ref null 2)", "i32"},
		{xy(opcode.StructGetU, 2, 1), "(ref null 2)", "i32"},
		{xy(opcode.StructGetU, 16, 2), "(ref null 16)", "i32"},
		{xy(opcode.StructSet, 1, 1), "(ref null 1), (ref null 0)", ""},
		{xy(opcode.StructSet, 2, 1), "(ref null 2), i32", ""},
		{xy(opcode.StructSet, 2, 5), "(ref null 2), (ref 1)", ""},
		{xy(opcode.StructSet, 16, 0), "(ref null 16), i64", ""},
	})
}

func arrayRows() []row {
	return made([]text{
		{x(opcode.ArrayNew, 4), "i32, i32", "(ref 4)"},
		{x(opcode.ArrayNew, 8), "f32, i32", "(ref 8)"},
		{x(opcode.ArrayNew, 10), "(ref 1), i32", "(ref 10)"},
		{x(opcode.ArrayNewDefault, 6), "i32", "(ref 6)"},
		{x(opcode.ArrayNewDefault, 9), "i32", "(ref 9)"},
		{fixed(4, 0), "", "(ref 4)"},
		{fixed(5, 1), "i32", "(ref 5)"},
		{fixed(7, 2), "i64, i64", "(ref 7)"},
		{fixed(11, 3), "(ref 0), (ref 0), (ref 0)", "(ref 11)"},
		{xy(opcode.ArrayNewData, 7, 2), "i32, i32", "(ref 7)"},
		{xy(opcode.ArrayNewElem, 13, 0), "i32, i32", "(ref 13)"},
		{xy(opcode.ArrayNewElem, 10, 3), "i32, i32", "(ref 10)"},
		{x(opcode.ArrayGet, 7), "(ref null 7), i32", "i64"},
		{x(opcode.ArrayGet, 10), "(ref null 10), i32", "(ref 1)"},
		{x(opcode.ArrayGetS, 4), "(ref null 4), i32", "i32"},
		{x(opcode.ArrayGetU, 6), "(ref null 6), i32", "i32"},
		{x(opcode.ArraySet, 5), "(ref null 5), i32, i32", ""},
		{x(opcode.ArraySet, 8), "(ref null 8), i32, f32", ""},
		{x(opcode.ArraySet, 11), "(ref null 11), i32, (ref 0)", ""},
		{plain(opcode.ArrayLen), "(ref null array)", "i32"},
		{x(opcode.ArrayFill, 6), "(ref null 6), i32, i32, i32", ""},
		{x(opcode.ArrayFill, 8), "(ref null 8), i32, f32, i32", ""},
		{x(opcode.ArrayFill, 9), "(ref null 9), i32, (ref null 0), i32", ""},
		{xy(opcode.ArrayCopy, 5, 4), "(ref null 5), i32, (ref null 4), i32, i32", ""},
		{xy(opcode.ArrayCopy, 9, 10), "(ref null 9), i32, (ref null 10), i32, i32", ""},
		{xy(opcode.ArrayCopy, 15, 15), "(ref null 15), i32, (ref null 15), i32, i32", ""},
		{xy(opcode.ArrayInitData, 5, 0), "(ref null 5), i32, i32, i32", ""},
		{xy(opcode.ArrayInitData, 8, 2), "(ref null 8), i32, i32, i32", ""},
		{xy(opcode.ArrayInitElem, 9, 6), "(ref null 9), i32, i32, i32", ""},
		{xy(opcode.ArrayInitElem, 13, 8), "(ref null 13), i32, i32, i32", ""},
	})
}

func castRows() []row {
	return made([]text{
		{cast(opcode.RefTest, "(ref i31)"), "(ref null any)", "i32"},
		{cast(opcode.RefTestNull, "(ref null 4)"), "(ref null any)", "i32"},
		{cast(opcode.RefTest, "(ref 12)"), "(ref null func)", "i32"},
		{cast(opcode.RefTestNull, "(ref null noextern)"), "(ref null extern)", "i32"},
		{cast(opcode.RefTest, "(ref exn)"), "(ref null exn)", "i32"},
		{cast(opcode.RefCast, "(ref i31)"), "(ref null any)", "(ref i31)"},
		{cast(opcode.RefCastNull, "(ref null 1)"), "(ref null any)", "(ref null 1)"},
		{cast(opcode.RefCast, "(ref nofunc)"), "(ref null func)", "(ref nofunc)"},
		{cast(opcode.RefCastNull, "(ref null noexn)"), "(ref null exn)", "(ref null noexn)"},
		{branch(opcode.BrOnCast, toAny, "(ref null any)", "(ref i31)"), "i32, (ref null any)", "i32, (ref null any)"},
		{branch(opcode.BrOnCast, toAny, "(ref null any)", "(ref null 5)"), "i32, (ref null any)", "i32, (ref any)"},
		{branch(opcode.BrOnCast, toI31, "(ref null eq)", "(ref i31)"), "(ref null eq)", "(ref null eq)"},
		{branch(opcode.BrOnCast, toLoop, "(ref any)", "(ref none)"), "(ref any)", "(ref any)"},
		{branch(opcode.BrOnCast, toStruct, "(ref null struct)", "(ref null 1)"), "i64, f32, (ref null struct)", "i64, f32, (ref struct)"},
		{branch(opcode.BrOnCast, toExtern, "(ref null extern)", "(ref null noextern)"), "(ref null extern)", "(ref extern)"},
		{branch(opcode.BrOnCast, toHome, "(ref null 0)", "(ref 1)"), "f32, (ref null 0)", "f32, (ref null 0)"},
		{branch(opcode.BrOnCastFail, toAny, "(ref null any)", "(ref i31)"), "i32, (ref null any)", "i32, (ref i31)"},
		{branch(opcode.BrOnCastFail, toI31, "(ref i31)", "(ref none)"), "(ref i31)", "(ref none)"},
		{branch(opcode.BrOnCastFail, toLoop, "(ref null eq)", "(ref null 5)"), "(ref null eq)", "(ref null 5)"},
		{branch(opcode.BrOnCastFail, toStruct, "(ref null 14)", "(ref 1)"), "i64, f32, (ref null 14)", "i64, f32, (ref 1)"},
		{branch(opcode.BrOnCastFail, toHome, "(ref null 0)", "(ref null 1)"), "f32, (ref null 0)", "f32, (ref null 1)"},
	})
}

// Each of Ops has a row, so that what is said of rows is said of all.
func TestP162AllRows(t *testing.T) {
	var got []int
	for _, r := range rows() {
		got = append(got, r.i.Op)
	}
	slices.Sort(got)
	if l := slices.Compact(got); !slices.Equal(l, vref.Ops()) {
		t.Errorf("rows: %x, Ops: %x", l, vref.Ops())
	}
}

// Operands that go are taken, whatever lies ahead of them, and others are laid in their place.
func TestP162Taken(t *testing.T) {
	for _, p := range places() {
		for _, r := range rows() {
			r.takes(t, p, r.in)
			r.takes(t, p.dead(), r.in)
		}
	}
}

// One operand too few, and more of them: those below the last frame's height are none.
func TestP162TooFew(t *testing.T) {
	for _, r := range rows() {
		for n := range r.in {
			refuses(t, place(nested).with(r.in[n+1:]), context(), r.i, api.ErrUnder)
		}
	}
}

// Of another type at each place: what matches is taken, all else is refused, reached or not.
func TestP162Types(t *testing.T) {
	t.Parallel()
	start, dead := place(nested).with(vals("f64, f32")), place(nested).dead()
	for _, r := range rows() {
		for n := range r.in {
			for _, v := range kinds() {
				in := slices.Clone(r.in)
				in[n] = v
				if r.goes(n, v) {
					r.takes(t, start, in)
					r.takes(t, dead, in[n:])
					continue
				}
				refuses(t, start.with(in), context(), r.i, api.ErrType)
				refuses(t, dead.with(in[n:]), context(), r.i, api.ErrType)
			}
		}
	}
}

// An operand of any type goes at each place.
func TestP162Any(t *testing.T) {
	t.Parallel()
	for _, p := range places() {
		for _, r := range rows() {
			for n := range r.in {
				in := slices.Clone(r.in)
				in[n] = api.ValType{}
				r.takes(t, p, in)
				r.takes(t, p.dead(), in[n:])
			}
		}
	}
}

// What stands beside an operand of any type counts for nothing, but for ref.as_non_null, which leaves it as it is.
func TestP162AnyBeside(t *testing.T) {
	odd := []api.ValType{{Null: true, Heap: 7}}
	for i, want := range map[int]api.ValType{opcode.RefAsNonNull: odd[0], opcode.RefIsNull: i32(), opcode.AnyConvertExtern: val("(ref any)"), opcode.ExternConvertAny: val("(ref extern)")} {
		for _, p := range []place{nested, place(nested).dead()} {
			takes(t, p.with(odd), context(), plain(i), p.on([]api.ValType{want}))
		}
	}
}

// What is not reached goes with as many of the operands as are there, also with none.
func TestP163NotReached(t *testing.T) {
	for _, p := range places() {
		for _, r := range rows() {
			for n := range len(r.in) + 1 {
				r.takes(t, p.dead(), r.in[n:])
			}
		}
	}
}

// Of two operands that do not go, one too few and one of another type, the last one is told.
func TestP162LastFirst(t *testing.T) {
	for _, r := range rows() {
		if last := len(r.in) - 1; last > 0 {
			refuses(t, place(nested).with(append(slices.Clone(r.in[1:last]), api.ValType{Num: 99})), context(), r.i, api.ErrType)
		}
	}
}

// left is a checker all of whose frames have been left.
func left() *stack.Checker {
	c := fresh()
	c.Unreachable()
	c.Leave()
	return c
}

// Where all frames have been left there is no label, nothing can be popped and nothing pushed; what is named is asked all the same.
func TestP162AllLeft(t *testing.T) {
	for _, r := range rows() {
		switch {
		case r.i.Op == opcode.BrOnCast, r.i.Op == opcode.BrOnCastFail:
			refuses(t, left, context(), r.i, api.ErrBlock)
		case len(r.in) > 0:
			refuses(t, left, context(), r.i, api.ErrUnder)
		default:
			refuses(t, left, context(), r.i, api.ErrBlock)
		}
	}
	refuses(t, left, context(), x(opcode.RefFunc, noFunc), api.ErrIndex)
	refuses(t, left, context(), x(opcode.RefFunc, 1), api.ErrRef)
	refuses(t, left, context(), x(opcode.StructNewDefault, 2), api.ErrDefault)
	refuses(t, left, context(), x(opcode.ArrayFill, 4), api.ErrMutable)
	refuses(t, left, context(), of(opcode.BrOnCast, val("(ref any)")), api.ErrArg)
	refuses(t, left, context(), of(opcode.BrOnCast, val("(ref 99)"), val("(ref 99)")), api.ErrBlock)
	refuses(t, left, context(), plain(opcode.Call), api.ErrNone)
}

// A checker that no call made is told ahead of all else.
func TestP162Zero(t *testing.T) {
	all := []api.Instr{plain(-1), plain(opcode.Drop), x(opcode.StructNew, 99), plain(opcode.RefNull), plain(opcode.RefCast), plain(opcode.BrOnCast), fixed(4, 1<<63)}
	for _, r := range rows() {
		all = append(all, r.i)
	}
	for _, i := range all {
		for _, c := range []*stack.Checker{nil, {}, new(stack.Checker)} {
			if e := vref.Step(context(), c, i); e != api.ErrZero {
				t.Errorf("%s of %p: %d", instr.Text(i), c, e)
			}
			if c.Depth() != 0 || c.Height() != 0 || c.Reached() || c.Done() {
				t.Errorf("%s makes something of %p", instr.Text(i), c)
			}
		}
	}
}

// What is handed in is not changed, and the checker keeps none of the lists.
func TestP162HandedIn(t *testing.T) {
	for _, r := range rows() {
		x, i := context(), r.i
		i.Types = slices.Clone(i.Types)
		c := place(nested).with(r.in)()
		must(t, vref.Step(x, c, i))
		if told(x) != told(context()) || told(i) != told(r.i) {
			t.Errorf("%s: changed: %v, %v", instr.Text(i), x, i)
		}
		before := look(c)
		spoil(x)
		for n := range i.Types {
			i.Types[n] = val("i64")
		}
		if after := look(c); after != before {
			t.Errorf("%s: it was\n%sand is\n%s", instr.Text(i), before, after)
		}
	}
}

// spoil changes the types of which a context speaks, place by place.
func spoil(x api.Ctx) {
	for _, r := range x.Types {
		for _, s := range r.Types {
			for n := range s.Comp.Fields {
				s.Comp.Fields[n] = api.Field{Type: val("i16")}
			}
		}
	}
	for n := range x.Elems {
		x.Elems[n] = val("i16")
	}
	for n := range x.Funcs {
		x.Funcs[n] = 1
	}
}

// Fields that an instruction does not have count for nothing.
func TestP162OtherFields(t *testing.T) {
	for _, r := range rows() {
		i := r.i
		form := instr.Form(i.Op)
		if form == "-" || form == "heap" || form == "cast" {
			i.X = 77
		}
		if form != "xy" {
			i.Y = 77
		}
		if form != "xn" {
			i.N = 1 << 63
		}
		// Behind the types that an instruction has others count for nothing, too.
		i.Types = append(slices.Clone(i.Types), val("(ref 77)"), val("i32"))
		i.Mem, i.Block, i.Labels = api.MemArg{Align: 77, Mem: 77, Offset: 1 << 63}, api.Block{Type: 77}, []uint32{77}
		i.Catches, i.HasElse, i.Body, i.Else = []api.Catch{{Kind: 77}}, true, []api.Instr{{Op: 77}}, []api.Instr{{Op: 77}}
		row{i, r.in, r.out}.takes(t, nested, r.in)
	}
}

// Types by which the rows are told are those of the context.
func TestRowsContext(t *testing.T) {
	l := context().Types
	if n, e := types.Closed(l); n != 0 || e != api.OK {
		t.Errorf("the context's types are not closed: %d, %d", n, e)
	}
	if n, e := sub.Decl(l); n != 0 || e != api.OK {
		t.Errorf("the context's types may not be: %d, %d", n, e)
	}
	x := context()
	if types.Count(l) != noType || len(x.Funcs) != noFunc || len(x.Elems) != noElem || len(x.Refs) >= noFunc || nested().Depth() != noLabel {
		t.Error("the context has more or fewer than is told")
	}
	for n, want := range map[uint32]string{toNothing: "", toAny: "i32, (ref null any)", toI31: "(ref i31)", toNumber: "(ref null any), i32", toLoop: "(ref null eq)", toStruct: "i64, f32, (ref null 0)", toExtern: "(ref null extern)", toHome: home} {
		if l, e := nested().Label(n); told(l) != told(vals(want)) || e != api.OK {
			t.Errorf("label %d: %v, %d", n, l, e)
		}
	}
}
