package vref_test

import (
	"math"
	"slices"
	"testing"

	"ratchet/api"
	"ratchet/instr"
	"ratchet/opcode"
	"ratchet/stack"
	"ratchet/sub"
	"ratchet/vref"
)

// Each array is made of a value and how many, of how many alone, of values in a row.
func TestP162ArrayNew(t *testing.T) {
	for _, n := range numbersOf(api.CArray) {
		f, me := elementOf(n), []api.ValType{ref(false, int(n))}
		v := outside(f.Type)
		takesAnyway(t, x(opcode.ArrayNew, n), []api.ValType{v, i32()}, me)
		if f.Type.Num == api.TRef && !f.Type.Null {
			refusesAnyway(t, x(opcode.ArrayNewDefault, n), vals("i32"), api.ErrDefault)
		} else {
			takesAnyway(t, x(opcode.ArrayNewDefault, n), vals("i32"), me)
		}
		for _, many := range []int{0, 1, 2, 3, 17} {
			takesAnyway(t, fixed(n, uint64(many)), slices.Repeat([]api.ValType{v}, many), me)
		}
	}
}

// Up to MaxFields values may stand in a row.
func TestP162ArrayNewFixed(t *testing.T) {
	t.Parallel()
	for _, n := range []uint32{4, 7, 9, 10} {
		v, me := outside(elementOf(n).Type), []api.ValType{ref(false, int(n))}
		all := slices.Repeat([]api.ValType{v}, api.MaxFields)
		for _, many := range []int{api.MaxFields - 1, api.MaxFields} {
			takes(t, place(fresh).with(all), context(), fixed(n, uint64(many)), append(slices.Clone(all[many:]), me...))
			takes(t, place(fresh).dead(), context(), fixed(n, uint64(many)), me)
			refuses(t, place(fresh).with(all[:many-1]), context(), fixed(n, uint64(many)), api.ErrUnder)
			refuses(t, place(fresh).with(append(vals("(ref exn)"), all[:many-1]...)), context(), fixed(n, uint64(many)), api.ErrType)
		}
		for _, many := range []uint64{api.MaxFields + 1, 1 << 31, 1<<32 - 1, 1 << 32, 1<<32 + 1, 1 << 63, math.MaxUint64} {
			refuses(t, place(fresh).with(append(all, all[:1]...)), context(), fixed(n, many), api.ErrLong)
			refuses(t, place(fresh).dead(), context(), fixed(n, many), api.ErrLong)
		}
	}
}

// Of bytes just such arrays are made, and set, whose elements are no references; the segment must be there, and is asked last.
func TestP162Data(t *testing.T) {
	t.Parallel()
	for _, n := range numbersOf(api.CArray) {
		f, made := elementOf(n), vals("i32, i32")
		set := append([]api.ValType{ref(true, int(n))}, vals("i32, i32, i32")...)
		for _, y := range append(indices(noData), 0, 1, 2) {
			news, sets := api.OK, api.OK
			if y >= noData {
				news, sets = api.ErrIndex, api.ErrIndex
			}
			if f.Type.Num == api.TRef {
				news, sets = api.ErrBits, api.ErrBits
			}
			if !f.Mut {
				sets = api.ErrMutable
			}
			answers(t, xy(opcode.ArrayNewData, n, y), made, []api.ValType{ref(false, int(n))}, news)
			answers(t, xy(opcode.ArrayInitData, n, y), set, nil, sets)
		}
	}
}

// answers says that a step is taken, or refused for what it names.
func answers(t *testing.T, i api.Instr, in, out []api.ValType, e api.Errno) {
	t.Helper()
	if e == api.OK {
		takesAnyway(t, i, in, out)
	} else {
		refusesAnyway(t, i, in, e)
	}
}

// A context of no segments, and of fewer than none, has none.
func TestP162NoData(t *testing.T) {
	x1 := context()
	for _, many := range []int{0, -1, math.MinInt} {
		x1.Datas = many
		refuses(t, place(nested).dead(), x1, xy(opcode.ArrayNewData, 4, 0), api.ErrIndex)
		refuses(t, place(nested).dead(), x1, xy(opcode.ArrayInitData, 5, 0), api.ErrIndex)
	}
	for _, many := range []int{math.MaxUint32, math.MaxUint32 + 1, math.MaxInt} {
		x1.Datas = many
		takes(t, place(nested).dead(), x1, xy(opcode.ArrayNewData, 4, math.MaxUint32-1), place(nested).dead().on(vals("(ref 4)")))
	}
	refuses(t, place(nested).dead(), api.Ctx{Types: x1.Types, Datas: math.MaxUint32}, xy(opcode.ArrayNewData, 4, math.MaxUint32), api.ErrIndex)
}

// Of each segment and each array the segment's type must match the element, as it lies there.
func TestP162Elem(t *testing.T) {
	t.Parallel()
	x1, taken := context(), 0
	for _, n := range numbersOf(api.CArray) {
		f, made := elementOf(n), vals("i32, i32")
		set := append([]api.ValType{ref(true, int(n))}, vals("i32, i32, i32")...)
		for _, y := range append(indices(noElem), 0, 1, 2, 3, 4, 5, 6, 7, 8) {
			news := api.OK
			switch {
			case y >= noElem:
				news = api.ErrIndex
			case !sub.Val(x1.Types, x1.Elems[y], f.Type):
				news = api.ErrType
			default:
				taken++
			}
			sets := news
			if !f.Mut {
				sets = api.ErrMutable
			}
			answers(t, xy(opcode.ArrayNewElem, n, y), made, []api.ValType{ref(false, int(n))}, news)
			answers(t, xy(opcode.ArrayInitElem, n, y), set, nil, sets)
		}
	}
	// Into (ref null 0) go 0, 14, 1 and none; into (ref 1) that alone; into (ref 0) 1 and 14; into functions three; into i32 i32.
	if taken != 4+1+2+3+1 {
		t.Errorf("%d pairs are taken", taken)
	}
}

// Of each pair of arrays the elements of the one that is read must match those of the other, packed ones the same; whether those may be set counts for nothing.
func TestP162Copy(t *testing.T) {
	taken := map[[2]uint32]bool{}
	for _, to := range numbersOf(api.CArray) {
		for _, from := range numbersOf(api.CArray) {
			a, b := elementOf(to), elementOf(from)
			want := api.OK
			switch {
			case !a.Mut:
				want = api.ErrMutable
			case !sub.Val(context().Types, b.Type, a.Type):
				want = api.ErrType
			default:
				taken[[2]uint32{to, from}] = true
			}
			in := []api.ValType{ref(true, int(to)), i32(), ref(true, int(from)), i32(), i32()}
			answers(t, xy(opcode.ArrayCopy, to, from), in, nil, want)
		}
	}
	pairs := [][2]uint32{{5, 4}, {5, 5}, {6, 6}, {6, 18}, {8, 8}, {9, 9}, {9, 10}, {9, 11}, {11, 10}, {11, 11}, {13, 13}, {15, 15}}
	for _, p := range pairs {
		if !taken[p] {
			t.Errorf("array.copy %v is not taken", p)
		}
	}
	if len(taken) != len(pairs) {
		t.Errorf("%v are taken", taken)
	}
}

// A length may be asked of each array, and of null, whatever its type.
func TestP162ArrayLen(t *testing.T) {
	for _, v := range refs() {
		want := api.OK
		if h := v.Heap; h != api.HArray && h != api.HNone && (h < 0 || compOf(h).Kind != api.CArray) {
			want = api.ErrType
		}
		p := place(nested).with([]api.ValType{v})
		if want == api.OK {
			takes(t, p, context(), plain(opcode.ArrayLen), place(nested).on(vals("i32")))
		} else {
			refuses(t, p, context(), plain(opcode.ArrayLen), want)
		}
	}
}

// Which of two faults is told.
func TestP162FirstFault(t *testing.T) {
	end := uint32(math.MaxUint32)
	none := uint32(noType)
	for _, c := range []struct {
		i    api.Instr
		want api.Errno
	}{
		{x(opcode.RefFunc, noFunc), api.ErrIndex}, {x(opcode.RefFunc, end), api.ErrIndex},
		{xy(opcode.StructGetS, none, end), api.ErrIndex}, {xy(opcode.StructGet, 4, end), api.ErrKind}, {xy(opcode.StructGetU, 0, 1), api.ErrIndex}, {xy(opcode.StructSet, 0, 1), api.ErrIndex},
		{xy(opcode.StructSet, 17, 0), api.ErrKind}, {x(opcode.ArrayGetS, 0), api.ErrKind}, {x(opcode.ArraySet, 0), api.ErrKind}, {x(opcode.ArrayFill, none), api.ErrIndex},
		{fixed(none, end64), api.ErrIndex}, {fixed(0, end64), api.ErrKind}, {fixed(4, end64), api.ErrLong},
		{xy(opcode.ArrayNewData, none, end), api.ErrIndex}, {xy(opcode.ArrayNewData, 0, end), api.ErrKind}, {xy(opcode.ArrayNewData, 10, end), api.ErrBits}, {xy(opcode.ArrayNewData, 4, end), api.ErrIndex},
		{xy(opcode.ArrayNewElem, 0, end), api.ErrKind}, {xy(opcode.ArrayNewElem, 4, end), api.ErrIndex}, {xy(opcode.ArrayNewElem, 4, 0), api.ErrType},
		{xy(opcode.ArrayCopy, 0, none), api.ErrKind}, {xy(opcode.ArrayCopy, 4, none), api.ErrIndex}, {xy(opcode.ArrayCopy, 4, 0), api.ErrKind}, {xy(opcode.ArrayCopy, 4, 7), api.ErrMutable}, {xy(opcode.ArrayCopy, 5, 15), api.ErrType},
		{xy(opcode.ArrayInitData, 12, end), api.ErrKind}, {xy(opcode.ArrayInitData, 10, end), api.ErrMutable}, {xy(opcode.ArrayInitData, 4, end), api.ErrMutable}, {xy(opcode.ArrayInitData, 9, end), api.ErrBits}, {xy(opcode.ArrayInitData, 5, end), api.ErrIndex},
		{xy(opcode.ArrayInitElem, 2, end), api.ErrKind}, {xy(opcode.ArrayInitElem, 10, end), api.ErrMutable}, {xy(opcode.ArrayInitElem, 5, end), api.ErrIndex}, {xy(opcode.ArrayInitElem, 5, 0), api.ErrType},
	} {
		refusesAnyway(t, c.i, vals("i32, i32, i32"), c.want)
	}
}

const end64 = math.MaxUint64

// Labels, types and what is asked of them, of a branch on a cast.
func TestP162FirstFaultOfBranch(t *testing.T) {
	for _, c := range []struct {
		label uint32
		l     string
		want  api.Errno
	}{
		{noLabel, "", api.ErrArg}, {noLabel, "(ref any)", api.ErrArg}, {toNothing, "(ref 99)", api.ErrArg},
		{noLabel, "(ref 99), (ref 99)", api.ErrBlock}, {math.MaxUint32, "(ref any), (ref any)", api.ErrBlock},
		{toNothing, "(ref 99), (ref 99)", api.ErrType}, {toNumber, "(ref 99), (ref any)", api.ErrType}, {toNumber, "(ref any), (ref 99)", api.ErrType},
		{toAny, "(ref 99), (ref any)", api.ErrIndex}, {toAny, "(ref any), (ref 99)", api.ErrIndex}, {toI31, "(ref extern), (ref 99)", api.ErrIndex},
		{toAny, "(ref any), (ref null any)", api.ErrType}, {toAny, "(ref extern), (ref extern)", api.ErrType},
	} {
		for _, op := range []int{opcode.BrOnCast, opcode.BrOnCastFail} {
			refusesAnyway(t, api.Instr{Op: op, X: c.label, Types: vals(c.l)}, vals("i32, (ref null any)"), c.want)
		}
	}
}

// A fault of what is named is told ahead of one of operands, and none is told of the other layers' instructions.
func TestP162Examples(t *testing.T) {
	x1 := api.Ctx{Types: read("(struct (field i8) (field (mut i32)))")}
	start := func() *stack.Checker { return stack.New(x1.Types, nil, nil, nil) }
	for _, c := range []struct {
		i    api.Instr
		on   string
		want api.Errno
	}{
		{xy(0xfb02, 0, 0), "(ref 0)", api.ErrPacked}, {xy(0xfb05, 0, 0), "(ref 0), i32", api.ErrMutable}, {xy(0xfb02, 0, 2), "(ref 0)", api.ErrIndex},
		{xy(0xfb02, 0, 1), "(ref 0)", api.OK}, {xy(0xfb03, 0, 0), "(ref 0)", api.OK}, {xy(0xfb05, 0, 1), "(ref 0), i32", api.OK},
		{plain(0xfb0f), "i32", api.ErrType}, {plain(0xfb0f), "(ref null array)", api.OK},
	} {
		if e := vref.Step(x1, place(start).with(vals(c.on))(), c.i); e != c.want {
			t.Errorf("%s: %d, not %d", instr.Text(c.i), e, c.want)
		}
	}
	c := start()
	must(t, vref.Step(x1, c, cast(0xd0, "(ref null any)")), vref.Step(x1, c, cast(0xfb16, "(ref i31)")))
	if got := c.Operands(); told(got) != told(vals("(ref i31)")) {
		t.Errorf("ref.null any, ref.cast (ref i31): %v", got)
	}
	isConst(t, x1, []api.Instr{plain(0x6d)}, 0, 0, api.ErrConst)
}
