package vref_test

import (
	"strings"
	"testing"

	"ratchet/api"
	"ratchet/instr"
	"ratchet/opcode"
	"ratchet/types"
)

// numbersOf are the context's types of a kind.
func numbersOf(kind int) []uint32 {
	var out []uint32
	for n := range noType {
		if compOf(n).Kind == kind {
			out = append(out, uint32(n))
		}
	}
	return out
}

func compOf(n int) api.CompType {
	s, _, _, _ := types.At(context().Types, n)
	return s.Comp
}

// elementOf is an array's element.
func elementOf(n uint32) api.Field { return compOf(int(n)).Fields[0] }

// outside is what a field's type is outside of it.
func outside(v api.ValType) api.ValType {
	if v.Num == api.T8 || v.Num == api.T16 {
		return i32()
	}
	return v
}

// kindAsked tells of which kind the type X is of which an instruction speaks; 0: of none.
func kindAsked(op int) int {
	name := instr.Name(op)
	switch {
	case name == "array.len":
		return 0
	case strings.HasPrefix(name, "struct."):
		return api.CStruct
	case strings.HasPrefix(name, "array."):
		return api.CArray
	}
	return 0
}

// naming are the instructions that name a type X, with other fields that go, and with such as do not.
func naming(n uint32) []api.Instr {
	var out []api.Instr
	for _, op := range ops() {
		if kindAsked(op) != 0 {
			out = append(out, api.Instr{Op: op, X: n, Y: 0, N: 1}, api.Instr{Op: op, X: n, Y: 99, N: 1 << 40})
		}
	}
	return out
}

// Types that there aren't, and types of another kind, are told ahead of all else that an instruction names.
func TestP162Kinds(t *testing.T) {
	t.Parallel()
	on := vals("(ref null none), i32, (ref null none), i32, i32")
	for _, n := range indices(noType) {
		for _, i := range naming(n) {
			refusesAnyway(t, i, on, api.ErrIndex)
		}
	}
	for n := range noType {
		for _, i := range naming(uint32(n)) {
			if kindAsked(i.Op) != compOf(n).Kind {
				refusesAnyway(t, i, on, api.ErrKind)
			}
		}
	}
}

// The second type of a copy is asked behind the first one, and ahead of what may be set.
func TestP162CopyKinds(t *testing.T) {
	t.Parallel()
	on := vals("(ref null none), i32, (ref null none), i32, i32")
	for _, to := range numbersOf(api.CArray) {
		for _, n := range indices(noType) {
			refusesAnyway(t, xy(opcode.ArrayCopy, to, n), on, api.ErrIndex)
		}
		for n := range noType {
			if compOf(n).Kind != api.CArray {
				refusesAnyway(t, xy(opcode.ArrayCopy, to, uint32(n)), on, api.ErrKind)
			}
		}
	}
	for _, n := range []uint32{0, 12, 17} {
		refusesAnyway(t, xy(opcode.ArrayCopy, n, uint32(noType)), on, api.ErrKind)
		refusesAnyway(t, xy(opcode.ArrayCopy, uint32(noType), n), on, api.ErrIndex)
	}
}

// An array without just one element is none; so is a type of no kind.
func TestP162OddTypes(t *testing.T) {
	two := []api.Field{{Type: i32(), Mut: true}, {Type: i32(), Mut: true}}
	x1 := api.Ctx{Datas: 1, Elems: vals("(ref func)"), Types: []api.RecType{{Types: []api.SubType{
		{Comp: api.CompType{Kind: api.CArray}}, {Comp: api.CompType{Kind: api.CArray, Fields: two}}, {Comp: api.CompType{Fields: two}}, {Comp: api.CompType{Kind: 4, Fields: two}},
	}}}}
	for n := range uint32(4) {
		for _, op := range ops() {
			if kind := kindAsked(op); kind == api.CArray || kind == api.CStruct && n > 1 {
				refuses(t, place(nested).with(vals("none, none, none, none, none")), x1, xy(op, n, 0), api.ErrKind)
			}
		}
	}
}

// The opcodes by which one field is got and set, and whether they ask for one that is packed.
func getters(kind int) map[int]bool {
	if kind == api.CStruct {
		return map[int]bool{opcode.StructGet: false, opcode.StructGetS: true, opcode.StructGetU: true}
	}
	return map[int]bool{opcode.ArrayGet: false, opcode.ArrayGetS: true, opcode.ArrayGetU: true}
}

// Each field of each struct, got and set in each way.
func TestP162StructFields(t *testing.T) {
	t.Parallel()
	for _, n := range numbersOf(api.CStruct) {
		l, me := compOf(int(n)).Fields, ref(true, int(n))
		for at, f := range l {
			v, y := outside(f.Type), uint32(at)
			for op, ends := range getters(api.CStruct) {
				if ends == (v == f.Type) {
					refusesAnyway(t, xy(op, n, y), []api.ValType{me}, api.ErrPacked)
				} else {
					takesAnyway(t, xy(op, n, y), []api.ValType{me}, []api.ValType{v})
				}
			}
			if f.Mut {
				takesAnyway(t, xy(opcode.StructSet, n, y), []api.ValType{me, v}, nil)
			} else {
				refusesAnyway(t, xy(opcode.StructSet, n, y), []api.ValType{me, v}, api.ErrMutable)
			}
		}
		for op := opcode.StructGet; op <= opcode.StructSet; op++ {
			for _, y := range indices(len(l)) {
				refusesAnyway(t, xy(op, n, y), []api.ValType{me, i32()}, api.ErrIndex)
			}
		}
	}
}

// Each element of each array, got and set in each way; what else an instruction for one field has counts for nothing of an array.
func TestP162ArrayElements(t *testing.T) {
	for _, n := range numbersOf(api.CArray) {
		f := elementOf(n)
		v, at := outside(f.Type), []api.ValType{ref(true, int(n)), i32()}
		for op, ends := range getters(api.CArray) {
			if ends == (v == f.Type) {
				refusesAnyway(t, xy(op, n, 7), at, api.ErrPacked)
			} else {
				takesAnyway(t, xy(op, n, 7), at, []api.ValType{v})
			}
		}
		set, fill := append(at, v), append(at, v, i32())
		if f.Mut {
			takesAnyway(t, xy(opcode.ArraySet, n, 7), set, nil)
			takesAnyway(t, xy(opcode.ArrayFill, n, 7), fill, nil)
		} else {
			refusesAnyway(t, xy(opcode.ArraySet, n, 7), set, api.ErrMutable)
			refusesAnyway(t, xy(opcode.ArrayFill, n, 7), fill, api.ErrMutable)
		}
	}
}

// A struct of all that there is may be made of its fields' values; without them just where each has a first value.
func TestP162StructNew(t *testing.T) {
	for _, n := range numbersOf(api.CStruct) {
		var in []api.ValType
		first := true
		for _, f := range compOf(int(n)).Fields {
			in = append(in, outside(f.Type))
			first = first && (f.Type.Num != api.TRef || f.Type.Null)
		}
		me := []api.ValType{ref(false, int(n))}
		takesAnyway(t, x(opcode.StructNew, n), in, me)
		if first {
			takesAnyway(t, x(opcode.StructNewDefault, n), nil, me)
		} else {
			refusesAnyway(t, x(opcode.StructNewDefault, n), in, api.ErrDefault)
		}
	}
}

// Of one field alone that has no first value, wherever it stands, a struct has none; what is no type has none either.
func TestP162StructNewDefault(t *testing.T) {
	good := []api.Field{{Type: val("i8")}, {Type: val("i16"), Mut: true}, {Type: val("f64")}, {Type: val("(ref null 0)")}, {Type: val("(ref null exn)")}}
	for _, bad := range append(vals("(ref 0), (ref none), none"), api.ValType{Num: 99}) {
		for n := range good {
			l := append([]api.Field{}, good...)
			l[n].Type = bad
			x1 := api.Ctx{Types: []api.RecType{{Types: []api.SubType{{Comp: api.CompType{Kind: api.CStruct, Fields: l}}}}}}
			refuses(t, nested, x1, x(opcode.StructNewDefault, 0), api.ErrDefault)
			refuses(t, place(nested).dead(), x1, x(opcode.StructNewDefault, 0), api.ErrDefault)
		}
	}
	x1 := api.Ctx{Types: []api.RecType{{Types: []api.SubType{{Comp: api.CompType{Kind: api.CStruct, Fields: good}}}}}}
	takes(t, nested, x1, x(opcode.StructNewDefault, 0), place(nested).on(vals("(ref 0)")))
}
