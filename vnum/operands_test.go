package vnum_test

import (
	"math"
	"slices"
	"testing"

	"ratchet/api"
	"ratchet/opcode"
)

// sel is a select that tells no type.
func sel() api.Instr { return api.Instr{Op: opcode.Select} }

// numbers are the operands that are no references, none aside.
func numbers() []api.ValType {
	var out []api.ValType
	for _, v := range kinds() {
		if v.Num != api.TRef {
			out = append(out, v)
		}
	}
	return out
}

// Each operand beside each: numbers that are the same, and a number beside none, go.
func TestP142SelectPairs(t *testing.T) {
	dead := unreached()["in a block"]
	for _, a := range append(kinds(), api.ValType{}) {
		for _, b := range append(kinds(), api.ValType{}) {
			on, want := []api.ValType{a, b, val("i32")}, a
			if a == (api.ValType{}) {
				want = b
			}
			for _, p := range []place{fresh, place(fresh).with(vals("f64, (ref any)")), dead} {
				switch {
				case a.Num == api.TRef || b.Num == api.TRef || a.Num != b.Num && a.Num != api.TNone && b.Num != api.TNone:
					refuses(t, p.with(on), context(), sel(), api.ErrSelect)
				default:
					takes(t, p.with(on), context(), sel(), p().Operands(), []api.ValType{want})
				}
			}
		}
	}
}

// Where it is not reached, what is not there is none; what is there must still be no reference.
func TestP142SelectNotReached(t *testing.T) {
	for name, p := range unreached() {
		takes(t, p, context(), sel(), p().Operands(), vals("none"))
		takes(t, p.with(vals("i32")), context(), sel(), p().Operands(), vals("none"))
		takes(t, p.with(vals("none")), context(), sel(), p().Operands(), vals("none"))
		takes(t, p.with(vals("none, none, none")), context(), sel(), p().Operands(), vals("none"))
		for _, v := range numbers() {
			takes(t, p.with([]api.ValType{v, val("i32")}), context(), sel(), p().Operands(), []api.ValType{v})
			takes(t, p.with([]api.ValType{v, {}}), context(), sel(), p().Operands(), []api.ValType{v})
		}
		for _, on := range []string{"(ref any), i32", "(ref null 0), i32", "(ref 9), none", "(ref null func), none, i32", "none, (ref null func), i32", "(ref any), (ref any), i32", "f32, f64, i32"} {
			refuses(t, p.with(vals(on)), context(), sel(), api.ErrSelect)
		}
		for _, on := range []string{"i64", "(ref i31)", "i32, i32, f32", "(ref any), i64"} {
			refuses(t, p.with(vals(on)), context(), sel(), api.ErrType)
		}
		if t.Failed() {
			t.Fatal(name)
		}
	}
}

// All three are popped ahead of being held against each other, the last one first.
func TestP142SelectOrder(t *testing.T) {
	for _, p := range []place{fresh, places()["in a block"]} {
		for _, c := range []struct {
			on   string
			want api.Errno
		}{
			{"", api.ErrUnder}, {"i32", api.ErrUnder}, {"none", api.ErrUnder}, {"(ref any), i32", api.ErrUnder}, {"i64, i32", api.ErrUnder},
			{"f32", api.ErrType}, {"(ref any), (ref any)", api.ErrType}, {"(ref any), f64, i64", api.ErrType}, {"i32, i32, (ref any)", api.ErrType},
			{"(ref any), f64, i32", api.ErrSelect},
		} {
			refuses(t, p.with(vals(c.on)), context(), sel(), c.want)
		}
	}
}

// What else stands beside a number counts for nothing.
func TestP142SelectSame(t *testing.T) {
	c := place(fresh).with([]api.ValType{{Num: api.TI64, Null: true, Heap: 7}, val("i64"), val("i32")})()
	must(t, step(c, sel()), step(c, api.Instr{Op: opcode.I64Eqz}))
}

func TestP142SelectTypes(t *testing.T) {
	start := place(fresh).with(vals("f64"))
	for _, p := range []place{fresh, start.with(vals("i32, i32, i32")), unreached()["at first"]} {
		refuses(t, p, context(), selectT(""), api.ErrArity)
		refuses(t, p, context(), selectT("i32, i32"), api.ErrArity)
		refuses(t, p, context(), selectT("(ref 9), (ref 9)"), api.ErrArity)
		refuses(t, p, context(), selectT("i32, i32, i32"), api.ErrArity)
		refuses(t, p, context(), api.Instr{Op: opcode.SelectT, Types: slices.Repeat(vals("i32"), api.MaxParams+1)}, api.ErrArity)
	}
	for h := api.HNoExn; h < 4; h++ {
		for _, null := range []bool{true, false} {
			v := api.ValType{Num: api.TRef, Null: null, Heap: h}
			i := api.Instr{Op: opcode.SelectT, Types: []api.ValType{v}}
			takes(t, start.with([]api.ValType{v, v, val("i32")}), context(), i, vals("f64"), i.Types)
			takes(t, unreached()["in a block"], context(), i, unreached()["in a block"]().Operands(), i.Types)
		}
	}
}

// Types that there aren't are told, whatever the operands are.
func TestP142SelectUnknown(t *testing.T) {
	for _, h := range []int{4, 5, 9, 10000, math.MaxInt32, math.MaxInt, api.HNoExn - 1, -99, -100, -101, math.MinInt32, math.MinInt} {
		for _, null := range []bool{true, false} {
			v := api.ValType{Num: api.TRef, Null: null, Heap: h}
			i := api.Instr{Op: opcode.SelectT, Types: []api.ValType{v}}
			for _, on := range [][]api.ValType{nil, vals("f32"), {v, v, val("i32")}, vals("none, none, none"), vals("(ref 9), (ref 9), i32")} {
				refuses(t, place(fresh).with(on), context(), i, api.ErrIndex)
				refuses(t, unreached()["in a block"].with(on), context(), i, api.ErrIndex)
			}
		}
	}
	// What stands beside a number speaks of no type.
	takes(t, place(fresh).with(vals("i64, i64, i32")), context(), api.Instr{Op: opcode.SelectT, Types: []api.ValType{{Num: api.TI64, Null: true, Heap: 99}}}, nil, []api.ValType{{Num: api.TI64, Null: true, Heap: 99}})
}

// A drop takes just the last operand, whatever it is.
func TestP142Drop(t *testing.T) {
	i := api.Instr{Op: opcode.Drop}
	for _, v := range append(kinds(), api.ValType{}) {
		takes(t, place(fresh).with(vals("i32, (ref 0)")).with([]api.ValType{v}), context(), i, vals("i32, (ref 0)"), nil)
	}
	refuses(t, fresh, context(), i, api.ErrUnder)
	refuses(t, places()["in a block"], context(), i, api.ErrUnder)
}
