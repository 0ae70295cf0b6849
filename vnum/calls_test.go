package vnum_test

import (
	"math"
	"slices"
	"testing"

	"ratchet/api"
	"ratchet/instr"
	"ratchet/opcode"
	"ratchet/vnum"
)

// limits are some of each width, in which all else counts for nothing.
func limits(wide bool) []api.Limits {
	return []api.Limits{
		{Wide: wide}, {Wide: wide, Min: 1}, {Wide: wide, Min: math.MaxUint64}, {Wide: wide, Min: 1 << 32, Max: 1 << 33, HasMax: true}, {Wide: wide, HasMax: true},
	}
}

func TestP141Addr(t *testing.T) {
	for wide, want := range map[bool]api.ValType{false: val("i32"), true: val("i64")} {
		for _, l := range limits(wide) {
			if got := vnum.Addr(l); got != want {
				t.Errorf("Addr(%v): %v", l, got)
			}
		}
	}
}

func TestP141Least(t *testing.T) {
	for _, pair := range []struct {
		a, b bool
		want string
	}{{false, false, "i32"}, {false, true, "i32"}, {true, false, "i32"}, {true, true, "i64"}} {
		for _, a := range limits(pair.a) {
			for _, b := range limits(pair.b) {
				if got := vnum.Least(a, b); got != val(pair.want) {
					t.Errorf("Least(%v, %v): %v", a, b, got)
				}
			}
		}
	}
}

// ops are the opcodes of the chapter's table.
func ops() []int {
	return slices.Concat(span(0x1a, 0x1c), span(0x20, 0x26), span(0x28, 0xc4), span(0xfc00, 0xfc11))
}

func TestP141Ops(t *testing.T) {
	got := vnum.Ops()
	if !slices.Equal(got, ops()) {
		t.Errorf("Ops: %x", got)
	}
	for n := range got {
		got[n] = -1
	}
	if got = vnum.Ops(); !slices.Equal(got, ops()) {
		t.Errorf("Ops behind a change of what was answered: %x", got)
	}
}

// An opcode that is none of these, of another chapter or of none, is told whatever its fields and the operands are.
func TestP142NoOp(t *testing.T) {
	others := append(span(0, 0x1ff), math.MinInt, -0xfc00, -0x1a, -1, 0x1001a, 0xfa00, 0xfd00, 0xfd0c, 1<<32+0x1a, 1<<32+0x6a, math.MaxInt)
	others = slices.Concat(others, span(0xfb00, 0xfb20), span(0xfbf0, 0xfbff), span(0xfc12, 0xfd20), instr.Ops())
	dead := unreached()["on others"]
	for _, op := range others {
		if slices.Contains(ops(), op) {
			continue
		}
		for _, i := range []api.Instr{{Op: op}, {Op: op, X: 99, Y: 99, Mem: api.MemArg{Align: 99, Mem: 99}, Types: vals("(ref 99)")}} {
			refuses(t, place(fresh).with(vals("i32, i32, i32")), context(), i, api.ErrNone)
			refuses(t, dead, context(), i, api.ErrNone)
		}
	}
}

// A context of nothing has nothing that could be named.
func TestP142NoContext(t *testing.T) {
	start := place(fresh).with(vals("i32, i32, i32"))
	for _, op := range []int{
		opcode.GlobalGet, opcode.GlobalSet, opcode.TableGet, opcode.TableSet, opcode.I32Load, opcode.I64Store32, opcode.MemorySize, opcode.MemoryGrow, opcode.MemoryInit, opcode.DataDrop,
		opcode.MemoryCopy, opcode.MemoryFill, opcode.TableInit, opcode.ElemDrop, opcode.TableCopy, opcode.TableGrow, opcode.TableSize, opcode.TableFill,
	} {
		refuses(t, start, api.Ctx{}, x(op, 0), api.ErrIndex)
	}
	refuses(t, start, api.Ctx{}, selectT("(ref 0)"), api.ErrIndex)
	refuses(t, start, api.Ctx{Datas: -1}, x(opcode.DataDrop, 0), api.ErrIndex)
	refuses(t, start, api.Ctx{Datas: math.MinInt}, x(opcode.DataDrop, math.MaxUint32), api.ErrIndex)
	// What names nothing, or names a local, asks nothing of it.
	takes(t, start, api.Ctx{}, x(opcode.LocalGet, 1), start().Operands(), vals("(ref 0)"))
	takes(t, start, api.Ctx{}, selectT("i32"), nil, vals("i32"))
	takes(t, start, api.Ctx{}, api.Instr{Op: opcode.Drop}, vals("i32, i32"), nil)
	takes(t, start, api.Ctx{}, api.Instr{Op: opcode.I32Add}, vals("i32"), vals("i32"))
	takes(t, start, api.Ctx{Datas: math.MaxInt}, x(opcode.DataDrop, math.MaxUint32), start().Operands(), nil)
}
