package vnum_test

import (
	"math"
	"slices"
	"testing"

	"ratchet/api"
	"ratchet/opcode"
)

// operandsOf are operands that may lie where something is refused for its indices or immediates: those that would go, none, and others.
func operandsOf(l []api.ValType) [][]api.ValType {
	return [][]api.ValType{l, nil, vals("none, none, none"), vals("f32, (ref any), f32")}
}

// refusesAnyway says that an instruction is refused for its indices or immediates, whatever the operands are, reached or not.
func refusesAnyway(t *testing.T, i api.Instr, in []api.ValType, want api.Errno) {
	t.Helper()
	for _, on := range operandsOf(in) {
		for _, p := range []place{fresh, unreached()["in a block"]} {
			refuses(t, p.with(on), context(), i, want)
		}
	}
}

// Alignments go up to what is loaded or stored; just above it, and far above, they are refused.
func TestP142Align(t *testing.T) {
	for _, a := range allAccesses() {
		for memory, addr := range []string{"i32", "i64"} {
			for n := range a.most + 1 {
				r := a.row(mem(a.op, uint32(memory), n, 0), addr)
				takes(t, place(fresh).with(r.in), context(), r.i, nil, r.out)
				takes(t, unreached()["at first"], context(), r.i, nil, r.out)
			}
			for _, n := range []uint32{a.most + 1, 4, 5, 31, 32, 33, 34, 62, 63, 64, 65, 128, 255, 256, 1 << 16, math.MaxInt32, 1 << 31, math.MaxUint32} {
				i := mem(a.op, uint32(memory), n, 0)
				refusesAnyway(t, i, a.row(i, addr).in, api.ErrAlign)
			}
		}
	}
}

// Offsets go up to 2^32 - 1 where a memory is not wide, and all of them where it is.
func TestP142Offset(t *testing.T) {
	for _, a := range allAccesses() {
		for _, n := range []uint64{0, 1, math.MaxInt32, 1 << 31, math.MaxUint32 - 1, math.MaxUint32} {
			r := a.row(mem(a.op, 0, 0, n), "i32")
			takes(t, place(fresh).with(r.in), context(), r.i, nil, r.out)
		}
		for _, n := range []uint64{1 << 32, 1<<32 + 1, 1 << 33, math.MaxInt64, 1 << 63, math.MaxUint64} {
			i := mem(a.op, 0, 0, n)
			refusesAnyway(t, i, a.row(i, "i32").in, api.ErrOffset)
			r := a.row(mem(a.op, 1, 0, n), "i64")
			takes(t, place(fresh).with(r.in), context(), r.i, nil, r.out)
		}
	}
}

func TestP142AccessIndex(t *testing.T) {
	for _, a := range allAccesses() {
		for _, n := range indices(2) {
			i := mem(a.op, n, 0, 0)
			refusesAnyway(t, i, a.row(i, "i32").in, api.ErrIndex)
		}
	}
}

// A memory that there isn't is told ahead of an alignment, that ahead of an offset, and all of them ahead of operands.
func TestP142AccessOrder(t *testing.T) {
	for _, a := range allAccesses() {
		for _, c := range []struct {
			memory, align uint32
			offset        uint64
			want          api.Errno
		}{
			{2, a.most + 1, 0, api.ErrIndex}, {2, 0, 1 << 32, api.ErrIndex}, {math.MaxUint32, math.MaxUint32, math.MaxUint64, api.ErrIndex},
			{0, a.most + 1, 1 << 32, api.ErrAlign}, {1, a.most + 1, 1 << 32, api.ErrAlign}, {0, math.MaxUint32, math.MaxUint64, api.ErrAlign},
		} {
			i := mem(a.op, c.memory, c.align, c.offset)
			refusesAnyway(t, i, a.row(i, "i32").in, c.want)
		}
	}
}

// Memories and data segments that there aren't.
func TestP142MemoryIndex(t *testing.T) {
	for _, n := range indices(2) {
		for _, op := range []int{opcode.MemorySize, opcode.MemoryGrow, opcode.MemoryFill} {
			refusesAnyway(t, x(op, n), vals("i32, i32, i32"), api.ErrIndex)
		}
		for _, i := range []api.Instr{xy(opcode.MemoryCopy, n, 0), xy(opcode.MemoryCopy, 0, n), xy(opcode.MemoryCopy, n, n), xy(opcode.MemoryInit, 0, n), xy(opcode.MemoryInit, 2, n)} {
			refusesAnyway(t, i, vals("i32, i32, i32"), api.ErrIndex)
		}
	}
	for _, n := range indices(3) {
		refusesAnyway(t, x(opcode.DataDrop, n), nil, api.ErrIndex)
		for _, memory := range []uint32{0, 1, 2, n} {
			refusesAnyway(t, xy(opcode.MemoryInit, n, memory), vals("i32, i32, i32"), api.ErrIndex)
		}
	}
}

// Each pairing of memories: of the three addresses that are asked just these types go.
func TestP142MemoryCopy(t *testing.T) {
	for _, c := range []struct {
		to, from uint32
		in       string
	}{{0, 0, "i32, i32, i32"}, {0, 1, "i32, i64, i32"}, {1, 0, "i64, i32, i32"}, {1, 1, "i64, i64, i64"}} {
		lengths(t, xy(opcode.MemoryCopy, c.to, c.from), vals(c.in))
	}
}

// lengths says that of all rows of three whole numbers an instruction goes with one.
func lengths(t *testing.T, i api.Instr, want []api.ValType) {
	t.Helper()
	two := vals("i32, i64")
	for n := range 8 {
		on := []api.ValType{two[n>>2], two[n>>1&1], two[n&1]}
		if slices.Equal(on, want) {
			takes(t, place(fresh).with(on), context(), i, nil, nil)
		} else {
			refuses(t, place(fresh).with(on), context(), i, api.ErrType)
		}
	}
}
