package inum_test

import (
	"math"
	"slices"
	"strings"
	"testing"

	"ratchet/api"
	"ratchet/inum"
)

// row is what the chapter's table says of one opcode. takes and gives are numbers of bits.
type row struct {
	op           int
	word         string
	arity        int
	takes, gives int
}

// table is the chapter's, column by column.
func table() []row {
	one := " eqz clz ctz popcnt extend8_s extend16_s extend32_s wrap_i64 extend_i32_s extend_i32_u "
	var out []row
	lay := func(first, takes, gives int, words string) {
		for i, word := range strings.Fields(words) {
			arity := 2
			if strings.Contains(one, " "+word+" ") {
				arity = 1
			}
			out = append(out, row{first + i, word, arity, takes, gives})
		}
	}
	compared := "eqz eq ne lt_s lt_u gt_s gt_u le_s le_u ge_s ge_u"
	computed := "clz ctz popcnt add sub mul div_s div_u rem_s rem_u and or xor shl shr_s shr_u rotl rotr"
	lay(0x45, 32, 32, compared)
	lay(0x50, 64, 32, compared)
	lay(0x67, 32, 32, computed)
	lay(0x79, 64, 64, computed)
	lay(0xa7, 64, 32, "wrap_i64")
	lay(0xac, 32, 64, "extend_i32_s extend_i32_u")
	lay(0xc0, 32, 32, "extend8_s extend16_s")
	lay(0xc2, 64, 64, "extend8_s extend16_s extend32_s")
	return out
}

func find(op int) (row, bool) {
	for _, r := range table() {
		if r.op == op {
			return r, true
		}
	}
	return row{}, false
}

// opOf is the opcode of a word, of what takes that many bits.
func opOf(t *testing.T, word string, takes int) int {
	t.Helper()
	for _, r := range table() {
		if r.word == word && r.takes == takes {
			return r.op
		}
	}
	t.Fatalf("no operator %s of %d bits", word, takes)
	return 0
}

func typeOf(bits int) int {
	if bits == 32 {
		return api.TI32
	}
	return api.TI64
}

// anyOps are all opcodes of one byte, what stands beside them, and numbers at their ends.
func anyOps() []int {
	out := []int{math.MinInt, math.MinInt + 0x6a, math.MinInt32, -1 << 16, math.MaxInt32, 1 << 32, 1<<32 + 0x6a, 1<<32 + 0x45, math.MaxInt - 1, math.MaxInt}
	for op := -0x200; op < 0x400; op++ {
		out = append(out, op)
	}
	for op := 0xfb00; op < 0xfe00; op++ {
		out = append(out, op)
	}
	return out
}

func TestIN1ArityTypesName(t *testing.T) {
	for _, op := range anyOps() {
		want := row{}
		takes, gives, fault := 0, 0, api.ErrArg
		if r, ok := find(op); ok {
			want, takes, gives, fault = r, typeOf(r.takes), typeOf(r.gives), api.OK
		}
		if n, e := inum.Arity(op); n != want.arity || e != fault {
			t.Errorf("Arity(%x): %d, %d, not %d, %d", op, n, e, want.arity, fault)
		}
		if a, b, e := inum.Types(op); a != takes || b != gives || e != fault {
			t.Errorf("Types(%x): %d, %d, %d, not %d, %d, %d", op, a, b, e, takes, gives, fault)
		}
		if s := inum.Name(op); s != want.word {
			t.Errorf("Name(%x): %q, not %q", op, s, want.word)
		}
	}
}

func TestIN1OneByOne(t *testing.T) {
	for _, c := range []struct {
		op           int
		word         string
		arity        int
		takes, gives int
	}{
		{0x45, "eqz", 1, api.TI32, api.TI32}, {0x50, "eqz", 1, api.TI64, api.TI32},
		{0x4f, "ge_u", 2, api.TI32, api.TI32}, {0x5a, "ge_u", 2, api.TI64, api.TI32},
		{0x67, "clz", 1, api.TI32, api.TI32}, {0x79, "clz", 1, api.TI64, api.TI64},
		{0x6d, "div_s", 2, api.TI32, api.TI32}, {0x82, "rem_u", 2, api.TI64, api.TI64},
		{0x78, "rotr", 2, api.TI32, api.TI32}, {0x8a, "rotr", 2, api.TI64, api.TI64},
		{0xa7, "wrap_i64", 1, api.TI64, api.TI32},
		{0xac, "extend_i32_s", 1, api.TI32, api.TI64}, {0xad, "extend_i32_u", 1, api.TI32, api.TI64},
		{0xc1, "extend16_s", 1, api.TI32, api.TI32}, {0xc4, "extend32_s", 1, api.TI64, api.TI64},
		{0x44, "", 0, 0, 0}, {0x5b, "", 0, 0, 0}, {0x66, "", 0, 0, 0}, {0x8b, "", 0, 0, 0},
		{0xa6, "", 0, 0, 0}, {0xa8, "", 0, 0, 0}, {0xab, "", 0, 0, 0}, {0xae, "", 0, 0, 0}, {0xbf, "", 0, 0, 0}, {0xc5, "", 0, 0, 0},
		{0, "", 0, 0, 0}, {-1, "", 0, 0, 0}, {-0x6a, "", 0, 0, 0}, {math.MinInt, "", 0, 0, 0}, {math.MaxInt, "", 0, 0, 0},
	} {
		fault := api.OK
		if c.arity == 0 {
			fault = api.ErrArg
		}
		n, e := inum.Arity(c.op)
		a, b, f := inum.Types(c.op)
		if s := inum.Name(c.op); s != c.word || n != c.arity || e != fault || a != c.takes || b != c.gives || f != fault {
			t.Errorf("%x: %q, %d, %d, types %d, %d, %d", c.op, s, n, e, a, b, f)
		}
	}
}

func TestIN1Ops(t *testing.T) {
	var want []int
	for _, r := range table() {
		want = append(want, r.op)
	}
	slices.Sort(want)
	got := inum.Ops()
	if !slices.Equal(got, want) || len(got) != 66 {
		t.Errorf("Ops: %x, not %x", got, want)
	}
	clear(got)
	if again := inum.Ops(); !slices.Equal(again, want) {
		t.Errorf("Ops, once its answer was changed: %x", again)
	}
}

func TestIN2RefusesOtherOperators(t *testing.T) {
	values := []uint64{0, 1, 1 << 31, 1 << 63, math.MaxUint64}
	for _, op := range anyOps() {
		r, _ := find(op)
		for _, a := range values {
			if n, e := inum.Unary(op, a); r.arity != 1 && (n != 0 || e != api.ErrArg) {
				t.Errorf("Unary(%x, %x): %x, %d, not 0, ErrArg", op, a, n, e)
			}
			for _, b := range values {
				if n, e := inum.Binary(op, a, b); r.arity != 2 && (n != 0 || e != api.ErrArg) {
					t.Errorf("Binary(%x, %x, %x): %x, %d, not 0, ErrArg", op, a, b, n, e)
				}
			}
		}
	}
}

func checkUnary(t *testing.T, op int, a, want uint64) {
	if n, e := inum.Unary(op, a); n != want || e != api.OK {
		t.Helper()
		t.Errorf("Unary(%x, %x): %x, %d, not %x", op, a, n, e, want)
	}
}

func checkBinary(t *testing.T, op int, a, b, want uint64, fault api.Errno) {
	if n, e := inum.Binary(op, a, b); n != want || e != fault {
		t.Helper()
		t.Errorf("Binary(%x, %x, %x): %x, %d, not %x, %d", op, a, b, n, e, want, fault)
	}
}

func TestIN2Examples(t *testing.T) {
	checkBinary(t, 0x6d, 7, 1<<32-2, 1<<32-3, api.OK)
	checkBinary(t, 0x6f, 1<<32-7, 2, 1<<32-1, api.OK)
	checkBinary(t, 0x6d, 1<<31, 1<<32-1, 0, api.ErrOverflow)
	checkBinary(t, 0x6f, 1<<31, 1<<32-1, 0, api.OK)
	checkUnary(t, 0x67, 1, 31)
	checkUnary(t, 0xc0, 0x80, 0xffffff80)
	checkBinary(t, 0x75, 1<<31, 33, 0xc0000000, api.OK)
	checkUnary(t, 0xa7, 1<<32+5, 5)
}

func TestIN2Traps(t *testing.T) {
	high := uint64(0xdeadbeef) << 32
	for _, op := range []int{0x6d, 0x6e, 0x6f, 0x70} {
		for _, a := range []uint64{0, 1, 1 << 31, 1<<32 - 1, high, math.MaxUint64} {
			checkBinary(t, op, a, 0, 0, api.ErrDivide)
			checkBinary(t, op, a, high, 0, api.ErrDivide)
		}
	}
	for _, op := range []int{0x7f, 0x80, 0x81, 0x82} {
		for _, a := range []uint64{0, 1, 1 << 31, 1 << 63, math.MaxUint64} {
			checkBinary(t, op, a, 0, 0, api.ErrDivide)
		}
	}
	checkBinary(t, 0x6d, high|1<<31, high|(1<<32-1), 0, api.ErrOverflow)
	checkBinary(t, 0x6d, 1<<31, math.MaxUint64, 0, api.ErrOverflow)
	checkBinary(t, 0x6d, 1<<31+1, 1<<32-1, 1<<31-1, api.OK)
	checkBinary(t, 0x6d, 1<<31, 1<<32-2, 1<<30, api.OK)
	checkBinary(t, 0x6d, 1<<31, 1, 1<<31, api.OK)
	checkBinary(t, 0x6e, 1<<31, 1<<32-1, 0, api.OK)
	checkBinary(t, 0x70, 1<<31, 1<<32-1, 1<<31, api.OK)
	checkBinary(t, 0x7f, 1<<63, math.MaxUint64, 0, api.ErrOverflow)
	checkBinary(t, 0x7f, 1<<63+1, math.MaxUint64, 1<<63-1, api.OK)
	checkBinary(t, 0x7f, 1<<31, 1<<32-1, 0, api.OK)
	checkBinary(t, 0x7f, 1<<31, math.MaxUint64, 1<<64-1<<31, api.OK)
	checkBinary(t, 0x80, 1<<63, math.MaxUint64, 0, api.OK)
	checkBinary(t, 0x81, 1<<63, math.MaxUint64, 0, api.OK)
	checkBinary(t, 0x82, 1<<63, math.MaxUint64, 1<<63, api.OK)
}

func TestIN2Edges(t *testing.T) {
	checkUnary(t, 0x67, 0, 32)
	checkUnary(t, 0x68, 0, 32)
	checkUnary(t, 0x67, 1<<32, 32)
	checkUnary(t, 0x68, 1<<32, 32)
	checkUnary(t, 0x69, math.MaxUint64, 32)
	checkUnary(t, 0x79, 0, 64)
	checkUnary(t, 0x7a, 0, 64)
	checkUnary(t, 0x79, 1<<32, 31)
	checkUnary(t, 0x7a, 1<<32, 32)
	checkUnary(t, 0x7b, math.MaxUint64, 64)
	checkUnary(t, 0x45, 1<<32, 1)
	checkUnary(t, 0x50, 1<<32, 0)
	checkUnary(t, 0xc1, 0xdead0000_ffff8000, 0xffff8000)
	checkUnary(t, 0xc2, 0xff7f, 0x7f)
	checkUnary(t, 0xc3, 0x18000, 1<<64-1<<15)
	checkUnary(t, 0xc4, 0x1_80000000, 1<<64-1<<31)
	checkUnary(t, 0xac, 0x1_80000000, 1<<64-1<<31)
	checkUnary(t, 0xad, 0x1_80000000, 1<<31)
	for _, count := range []uint64{0, 32, 64, 1 << 31, 1 << 32, 1<<64 - 32} {
		for _, op := range []int{0x74, 0x75, 0x76, 0x77, 0x78} {
			checkBinary(t, op, 0x5_80000001, count, 0x80000001, api.OK)
		}
	}
	for _, count := range []uint64{0, 64, 128, 1 << 32, 1 << 63, 1<<64 - 64} {
		for _, op := range []int{0x86, 0x87, 0x88, 0x89, 0x8a} {
			checkBinary(t, op, 1<<63|1, count, 1<<63|1, api.OK)
		}
	}
	checkBinary(t, 0x86, 1, 32, 1<<32, api.OK)
	checkBinary(t, 0x87, 1<<63, 63, math.MaxUint64, api.OK)
	checkBinary(t, 0x88, 1<<63, 127, 1, api.OK)
	checkBinary(t, 0x89, 1<<63, 65, 1, api.OK)
	checkBinary(t, 0x8a, 1, 65, 1<<63, api.OK)
}

// samples are values about the ends of all widths, some of no kind, and each with other high bits.
func samples() []uint64 {
	out := []uint64{0x01234567_89abcdef, 0xfedcba98_76543210, 0xaaaaaaaa_55555555, 0xdeadbeef_00000007, 0x9e3779b9_7f4a7c15}
	for _, n := range []uint64{0, 1 << 3, 1 << 7, 1 << 8, 1 << 15, 1 << 16, 1 << 31, 1 << 32, 1 << 47, 1 << 63} {
		for d := range uint64(5) {
			out = append(out, n+d-2, -n+d-2)
		}
	}
	for n := range uint64(7) {
		out = append(out, 30+n, 62+n)
	}
	for _, n := range out {
		out = append(out, n^0xdeadbeef_00000000)
	}
	slices.Sort(out)
	return slices.Compact(out)
}

func TestIN2AllOperators(t *testing.T) {
	values := samples()
	for _, r := range table() {
		for _, a := range values {
			if r.arity == 1 {
				checkUnary(t, r.op, a, r.wantUnary(a))
				continue
			}
			for _, b := range values {
				want, fault := r.wantBinary(a, b)
				checkBinary(t, r.op, a, b, want, fault)
			}
		}
	}
}

func TestIN2HighBitsCountForNothing(t *testing.T) {
	for _, r := range table() {
		if r.takes != 32 {
			continue
		}
		for _, a := range samples() {
			low := a & (1<<32 - 1)
			if r.arity == 1 {
				n, e := inum.Unary(r.op, low)
				m, f := inum.Unary(r.op, a)
				if n != m || e != f {
					t.Errorf("Unary(%x): of %x %x, %d, of %x %x, %d", r.op, low, n, e, a, m, f)
				}
				continue
			}
			for _, b := range []uint64{0, 1, 2, 31, 32, 33, 1 << 31, 1<<32 - 1} {
				n, e := inum.Binary(r.op, low, b)
				m, f := inum.Binary(r.op, a, b|0xdeadbeef_00000000)
				if n != m || e != f {
					t.Errorf("Binary(%x): of %x, %x %x, %d, with high bits %x, %d", r.op, low, b, n, e, m, f)
				}
			}
		}
	}
}

// each hands every pair of samples to a check, for both widths, with the opcodes of words; the check tells what it found, and whether it is right.
func each(t *testing.T, words string, check func(mask, a, b uint64, ops []int) (uint64, bool)) {
	t.Helper()
	values := samples()
	for _, bits := range []int{32, 64} {
		var ops []int
		for _, word := range strings.Fields(words) {
			ops = append(ops, opOf(t, word, bits))
		}
		mask := uint64(math.MaxUint64) >> (64 - bits)
		for _, a := range values {
			for _, b := range values {
				if n, ok := check(mask, a, b, ops); !ok {
					t.Errorf("%s of %d bits, of %x, %x: %x", words, bits, a, b, n)
				}
			}
		}
	}
}

// of is the answer of what does not trap.
func of(t *testing.T, op int, a, b uint64) uint64 {
	n, e := inum.Binary(op, a, b)
	if e != api.OK {
		t.Helper()
		t.Errorf("Binary(%x, %x, %x): %d", op, a, b, e)
	}
	return n
}

func TestIN3DivAndRem(t *testing.T) {
	for _, words := range []string{"div_s rem_s mul add", "div_u rem_u mul add"} {
		each(t, words, func(mask, a, b uint64, ops []int) (uint64, bool) {
			least := mask>>1 + 1
			if b&mask == 0 || words[4] == 's' && a&mask == least && b&mask == mask {
				return 0, true
			}
			whole := of(t, ops[2], of(t, ops[0], a, b), b)
			n := of(t, ops[3], whole, of(t, ops[1], a, b))
			return n, n == a&mask
		})
	}
}

func TestIN3RotationsUndoOneAnother(t *testing.T) {
	for _, words := range []string{"rotl rotr", "rotr rotl"} {
		each(t, words, func(mask, a, b uint64, ops []int) (uint64, bool) {
			n := of(t, ops[1], of(t, ops[0], a, b), b)
			return n, n == a&mask
		})
	}
}

func TestIN3HalvesOfComparisons(t *testing.T) {
	for _, words := range []string{"lt_s ge_s", "lt_u ge_u", "gt_s le_s", "gt_u le_u", "eq ne"} {
		each(t, words, func(mask, a, b uint64, ops []int) (uint64, bool) {
			n, m := of(t, ops[0], a, b), of(t, ops[1], a, b)
			return n, n <= 1 && m == 1-n
		})
	}
}

func TestIN3ExtendTwice(t *testing.T) {
	for _, op := range []int{0xc0, 0xc1, 0xc2, 0xc3, 0xc4} {
		for _, a := range samples() {
			n, _ := inum.Unary(op, a)
			checkUnary(t, op, n, n)
		}
	}
}

func TestIN3BitsOfShiftedValues(t *testing.T) {
	for _, bitwise := range []string{"and", "or", "xor"} {
		for _, shift := range []string{"shl", "shr_s", "shr_u", "rotl", "rotr"} {
			each(t, bitwise+" "+shift, func(mask, a, b uint64, ops []int) (uint64, bool) {
				for _, k := range []uint64{0, 1, 31, 32, 33, 63, 64} {
					n := of(t, ops[0], of(t, ops[1], a, k), of(t, ops[1], b, k))
					if n != of(t, ops[1], of(t, ops[0], a, b), k) {
						return n, false
					}
				}
				return 0, true
			})
		}
	}
}
