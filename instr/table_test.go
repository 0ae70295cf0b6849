package instr_test

import (
	"math"
	"slices"
	"strconv"
	"strings"
	"testing"

	"ratchet/api"
	"ratchet/instr"
)

// chapter is the chapter's table of opcodes, names and forms, without its remarks in brackets.
const chapter = `
00 01 | unreachable nop | -
02 03 04 | block loop if | block
05 0B | else end | -
08 | throw | x
0A 0F | throw_ref return | -
0C 0D | br br_if | x
0E | br_table | table
10 12 | call return_call | x
11 13 | call_indirect return_call_indirect | xy
14 15 | call_ref return_call_ref | x
1A 1B | drop select | -
1C | select_t | select
1F | try_table | try
20 to 26 | local.get local.set local.tee global.get global.set table.get table.set | x
28 to 3E | i32.load i64.load f32.load f64.load i32.load8_s i32.load8_u i32.load16_s i32.load16_u i64.load8_s i64.load8_u i64.load16_s i64.load16_u i64.load32_s i64.load32_u i32.store i64.store f32.store f64.store i32.store8 i32.store16 i64.store8 i64.store16 i64.store32 | mem
3F 40 | memory.size memory.grow | x
41 42 43 44 | i32.const i64.const f32.const f64.const | i32 i64 f32 f64
45 to 4F | i32. eqz eq ne lt_s lt_u gt_s gt_u le_s le_u ge_s ge_u | -
50 to 5A | i64. the same | -
5B to 60 | f32. eq ne lt gt le ge | -
61 to 66 | f64. the same | -
67 to 78 | i32. clz ctz popcnt add sub mul div_s div_u rem_s rem_u and or xor shl shr_s shr_u rotl rotr | -
79 to 8A | i64. the same | -
8B to 98 | f32. abs neg ceil floor trunc nearest sqrt add sub mul div min max copysign | -
99 to A6 | f64. the same | -
A7 to AB | i32. wrap_i64 trunc_f32_s trunc_f32_u trunc_f64_s trunc_f64_u | -
AC to B1 | i64. extend_i32_s extend_i32_u trunc_f32_s trunc_f32_u trunc_f64_s trunc_f64_u | -
B2 to B6 | f32. convert_i32_s convert_i32_u convert_i64_s convert_i64_u demote_f64 | -
B7 to BB | f64. convert_i32_s convert_i32_u convert_i64_s convert_i64_u promote_f32 | -
BC BD BE BF | i32.reinterpret_f32 i64.reinterpret_f64 f32.reinterpret_i32 f64.reinterpret_i64 | -
C0 to C4 | i32.extend8_s i32.extend16_s i64.extend8_s i64.extend16_s i64.extend32_s | -
D0 | ref.null | heap
D1 D3 D4 | ref.is_null ref.eq ref.as_non_null | -
D2 D5 D6 | ref.func br_on_null br_on_non_null | x
FB00 FB01 | struct.new struct.new_default | x
FB02 to FB05 | struct.get struct.get_s struct.get_u struct.set | xy
FB06 FB07 | array.new array.new_default | x
FB08 | array.new_fixed | xn
FB09 FB0A | array.new_data array.new_elem | xy
FB0B to FB0E | array.get array.get_s array.get_u array.set | x
FB0F | array.len | -
FB10 | array.fill | x
FB11 FB12 FB13 | array.copy array.init_data array.init_elem | xy
FB14 FB15 FB16 FB17 | ref.test ref.test_null ref.cast ref.cast_null | cast
FB18 FB19 | br_on_cast br_on_cast_fail | br_cast
FB1A FB1B FB1C FB1D FB1E | any.convert_extern extern.convert_any ref.i31 i31.get_s i31.get_u | -
FC00 to FC07 | i32.trunc_sat_f32_s i32.trunc_sat_f32_u i32.trunc_sat_f64_s i32.trunc_sat_f64_u i64.trunc_sat_f32_s i64.trunc_sat_f32_u i64.trunc_sat_f64_s i64.trunc_sat_f64_u | -
FC08 | memory.init | xy
FC09 | data.drop | x
FC0A | memory.copy | xy
FC0B | memory.fill | x
FC0C | table.init | xy
FC0D | elem.drop | x
FC0E | table.copy | xy
FC0F FC10 FC11 | table.grow table.size table.fill | x
`

// row is what the table says of one opcode.
type row struct {
	op         int
	name, form string
}

// table is the chapter's, opcode by opcode, in the order in which it tells them.
func table() []row { return allRows }

// byOp is the table by opcodes.
func byOp() map[int]row { return rowsByOp }

var (
	allRows  = parsed()
	rowsByOp = ordered()
)

func ordered() map[int]row {
	rows := map[int]row{}
	for _, r := range allRows {
		rows[r.op] = r
	}
	return rows
}

func parsed() []row {
	var out []row
	var last []string
	for _, line := range strings.Split(strings.TrimSpace(chapter), "\n") {
		columns := strings.Split(line, " | ")
		ops, names, forms := opcodes(columns[0]), strings.Fields(columns[1]), strings.Fields(columns[2])
		ahead := ""
		if strings.HasSuffix(names[0], ".") {
			ahead, names = names[0], names[1:]
		}
		if slices.Equal(names, []string{"the", "same"}) {
			names = last
		}
		last = names
		if len(ops) != len(names) {
			panic(line)
		}
		for n, op := range ops {
			out = append(out, row{op, ahead + names[n], forms[min(n, len(forms)-1)]})
		}
	}
	return out
}

// opcodes are those of a column: each by itself, or from one to another.
func opcodes(column string) []int {
	var out []int
	words := strings.Fields(column)
	for n, w := range words {
		op, err := strconv.ParseInt(w, 16, 32)
		switch {
		case err == nil && n == 2 && words[1] == "to":
			for out[len(out)-1] < int(op) {
				out = append(out, out[len(out)-1]+1)
			}
		case err == nil:
			out = append(out, int(op))
		}
	}
	return out
}

// named is the opcode of a name of the table.
func named(name string) int {
	for _, r := range table() {
		if r.name == name {
			return r.op
		}
	}
	panic(name)
}

// ofForm are the opcodes of a form.
func ofForm(form string) []int {
	var out []int
	for _, r := range table() {
		if r.form == form {
			out = append(out, r.op)
		}
	}
	return out
}

// forms are the forms' words, each once.
func forms() []string {
	return strings.Fields("- block try x xy table select mem i32 i64 f32 f64 heap cast br_cast xn")
}

// anyOps are all opcodes, those beside them, those that only a part of the number would make one, and numbers at their ends.
func anyOps() []int {
	out := []int{math.MinInt, math.MinInt + 1, math.MinInt32, math.MaxInt32, math.MaxUint32, math.MaxInt - 1, math.MaxInt}
	for op := -0x300; op < 0x10200; op++ {
		out = append(out, op)
	}
	for _, r := range table() {
		out = append(out, -r.op-1, r.op-1<<16, r.op+1<<16, r.op+1<<32, r.op<<8, math.MinInt+r.op)
	}
	return out
}

func TestIS1Table(t *testing.T) {
	rows := byOp()
	for _, op := range anyOps() {
		want := rows[op]
		if s := instr.Name(op); s != want.name {
			t.Errorf("Name(%x): %q, not %q", op, s, want.name)
		}
		if s := instr.Form(op); s != want.form {
			t.Errorf("Form(%x): %q, not %q", op, s, want.form)
		}
	}
	for _, r := range table() {
		if op, e := instr.Op(r.name); op != r.op || e != api.OK {
			t.Errorf("Op(%q): %x, %d, not %x", r.name, op, e, r.op)
		}
	}
}

func TestIS1OneByOne(t *testing.T) {
	for _, c := range []row{
		{0x00, "unreachable", "-"}, {0x02, "block", "block"}, {0x04, "if", "block"}, {0x05, "else", "-"}, {0x0b, "end", "-"},
		{0x06, "", ""}, {0x07, "", ""}, {0x09, "", ""}, {0x16, "", ""}, {0x19, "", ""}, {0x1d, "", ""}, {0x1e, "", ""}, {0x27, "", ""},
		{0x0a, "throw_ref", "-"}, {0x0e, "br_table", "table"}, {0x1c, "select_t", "select"}, {0x1f, "try_table", "try"},
		{0x28, "i32.load", "mem"}, {0x3e, "i64.store32", "mem"}, {0x3f, "memory.size", "x"},
		{0x41, "i32.const", "i32"}, {0x42, "i64.const", "i64"}, {0x43, "f32.const", "f32"}, {0x44, "f64.const", "f64"},
		{0x50, "i64.eqz", "-"}, {0xa6, "f64.copysign", "-"}, {0xc4, "i64.extend32_s", "-"}, {0xc5, "", ""}, {0xcf, "", ""}, {0xd7, "", ""},
		{0xd0, "ref.null", "heap"}, {0xfa, "", ""}, {0xfb, "", ""}, {0xfc, "", ""}, {0xfd, "", ""}, {0xff, "", ""}, {0x100, "", ""},
		{0xfaff, "", ""}, {0xfb00, "struct.new", "x"}, {0xfb08, "array.new_fixed", "xn"}, {0xfb17, "ref.cast_null", "cast"},
		{0xfb19, "br_on_cast_fail", "br_cast"}, {0xfb1e, "i31.get_u", "-"}, {0xfb1f, "", ""}, {0xfbff, "", ""},
		{0xfc00, "i32.trunc_sat_f32_s", "-"}, {0xfc08, "memory.init", "xy"}, {0xfc11, "table.fill", "x"}, {0xfc12, "", ""}, {0xfd00, "", ""},
		{-1, "", ""}, {math.MinInt, "", ""}, {math.MaxInt, "", ""},
	} {
		if s, f := instr.Name(c.op), instr.Form(c.op); s != c.name || f != c.form {
			t.Errorf("%x: %q, %q, not %q, %q", c.op, s, f, c.name, c.form)
		}
	}
}

func TestIS1NamesThatAreNone(t *testing.T) {
	names := []string{
		"", " ", "-", "?", ".", "the same", "i32", "i32.", "i64.", "f32.", "array.", "struct.", "memory.", "eqz", "add", "size", "new", "nothing",
		"i32.nothing", "i32.demote_f64", "f32.promote_f32", "f32.eqz", "f32.lt_s", "i64.wrap_i64", "i32.extend32_s", "f32.load8_s",
		"unreachable nop", "i32.eqz eq", "i32.i32.add", "i32 .add", "i32. add", "select_t ", "NOP", "I32.add", "try", "catch", "v128.load", "nop\x00", "nop\xff", "é",
	}
	rows := map[string]bool{}
	for _, r := range table() {
		rows[r.name] = true
	}
	for _, f := range forms() {
		if !rows[f] {
			names = append(names, f)
		}
	}
	for _, r := range table() {
		names = append(names, r.name+" ", " "+r.name, r.name+"_", "."+r.name, strings.ToUpper(r.name), r.name+" "+r.name)
		for n := range r.name {
			for _, s := range []string{r.name[:n], r.name[n+1:], r.name[:n] + r.name[n+1:]} {
				if !rows[s] {
					names = append(names, s)
				}
			}
		}
	}
	for _, s := range names {
		if op, e := instr.Op(s); op != 0 || e != api.ErrNone {
			t.Errorf("Op(%q): %x, %d, not 0, ErrNone", s, op, e)
		}
	}
}

func TestIS1Ops(t *testing.T) {
	var want []int
	for _, r := range table() {
		want = append(want, r.op)
	}
	slices.Sort(want)
	got := instr.Ops()
	if !slices.Equal(got, want) || len(got) != 243 {
		t.Errorf("Ops: %d of them, %x, not %x", len(got), got, want)
	}
	clear(got)
	if again := instr.Ops(); !slices.Equal(again, want) {
		t.Errorf("Ops, once its answer was changed: %x", again)
	}
}
