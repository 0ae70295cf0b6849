package instr_test

import (
	"math"
	"slices"
	"strings"
	"testing"

	"ratchet/api"
	"ratchet/instr"
)

// typeWord is the type that a word names.
func typeWord(s string) api.ValType {
	return map[string]api.ValType{"i32": num(api.TI32), "i64": num(api.TI64), "f32": num(api.TF32), "f64": num(api.TF64)}[s]
}

// wantSig is what an operator's name says of what it takes and answers.
func wantSig(name string) (takes, gives []api.ValType) {
	ahead, word, _ := strings.Cut(name, ".")
	own := typeWord(ahead)
	if word == "const" {
		return nil, []api.ValType{own}
	}
	for _, s := range []string{"i32", "i64", "f32", "f64"} {
		if strings.Contains(word, "_"+s) {
			return []api.ValType{typeWord(s)}, []api.ValType{own}
		}
	}
	takes = []api.ValType{own, own}
	if strings.Contains(" eqz clz ctz popcnt abs neg ceil floor trunc nearest sqrt extend8_s extend16_s extend32_s ", " "+word+" ") {
		takes = takes[:1]
	}
	if strings.Contains(" eqz eq ne lt lt_s lt_u gt gt_s gt_u le le_s le_u ge ge_s ge_u ", " "+word+" ") {
		return takes, []api.ValType{num(api.TI32)}
	}
	return takes, []api.ValType{own}
}

func TestIS5Sig(t *testing.T) {
	rows := byOp()
	for _, op := range anyOps() {
		takes, gives, fault := []api.ValType(nil), []api.ValType(nil), api.ErrNone
		if 0x41 <= op && op <= 0xc4 || 0xfc00 <= op && op <= 0xfc07 {
			takes, gives = wantSig(rows[op].name)
			fault = api.OK
		}
		if a, b, e := instr.Sig(op); !slices.Equal(a, takes) || !slices.Equal(b, gives) || e != fault {
			t.Errorf("Sig(%x): %v, %v, %d, not %v, %v, %d", op, a, b, e, takes, gives, fault)
		}
	}
}

func TestIS5SigOneByOne(t *testing.T) {
	i32, i64, f32, f64 := api.TI32, api.TI64, api.TF32, api.TF64
	for _, c := range []struct {
		op    int
		takes []int
		gives []int
	}{
		{0x41, nil, []int{i32}}, {0x42, nil, []int{i64}}, {0x43, nil, []int{f32}}, {0x44, nil, []int{f64}},
		{0x45, []int{i32}, []int{i32}}, {0x4f, []int{i32, i32}, []int{i32}}, {0x50, []int{i64}, []int{i32}}, {0x51, []int{i64, i64}, []int{i32}}, {0x5a, []int{i64, i64}, []int{i32}},
		{0x5b, []int{f32, f32}, []int{i32}}, {0x60, []int{f32, f32}, []int{i32}}, {0x61, []int{f64, f64}, []int{i32}}, {0x66, []int{f64, f64}, []int{i32}},
		{0x67, []int{i32}, []int{i32}}, {0x69, []int{i32}, []int{i32}}, {0x6a, []int{i32, i32}, []int{i32}}, {0x78, []int{i32, i32}, []int{i32}},
		{0x79, []int{i64}, []int{i64}}, {0x7b, []int{i64}, []int{i64}}, {0x7c, []int{i64, i64}, []int{i64}}, {0x8a, []int{i64, i64}, []int{i64}},
		{0x8b, []int{f32}, []int{f32}}, {0x91, []int{f32}, []int{f32}}, {0x92, []int{f32, f32}, []int{f32}}, {0x98, []int{f32, f32}, []int{f32}},
		{0x99, []int{f64}, []int{f64}}, {0x9f, []int{f64}, []int{f64}}, {0xa0, []int{f64, f64}, []int{f64}}, {0xa6, []int{f64, f64}, []int{f64}},
		{0xa7, []int{i64}, []int{i32}}, {0xa8, []int{f32}, []int{i32}}, {0xab, []int{f64}, []int{i32}}, {0xac, []int{i32}, []int{i64}}, {0xaf, []int{f32}, []int{i64}}, {0xb1, []int{f64}, []int{i64}},
		{0xb2, []int{i32}, []int{f32}}, {0xb5, []int{i64}, []int{f32}}, {0xb6, []int{f64}, []int{f32}}, {0xb8, []int{i32}, []int{f64}}, {0xb9, []int{i64}, []int{f64}}, {0xbb, []int{f32}, []int{f64}},
		{0xbc, []int{f32}, []int{i32}}, {0xbd, []int{f64}, []int{i64}}, {0xbe, []int{i32}, []int{f32}}, {0xbf, []int{i64}, []int{f64}},
		{0xc0, []int{i32}, []int{i32}}, {0xc1, []int{i32}, []int{i32}}, {0xc2, []int{i64}, []int{i64}}, {0xc4, []int{i64}, []int{i64}},
		{0xfc00, []int{f32}, []int{i32}}, {0xfc03, []int{f64}, []int{i32}}, {0xfc04, []int{f32}, []int{i64}}, {0xfc07, []int{f64}, []int{i64}},
	} {
		takes, gives, e := instr.Sig(c.op)
		if !slices.Equal(takes, nums(c.takes)) || !slices.Equal(gives, nums(c.gives)) || e != api.OK {
			t.Errorf("Sig(%x): %v, %v, %d", c.op, takes, gives, e)
		}
	}
	for _, op := range []int{0x40, 0x28, 0x3f, 0xc5, 0xd0, 0, -1, 0xfbff, 0xfc08, 0xfc11, 0xfb1c, math.MinInt, math.MaxInt} {
		if takes, gives, e := instr.Sig(op); len(takes)+len(gives) != 0 || e != api.ErrNone {
			t.Errorf("Sig(%x): %v, %v, %d", op, takes, gives, e)
		}
	}
}

func nums(l []int) []api.ValType {
	var out []api.ValType
	for _, n := range l {
		out = append(out, num(n))
	}
	return out
}

func TestIS5SigNewMemory(t *testing.T) {
	takes, gives, _ := instr.Sig(0xa8)
	clear(takes)
	clear(gives)
	if takes, gives, _ = instr.Sig(0xa8); !slices.Equal(takes, nums([]int{api.TF32})) || !slices.Equal(gives, nums([]int{api.TI32})) {
		t.Errorf("Sig, once its answer was changed: %v, %v", takes, gives)
	}
}

// wantWidth is what the name of a load or store says of it.
func wantWidth(name string) (v api.ValType, bytes int, store, signed bool) {
	ahead, word, _ := strings.Cut(name, ".")
	bytes = map[string]int{"i32": 4, "i64": 8, "f32": 4, "f64": 8}[ahead]
	for digits, n := range map[string]int{"8": 1, "16": 2, "32": 4} {
		if strings.Contains(word, digits) {
			bytes = n
		}
	}
	return typeWord(ahead), bytes, strings.HasPrefix(word, "store"), strings.HasSuffix(word, "_s")
}

func TestIS5Width(t *testing.T) {
	rows := byOp()
	for _, op := range anyOps() {
		v, bytes, store, signed, fault := api.ValType{}, 0, false, false, api.ErrNone
		if 0x28 <= op && op <= 0x3e {
			v, bytes, store, signed = wantWidth(rows[op].name)
			fault = api.OK
		}
		if a, b, c, d, e := instr.Width(op); a != v || b != bytes || c != store || d != signed || e != fault {
			t.Errorf("Width(%x): %v, %d, %v, %v, %d, not %v, %d, %v, %v, %d", op, a, b, c, d, e, v, bytes, store, signed, fault)
		}
	}
}

func TestIS5WidthOneByOne(t *testing.T) {
	for _, c := range []struct {
		op, num, bytes int
		store, signed  bool
	}{
		{0x28, api.TI32, 4, false, false}, {0x29, api.TI64, 8, false, false}, {0x2a, api.TF32, 4, false, false}, {0x2b, api.TF64, 8, false, false},
		{0x2c, api.TI32, 1, false, true}, {0x2d, api.TI32, 1, false, false}, {0x2e, api.TI32, 2, false, true}, {0x2f, api.TI32, 2, false, false},
		{0x30, api.TI64, 1, false, true}, {0x31, api.TI64, 1, false, false}, {0x32, api.TI64, 2, false, true}, {0x33, api.TI64, 2, false, false}, {0x34, api.TI64, 4, false, true}, {0x35, api.TI64, 4, false, false},
		{0x36, api.TI32, 4, true, false}, {0x37, api.TI64, 8, true, false}, {0x38, api.TF32, 4, true, false}, {0x39, api.TF64, 8, true, false},
		{0x3a, api.TI32, 1, true, false}, {0x3b, api.TI32, 2, true, false}, {0x3c, api.TI64, 1, true, false}, {0x3d, api.TI64, 2, true, false}, {0x3e, api.TI64, 4, true, false},
	} {
		if v, n, store, signed, e := instr.Width(c.op); v != num(c.num) || n != c.bytes || store != c.store || signed != c.signed || e != api.OK {
			t.Errorf("Width(%x): %v, %d, %v, %v, %d", c.op, v, n, store, signed, e)
		}
	}
}
