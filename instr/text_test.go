package instr_test

import (
	"math"
	"strings"
	"testing"

	"ratchet/api"
	"ratchet/instr"
	"ratchet/types"
)

func tells(t *testing.T, i api.Instr, want string) {
	t.Helper()
	before := told(i)
	if s := instr.Text(i); s != want {
		t.Errorf("Text(%.300s): %.300q, not %.300q", before, s, want)
	}
	if told(i) != before {
		t.Errorf("Text(%.300s) changes its argument", before)
	}
}

func TestIS4Examples(t *testing.T) {
	for digits, want := range map[string]string{
		"41 7f": "i32.const -1", "28 02 04": "i32.load offset=4 align=4", "fb 18 03 00 6e 6b": "br_on_cast 0 (ref null any) (ref null struct)", "0e 02 00 01 02": "br_table 0 1 2",
	} {
		i, _, _ := instr.Read(bin(digits), 0)
		tells(t, i, want)
	}
}

func TestIS4NoInstruction(t *testing.T) {
	rows := byOp()
	for _, op := range anyOps() {
		if _, is := rows[op]; is {
			continue
		}
		if s := instr.Text(api.Instr{Op: op}); s != "?" {
			t.Errorf("Text of %x: %q", op, s)
		}
	}
	full := noise()
	full.Op = 0xfd
	tells(t, full, "?")
}

// The name stands alone, whatever stands in fields that the form doesn't have.
func TestIS4Names(t *testing.T) {
	for _, r := range table() {
		if r.form == "-" {
			tells(t, api.Instr{Op: r.op}, r.name)
			tells(t, filled(api.Instr{Op: r.op}), r.name)
		}
		if s := instr.Text(filled(api.Instr{Op: r.op})); s != r.name && !strings.HasPrefix(s, r.name+" ") || strings.Contains(s, "  ") || strings.HasSuffix(s, " ") {
			t.Errorf("Text of %s: %q", r.name, s)
		}
	}
}

func TestIS4Indices(t *testing.T) {
	for _, r := range table() {
		switch r.form {
		case "x":
			tells(t, filled(api.Instr{Op: r.op, X: 12}), r.name+" 12")
			tells(t, api.Instr{Op: r.op, X: math.MaxUint32}, r.name+" 4294967295")
			tells(t, api.Instr{Op: r.op}, r.name+" 0")
		case "xy":
			tells(t, filled(api.Instr{Op: r.op, X: 12, Y: 34}), r.name+" 12 34")
			tells(t, api.Instr{Op: r.op, Y: math.MaxUint32}, r.name+" 0 4294967295")
		}
	}
	tells(t, filled(api.Instr{Op: 0xfb08, X: 3, N: 40}), "array.new_fixed 3 40")
	tells(t, withN("array.new_fixed", math.MaxUint64), "array.new_fixed 0 18446744073709551615")
	tells(t, of("br_table"), "br_table 0")
	tells(t, filled(api.Instr{Op: 0x0e, X: 5}), "br_table 5")
	tells(t, filled(api.Instr{Op: 0x0e, Labels: []uint32{1}, X: 5}), "br_table 1 5")
	tells(t, api.Instr{Op: 0x0e, Labels: []uint32{3, math.MaxUint32, 0}, X: 7}, "br_table 3 4294967295 0 7")
}

func TestIS4Blocks(t *testing.T) {
	for _, c := range []struct {
		b    api.Block
		want string
	}{
		{bare(), ""}, {api.Block{}, " (type 0)"}, {api.Block{Type: 17}, " (type 17)"}, {api.Block{Type: math.MaxInt32}, " (type 2147483647)"},
		{result(num(api.TI32)), " (result i32)"}, {result(num(api.TF64)), " (result f64)"}, {result(refNull(api.HAny)), " (result (ref null any))"}, {result(ref(3)), " (result (ref 3))"},
		{result(num(99)), " (result ?)"}, {result(num(api.T8)), " (result i8)"},
		// A type's number is told, and not a result that should not stand beside it.
		{api.Block{Type: 4, Result: num(api.TI32)}, " (type 4)"},
		{api.Block{Type: -2}, ""}, {api.Block{Type: math.MinInt, Result: num(api.TI64)}, " (result i64)"},
	} {
		for _, name := range []string{"block", "loop", "if", "try_table"} {
			tells(t, withBlock(name, c.b), name+c.want)
			tells(t, filled(withBlock(name, c.b)), name+c.want)
			i := withBlock(name, c.b)
			i.Body, i.Else, i.HasElse = []api.Instr{of("nop")}, []api.Instr{of("nop")}, true
			tells(t, i, name+c.want)
		}
		tells(t, withBlock("try_table", c.b, api.Catch{Kind: 2, Label: 9}), "try_table"+c.want+" (catch_all 9)")
	}
}

func TestIS4Clauses(t *testing.T) {
	tells(t, withBlock("try_table", bare(), api.Catch{Kind: 0, Tag: 1, Label: 2}), "try_table (catch 1 2)")
	tells(t, withBlock("try_table", result(num(api.TI32)), api.Catch{Kind: 0, Tag: 1, Label: 2}, api.Catch{Kind: 1, Tag: 3, Label: 4}, api.Catch{Kind: 2, Label: 5}, api.Catch{Kind: 3, Label: math.MaxUint32}),
		"try_table (result i32) (catch 1 2) (catch_ref 3 4) (catch_all 5) (catch_all_ref 4294967295)")
	tells(t, withBlock("try_table", bare(), api.Catch{Kind: 1}, api.Catch{Kind: 0}), "try_table (catch_ref 0 0) (catch 0 0)")
	tells(t, withBlock("try_table", bare(), api.Catch{Kind: 2, Tag: 8, Label: 5}, api.Catch{Kind: 3, Tag: 8, Label: 6}), "try_table (catch_all 5) (catch_all_ref 6)")
	for _, kind := range []int{4, -1, 256, math.MaxInt, math.MinInt} {
		tells(t, withBlock("try_table", bare(), api.Catch{Kind: kind, Tag: 1, Label: 2}, api.Catch{Kind: 3}), "try_table ? (catch_all_ref 0)")
	}
}

func TestIS4TypesOfASelect(t *testing.T) {
	tells(t, of("select_t"), "select_t (result)")
	tells(t, filled(withTypes("select_t", num(api.TI32))), "select_t (result i32)")
	tells(t, withTypes("select_t", num(api.TI64), refNull(api.HFunc), ref(7), num(99)), "select_t (result i64 (ref null func) (ref 7) ?)")
}

func TestIS4Memories(t *testing.T) {
	for _, c := range []struct {
		m    api.MemArg
		want string
	}{
		{api.MemArg{}, "align=1"}, {api.MemArg{Align: 2}, "align=4"}, {api.MemArg{Align: 3, Offset: 4}, "offset=4 align=8"},
		{api.MemArg{Align: 1, Mem: 5}, "5 align=2"}, {api.MemArg{Align: 1, Mem: 5, Offset: 6}, "5 offset=6 align=2"},
		{api.MemArg{Mem: math.MaxUint32, Offset: math.MaxUint64}, "4294967295 offset=18446744073709551615 align=1"},
		{api.MemArg{Align: 31}, "align=2147483648"}, {api.MemArg{Align: 32}, "align=4294967296"},
		{api.MemArg{Align: 0x3f}, "align=9223372036854775808"}, {api.MemArg{Align: 0x40}, "align=?"}, {api.MemArg{Align: 0x41, Mem: 1, Offset: 2}, "1 offset=2 align=?"}, {api.MemArg{Align: math.MaxUint32}, "align=?"},
	} {
		for _, r := range table() {
			if r.form == "mem" {
				tells(t, filled(api.Instr{Op: r.op, Mem: c.m}), r.name+" "+c.want)
			}
		}
	}
}

func TestIS4Constants(t *testing.T) {
	for _, c := range []struct {
		name string
		n    uint64
		want string
	}{
		{"i32.const", 0, "0"}, {"i32.const", 7, "7"}, {"i32.const", math.MaxInt32, "2147483647"}, {"i32.const", 1 << 31, "-2147483648"}, {"i32.const", math.MaxUint32, "-1"},
		{"i64.const", 0, "0"}, {"i64.const", math.MaxUint32, "4294967295"}, {"i64.const", 1 << 31, "2147483648"}, {"i64.const", math.MaxInt64, "9223372036854775807"}, {"i64.const", 1 << 63, "-9223372036854775808"}, {"i64.const", math.MaxUint64, "-1"},
		{"f32.const", 0, "0x00000000"}, {"f32.const", 1, "0x00000001"}, {"f32.const", 0x3f800000, "0x3f800000"}, {"f32.const", 0xffc00001, "0xffc00001"}, {"f32.const", math.MaxUint32, "0xffffffff"},
		{"f64.const", 0, "0x0000000000000000"}, {"f64.const", 0xabc, "0x0000000000000abc"}, {"f64.const", 0x7ff8000000000001, "0x7ff8000000000001"}, {"f64.const", math.MaxUint64, "0xffffffffffffffff"},
		// Of 32 bits the others count for nothing.
		{"i32.const", 1<<32 + 5, "5"}, {"i32.const", 1<<63 + 1<<31, "-2147483648"}, {"f32.const", 0x12345678_9abcdef0, "0x9abcdef0"},
	} {
		tells(t, withN(c.name, c.n), c.name+" "+c.want)
		tells(t, filled(withN(c.name, c.n)), c.name+" "+c.want)
	}
}

func TestIS4References(t *testing.T) {
	for _, h := range shortHeaps() {
		tells(t, withTypes("ref.null", refNull(h)), "ref.null "+types.HeapText(h))
		for _, name := range []string{"ref.test", "ref.test_null", "ref.cast", "ref.cast_null"} {
			tells(t, withTypes(name, ref(h)), name+" "+types.Text(ref(h)))
			tells(t, withTypes(name, refNull(h)), name+" "+types.Text(refNull(h)))
		}
	}
	tells(t, withTypes("ref.null", refNull(api.HNoExn)), "ref.null noexn")
	tells(t, withTypes("ref.null", refNull(12)), "ref.null 12")
	tells(t, withTypes("ref.null", refNull(-50)), "ref.null ?")
	tells(t, withTypes("ref.test", ref(api.HI31)), "ref.test (ref i31)")
	tells(t, withTypes("ref.cast_null", refNull(3)), "ref.cast_null (ref null 3)")
	tells(t, withTypes("ref.cast", num(api.TI32)), "ref.cast i32")
	for _, name := range []string{"ref.null", "ref.test", "ref.test_null", "ref.cast", "ref.cast_null"} {
		tells(t, of(name), name+" ?")
	}
	tells(t, withTypes("ref.test", ref(1), ref(2)), "ref.test (ref 1)")
}

func TestIS4Branches(t *testing.T) {
	for _, name := range []string{"br_on_cast", "br_on_cast_fail"} {
		tells(t, of(name), name+" 0 ? ?")
		tells(t, withTypes(name, ref(4)), name+" 0 (ref 4) ?")
		tells(t, filled(api.Instr{Op: named(name), X: 6, Types: []api.ValType{refNull(api.HAny), ref(4)}}), name+" 6 (ref null any) (ref 4)")
		tells(t, withTypes(name, ref(1), ref(2), ref(3)), name+" 0 (ref 1) (ref 2)")
		tells(t, withTypes(name, num(99), num(api.TF32)), name+" 0 ? f32")
	}
}
