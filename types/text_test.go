package types_test

import (
	"math"
	"testing"

	"ratchet/api"
	"ratchet/types"
)

func num(n int) api.ValType { return api.ValType{Num: n} }

func ref(heap int) api.ValType { return api.ValType{Num: api.TRef, Heap: heap} }

func refNull(heap int) api.ValType { return api.ValType{Num: api.TRef, Null: true, Heap: heap} }

func vals(l ...api.ValType) []api.ValType { return l }

func fixed(v api.ValType) api.Field { return api.Field{Type: v} }

func mut(v api.ValType) api.Field { return api.Field{Type: v, Mut: true} }

func function(params, results []api.ValType) api.CompType {
	return api.CompType{Kind: api.CFunc, Params: params, Results: results}
}

func structure(l ...api.Field) api.CompType { return api.CompType{Kind: api.CStruct, Fields: l} }

func array(l ...api.Field) api.CompType { return api.CompType{Kind: api.CArray, Fields: l} }

func final(c api.CompType, supers ...int) api.SubType {
	return api.SubType{Final: true, Supers: supers, Comp: c}
}

func open(c api.CompType, supers ...int) api.SubType { return api.SubType{Supers: supers, Comp: c} }

func alone(s api.SubType) api.RecType { return api.RecType{Types: []api.SubType{s}} }

func group(l ...api.SubType) api.RecType { return api.RecType{Types: l, Explicit: true} }

// abstractWords are the words of the abstract heap types, from HFunc downward.
func abstractWords() []string {
	return []string{"func", "nofunc", "extern", "noextern", "any", "eq", "i31", "struct", "array", "none", "exn", "noexn"}
}

func TestTY1HeapText(t *testing.T) {
	for i, word := range abstractWords() {
		if s := types.HeapText(-1 - i); s != word {
			t.Errorf("HeapText(%d): %s, not %s", -1-i, s, word)
		}
	}
	for _, c := range []struct {
		h int
		s string
	}{
		{api.HFunc, "func"}, {api.HAny, "any"}, {api.HNone, "none"}, {api.HNoExn, "noexn"},
		{0, "0"}, {1, "1"}, {10, "10"}, {9999, "9999"}, {999999999, "999999999"},
		{-100, "rec.0"}, {-101, "rec.1"}, {-110, "rec.10"}, {-100 - 999999999, "rec.999999999"},
		{-13, "?"}, {-14, "?"}, {-50, "?"}, {-99, "?"},
		// Ten digits and more are told too, though no such text is read.
		{1000000000, "1000000000"}, {math.MaxInt, "9223372036854775807"}, {math.MinInt, "rec.9223372036854775708"},
	} {
		if s := types.HeapText(c.h); s != c.s {
			t.Errorf("HeapText(%d): %s, not %s", c.h, s, c.s)
		}
	}
}

func TestTY1Text(t *testing.T) {
	for _, c := range []struct {
		v api.ValType
		s string
	}{
		{num(api.TI32), "i32"}, {num(api.TI64), "i64"}, {num(api.TF32), "f32"}, {num(api.TF64), "f64"},
		{num(api.T8), "i8"}, {num(api.T16), "i16"},
		{refNull(api.HAny), "(ref null any)"}, {ref(api.HAny), "(ref any)"},
		{ref(0), "(ref 0)"}, {refNull(12), "(ref null 12)"}, {ref(-103), "(ref rec.3)"}, {refNull(-100), "(ref null rec.0)"},
		{num(api.TNone), "?"}, {num(8), "?"}, {num(-1), "?"}, {num(math.MaxInt), "?"}, {num(math.MinInt), "?"},
		{ref(-13), "(ref ?)"}, {refNull(-99), "(ref null ?)"},
		// What stands in Null and Heap of no reference counts for nothing.
		{api.ValType{Num: api.TI64, Null: true, Heap: -13}, "i64"}, {api.ValType{Num: 9, Null: true, Heap: 3}, "?"},
	} {
		if s := types.Text(c.v); s != c.s {
			t.Errorf("Text(%v): %s, not %s", c.v, s, c.s)
		}
	}
	for i, word := range abstractWords() {
		if s := types.Text(ref(-1 - i)); s != "(ref "+word+")" {
			t.Errorf("Text of %s: %s", word, s)
		}
		if s := types.Text(refNull(-1 - i)); s != "(ref null "+word+")" {
			t.Errorf("Text of %s: %s", word, s)
		}
	}
}

func TestTY1CompText(t *testing.T) {
	i32, f64 := num(api.TI32), num(api.TF64)
	for _, c := range []struct {
		c api.CompType
		s string
	}{
		{function(nil, nil), "(func)"},
		{function(vals(), vals()), "(func)"},
		{function(vals(i32), nil), "(func (param i32))"},
		{function(nil, vals(i32)), "(func (result i32))"},
		{function(vals(i32, f64), vals(f64, ref(3))), "(func (param i32 f64) (result f64 (ref 3)))"},
		{function(vals(num(0), refNull(-13)), vals(num(99))), "(func (param ? (ref null ?)) (result ?))"},
		{structure(), "(struct)"},
		{structure([]api.Field{}...), "(struct)"},
		{structure(fixed(i32)), "(struct (field i32))"},
		{structure(mut(num(api.T8)), fixed(ref(0))), "(struct (field (mut i8) (ref 0)))"},
		{structure(mut(refNull(api.HEq)), mut(num(-3))), "(struct (field (mut (ref null eq)) (mut ?)))"},
		{array(fixed(num(api.T16))), "(array i16)"},
		{array(mut(ref(-100))), "(array (mut (ref rec.0)))"},
		{array(fixed(num(8))), "(array ?)"},
		{array(), "(array ?)"},
		{array(fixed(i32), fixed(i32)), "(array ?)"},
		{api.CompType{}, "?"},
		{api.CompType{Kind: 4}, "?"},
		{api.CompType{Kind: -1, Params: vals(i32), Fields: []api.Field{fixed(i32)}}, "?"},
		{api.CompType{Kind: math.MaxInt}, "?"},
	} {
		if s := types.CompText(c.c); s != c.s {
			t.Errorf("CompText(%v): %s, not %s", c.c, s, c.s)
		}
	}
}

func TestTY1SubText(t *testing.T) {
	nothing := function(nil, nil)
	for _, c := range []struct {
		s    api.SubType
		text string
	}{
		{final(nothing), "(func)"},
		{final(nothing, []int{}...), "(func)"},
		{open(nothing), "(sub (func))"},
		{open(nothing, 0), "(sub 0 (func))"},
		{final(nothing, 17), "(sub final 17 (func))"},
		{open(structure(), 2, 1, 2), "(sub 2 1 2 (struct))"},
		{final(array(mut(num(api.TI32))), -100, 5, -107), "(sub final rec.0 5 rec.7 (array (mut i32)))"},
		{final(api.CompType{}), "?"},
		{open(api.CompType{}), "(sub ?)"},
		{final(api.CompType{Kind: 4}, 0), "(sub final 0 ?)"},
		// What is declared above has the forms of numbers alone.
		{open(nothing, -13, -99, api.HAny), "(sub ? ? ? (func))"},
	} {
		if s := types.SubText(c.s); s != c.text {
			t.Errorf("SubText(%v): %s, not %s", c.s, s, c.text)
		}
	}
}

func TestTY1RecText(t *testing.T) {
	one, two := final(function(nil, nil)), open(structure(mut(num(api.T8)), fixed(ref(0))), 0)
	for _, c := range []struct {
		r api.RecType
		s string
	}{
		{alone(final(structure(mut(num(api.T8)), fixed(ref(0))))), "(struct (field (mut i8) (ref 0)))"},
		{alone(one), "(func)"},
		{alone(two), "(sub 0 (struct (field (mut i8) (ref 0))))"},
		{group(one), "(rec (func))"},
		{group(two), "(rec (sub 0 (struct (field (mut i8) (ref 0)))))"},
		{group(one, two), "(rec (func) (sub 0 (struct (field (mut i8) (ref 0)))))"},
		{api.RecType{Types: []api.SubType{one, one}}, "(rec (func) (func))"},
		{group(one, one, one), "(rec (func) (func) (func))"},
		{api.RecType{}, "(rec)"},
		{api.RecType{Types: []api.SubType{}}, "(rec)"},
		{api.RecType{Explicit: true}, "(rec)"},
		{alone(api.SubType{}), "(sub ?)"},
		{group(final(array()), final(api.CompType{Kind: 9})), "(rec (array ?) ?)"},
	} {
		if s := types.RecText(c.r); s != c.s {
			t.Errorf("RecText(%v): %s, not %s", c.r, s, c.s)
		}
	}
}

// Of texts that a generator wrote beside the groups.
func TestTY1RecTextOfMany(t *testing.T) {
	g := newGenerator(1)
	for range 3000 {
		r, text := g.rec()
		if s := types.RecText(r); s != text {
			t.Fatalf("RecText(%v): %s, not %s", r, s, text)
		}
	}
}
