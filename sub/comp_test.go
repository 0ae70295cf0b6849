package sub_test

import (
	"math"
	"testing"

	"ratchet/api"
	"ratchet/sub"
	"ratchet/types"
)

// family is a list with types of each kind, below one another; 7 is one with 0, 8 with 1.
func family() []api.RecType {
	return read(
		"(sub (struct))", "(sub 0 (struct (field i32)))",
		"(sub (func))", "(sub 2 (func))",
		"(sub (array i8))", "(sub 4 (array i8))",
		"(struct (field i64))",
		"(sub (struct))", "(sub 7 (struct (field i32)))")
}

func TestSU1Val(t *testing.T) {
	for _, c := range []struct {
		a, b string
		want bool
	}{
		{"i32", "i32", true}, {"i64", "i64", true}, {"f32", "f32", true}, {"f64", "f64", true}, {"i8", "i8", true}, {"i16", "i16", true},
		{"i32", "i64", false}, {"i32", "f32", false}, {"f32", "f64", false}, {"i8", "i16", false}, {"i8", "i32", false}, {"i32", "i8", false}, {"i16", "i32", false},
		{"i32", "(ref any)", false}, {"(ref any)", "i32", false}, {"(ref null any)", "i8", false}, {"i8", "(ref null any)", false},
		{"(ref any)", "(ref any)", true}, {"(ref null any)", "(ref null any)", true}, {"(ref any)", "(ref null any)", true}, {"(ref null any)", "(ref any)", false},
		{"(ref i31)", "(ref any)", true}, {"(ref i31)", "(ref null any)", true}, {"(ref null i31)", "(ref null any)", true}, {"(ref null i31)", "(ref any)", false}, {"(ref any)", "(ref null i31)", false},
		{"(ref null none)", "(ref null 0)", true}, {"(ref null none)", "(ref 0)", false}, {"(ref none)", "(ref 0)", true}, {"(ref null nofunc)", "(ref null 0)", false}, {"(ref null nofunc)", "(ref null 2)", true},
		{"(ref 1)", "(ref 0)", true}, {"(ref 1)", "(ref null 0)", true}, {"(ref null 1)", "(ref 0)", false}, {"(ref 0)", "(ref 1)", false}, {"(ref null 8)", "(ref null 0)", true}, {"(ref 7)", "(ref 0)", true}, {"(ref 0)", "(ref null 7)", true},
		{"(ref 2)", "(ref func)", true}, {"(ref 2)", "(ref any)", false}, {"(ref 4)", "(ref null eq)", true}, {"(ref 4)", "(ref struct)", false},
		{"(ref null exn)", "(ref null exn)", true}, {"(ref null noexn)", "(ref null exn)", true}, {"(ref extern)", "(ref any)", false},
		{"(ref 9)", "(ref 9)", false}, {"(ref 9)", "(ref any)", false}, {"(ref none)", "(ref 9)", false}, {"(ref rec.0)", "(ref rec.0)", false},
	} {
		if got := sub.Val(family(), val(c.a), val(c.b)); got != c.want {
			t.Errorf("Val(%s, %s) = %v", c.a, c.b, got)
		}
		if got := sub.Vals(family(), vals(c.a), vals(c.b)); got != c.want {
			t.Errorf("Vals(%s, %s) = %v", c.a, c.b, got)
		}
	}
}

func TestSU1ValOfWhatCounts(t *testing.T) {
	plain, odd := api.ValType{Num: api.TI64}, api.ValType{Num: api.TI64, Null: true, Heap: -99}
	if !sub.Val(nil, plain, odd) || !sub.Val(nil, odd, plain) || !sub.Val(nil, odd, odd) {
		t.Error("a number's Null and Heap count")
	}
	for _, n := range []int{api.TNone, 8, -1, math.MaxInt, math.MinInt} {
		v := api.ValType{Num: n}
		for _, w := range []api.ValType{v, val("i32"), val("i16"), ref(api.HAny), refNull(api.HNone)} {
			if sub.Val(nil, v, w) || sub.Val(nil, w, v) {
				t.Errorf("Val of %d and %v", n, w)
			}
		}
	}
}

func TestSU1Vals(t *testing.T) {
	l := family()
	for _, c := range []struct {
		a, b []api.ValType
		want bool
	}{
		{nil, nil, true}, {nil, vals(), true}, {[]api.ValType{}, nil, true},
		{vals("i32"), nil, false}, {nil, vals("i32"), false}, {vals("i32"), vals("i32", "i32"), false}, {vals("i32", "i32"), vals("i32"), false},
		{vals("i32", "i64"), vals("i32", "i64"), true}, {vals("i32", "i64"), vals("i64", "i32"), false}, {vals("i32", "i64"), vals("i32", "i32"), false},
		{vals("(ref 1)", "i32", "(ref none)"), vals("(ref null 0)", "i32", "(ref 6)"), true},
		{vals("(ref 1)", "i32", "(ref none)"), vals("(ref null 0)", "i32", "(ref 2)"), false},
		{vals("(ref 0)", "i32"), vals("(ref null 1)", "i32"), false},
	} {
		if got := sub.Vals(l, c.a, c.b); got != c.want {
			t.Errorf("Vals(%v, %v) = %v", c.a, c.b, got)
		}
	}
}

// compCases are composite types over the list family, and whether they match.
func compCases() []struct {
	a, b string
	want bool
} {
	return []struct {
		a, b string
		want bool
	}{
		// Functions: parameters the other way round.
		{"(func)", "(func)", true}, {"(func (param i32) (result i64))", "(func (param i32) (result i64))", true},
		{"(func (param (ref null 0)))", "(func (param (ref 1)))", true}, {"(func (param (ref 1)))", "(func (param (ref null 0)))", false}, {"(func (param (ref 0)))", "(func (param (ref null 0)))", false}, {"(func (param (ref null 0)))", "(func (param (ref 0)))", true},
		{"(func (result (ref 1)))", "(func (result (ref null 0)))", true}, {"(func (result (ref null 0)))", "(func (result (ref 1)))", false}, {"(func (result (ref null 0)))", "(func (result (ref 0)))", false},
		{"(func (param (ref any)) (result (ref 1)))", "(func (param (ref i31)) (result (ref 7)))", true}, {"(func (param (ref any)) (result (ref any)))", "(func (param (ref i31)) (result (ref i31)))", false},
		{"(func (param i32))", "(func)", false}, {"(func)", "(func (param i32))", false}, {"(func (result i32))", "(func)", false}, {"(func)", "(func (result i32))", false}, {"(func (param i32 i32))", "(func (param i32))", false}, {"(func (param i32))", "(func (result i32))", false},
		{"(func (param i32 (ref 0)))", "(func (param i32 (ref 1)))", true}, {"(func (param i32 (ref 0)))", "(func (param i64 (ref 1)))", false},
		// Structs: more fields, fewer fields.
		{"(struct)", "(struct)", true}, {"(struct (field i32))", "(struct)", true}, {"(struct)", "(struct (field i32))", false}, {"(struct (field i32 i64))", "(struct (field i32))", true}, {"(struct (field i32 i64))", "(struct (field i64))", false}, {"(struct (field i32 i64))", "(struct (field i32 i64))", true}, {"(struct (field i32 i64))", "(struct (field i32 i32))", false},
		{"(struct (field (ref 1)))", "(struct (field (ref null 0)))", true}, {"(struct (field (ref null 0)))", "(struct (field (ref 1)))", false},
		// Fields that may be set, and that may not.
		{"(struct (field (mut i32)))", "(struct (field (mut i32)))", true}, {"(struct (field (mut i32)))", "(struct (field i32))", false}, {"(struct (field i32))", "(struct (field (mut i32)))", false},
		{"(struct (field (mut (ref 1))))", "(struct (field (mut (ref 0))))", false}, {"(struct (field (mut (ref 0))))", "(struct (field (mut (ref 1))))", false}, {"(struct (field (mut (ref 7))))", "(struct (field (mut (ref 0))))", true}, {"(struct (field (mut (ref 1))))", "(struct (field (mut (ref 8))))", true}, {"(struct (field (mut (ref 0))))", "(struct (field (mut (ref null 0))))", false}, {"(struct (field (mut (ref null 0))))", "(struct (field (mut (ref 0))))", false},
		{"(struct (field (mut (ref 1))))", "(struct (field (ref 1)))", false}, {"(struct (field (ref 1)))", "(struct (field (mut (ref 1))))", false},
		// Packed fields.
		{"(struct (field i8))", "(struct (field i8))", true}, {"(struct (field i8))", "(struct (field i16))", false}, {"(struct (field i8))", "(struct (field i32))", false}, {"(struct (field (mut i16)))", "(struct (field (mut i16)))", true}, {"(struct (field (mut i16)))", "(struct (field (mut i32)))", false},
		// Arrays.
		{"(array i8)", "(array i8)", true}, {"(array i8)", "(array i16)", false}, {"(array (mut i8))", "(array i8)", false}, {"(array i8)", "(array (mut i8))", false}, {"(array (mut i64))", "(array (mut i64))", true}, {"(array (ref 1))", "(array (ref 0))", true}, {"(array (ref 0))", "(array (ref 1))", false}, {"(array (mut (ref 1)))", "(array (mut (ref 0)))", false}, {"(array (mut (ref 7)))", "(array (mut (ref 0)))", true},
		// Unlike kinds.
		{"(struct (field i8))", "(array i8)", false}, {"(array i8)", "(struct (field i8))", false}, {"(func)", "(struct)", false}, {"(struct)", "(func)", false},
		// Numbers that are no type's, also where nothing is held against them.
		{"(array (ref 9))", "(array (ref 9))", false}, {"(func (param (ref 9)))", "(func (param (ref 9)))", false}, {"(func (result (ref 9)))", "(func (result (ref any)))", false}, {"(struct (field (ref 9)))", "(struct (field (ref 9)))", false}, {"(struct (field i32 (ref 9)))", "(struct (field i32))", false}, {"(struct (field i32 (ref rec.0)))", "(struct (field i32))", false}, {"(struct (field i32 (ref 8)))", "(struct (field i32))", true}, {"(struct (field (ref 9)))", "(struct)", false}, {"(struct (field i32 (mut (ref null 9)) i32))", "(struct (field i32))", false},
	}
}

func TestSU1Comp(t *testing.T) {
	for _, c := range compCases() {
		if got := sub.Comp(family(), comp(c.a), comp(c.b)); got != c.want {
			t.Errorf("Comp(%s, %s) = %v", c.a, c.b, got)
		}
	}
}

func TestSU1CompOfWhatCounts(t *testing.T) {
	strange := []api.ValType{ref(99), {Num: 9}}
	for _, c := range []struct {
		a, b api.CompType
		want bool
	}{
		// Lists that the kind does not have.
		{api.CompType{Kind: api.CStruct, Params: strange, Results: strange}, comp("(struct)"), true},
		{comp("(struct)"), api.CompType{Kind: api.CStruct, Params: strange, Results: strange}, true},
		{api.CompType{Kind: api.CFunc, Fields: []api.Field{{Type: ref(99)}}}, comp("(func)"), true},
		// A number's Null and Heap, also of a field that is held against none.
		{api.CompType{Kind: api.CStruct, Fields: []api.Field{{Type: api.ValType{Num: api.TI32, Null: true, Heap: 99}}}}, comp("(struct (field i32))"), true},
		{api.CompType{Kind: api.CStruct, Fields: []api.Field{{Type: api.ValType{Num: api.TI32, Null: true, Heap: 99}}}}, comp("(struct)"), true},
		// nil and empty lists.
		{api.CompType{Kind: api.CFunc, Params: []api.ValType{}}, api.CompType{Kind: api.CFunc}, true},
		{api.CompType{Kind: api.CStruct}, api.CompType{Kind: api.CStruct, Fields: []api.Field{}}, true},
		// What is no composite type.
		{api.CompType{}, api.CompType{}, false}, {api.CompType{Kind: 4}, api.CompType{Kind: 4}, false}, {api.CompType{Kind: math.MinInt}, api.CompType{Kind: math.MinInt}, false},
		{api.CompType{Kind: api.CArray}, api.CompType{Kind: api.CArray}, false}, {comp("(array i8)"), api.CompType{Kind: api.CArray}, false}, {api.CompType{Kind: api.CArray}, comp("(array i8)"), false},
		{api.CompType{Kind: api.CArray, Fields: comp("(struct (field i8 i8))").Fields}, comp("(array i8)"), false}, {comp("(array i8)"), api.CompType{Kind: api.CArray, Fields: comp("(struct (field i8 i8))").Fields}, false},
	} {
		if got := sub.Comp(nil, c.a, c.b); got != c.want {
			t.Errorf("Comp(%v, %v) = %v", c.a, c.b, got)
		}
	}
}

func TestSU1CompOfMany(t *testing.T) {
	g := newGenerator(8, true)
	matched := 0
	for range 2000 {
		l := g.list()
		o := newOracle(l)
		for n := range o.subs {
			a := o.subs[n].Comp
			b := o.subs[g.Intn(len(o.subs))].Comp
			if len(o.subs[n].Supers) > 0 {
				b = o.subs[o.subs[n].Supers[0]].Comp
			}
			want := o.comp(a, b)
			if got := sub.Comp(l, a, b); got != want {
				t.Fatalf("Comp(%s; %s, %s) = %v", listText(l), types.CompText(a), types.CompText(b), got)
			}
			if want && n > 0 {
				matched++
			}
		}
	}
	if matched < 1000 {
		t.Errorf("only %d matched", matched)
	}
}
