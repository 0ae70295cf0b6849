package types_test

import (
	"fmt"
	"math"
	"slices"
	"testing"

	"ratchet/api"
	"ratchet/types"
)

// equal tells whether two things are the same to the last field; nil and empty lists are.
func equal(a, b any) bool { return fmt.Sprint(a) == fmt.Sprint(b) }

// nums are the kinds of value types that are.
func nums() []int {
	return []int{api.TI32, api.TI64, api.TF32, api.TF64, api.TRef, api.T8, api.T16}
}

// noNums are some that are none.
func noNums() []int { return []int{api.TNone, 8, 9, -1, -5, math.MaxInt, math.MinInt} }

func TestTY2Same(t *testing.T) {
	var all []api.ValType
	for _, n := range append(nums(), noNums()...) {
		for _, null := range []bool{false, true} {
			for _, heap := range []int{0, 1, -1, -5, -12, -13, -100, math.MaxInt, math.MinInt} {
				all = append(all, api.ValType{Num: n, Null: null, Heap: heap})
			}
		}
	}
	for _, a := range all {
		for _, b := range all {
			want := a == b
			if a.Num != api.TRef {
				want = a.Num == b.Num
			}
			if types.Same(a, b) != want {
				t.Errorf("Same(%v, %v): not %v", a, b, want)
			}
		}
	}
}

// unlike are groups of which no two are the same.
func unlike() []api.RecType {
	i32, i64, nothing := num(api.TI32), num(api.TI64), function(nil, nil)
	return []api.RecType{
		{}, group(),
		alone(final(nothing)), group(final(nothing)), alone(open(nothing)),
		alone(open(nothing, 0)), alone(open(nothing, 1)), alone(open(nothing, 0, 1)), alone(open(nothing, 1, 0)), alone(final(nothing, 0)), alone(open(nothing, -100)),
		alone(final(structure())), alone(final(array())), alone(final(api.CompType{})), alone(final(api.CompType{Kind: 4})),
		alone(final(function(vals(i32), nil))), alone(final(function(nil, vals(i32)))), alone(final(function(vals(i64), nil))), alone(final(function(vals(i32, i32), nil))),
		alone(final(function(vals(i32), vals(i64)))), alone(final(function(vals(i32, i64), nil))), alone(final(function(vals(i64, i32), nil))),
		alone(final(function(vals(ref(0)), nil))), alone(final(function(vals(refNull(0)), nil))), alone(final(function(vals(ref(1)), nil))), alone(final(function(vals(ref(-100)), nil))),
		alone(final(structure(fixed(i32)))), alone(final(structure(mut(i32)))), alone(final(structure(fixed(i64)))), alone(final(structure(fixed(i32), fixed(i32)))), alone(final(structure(fixed(i32), mut(i32)))), alone(final(structure(mut(i32), fixed(i32)))),
		alone(final(structure(fixed(ref(0))))), alone(final(structure(fixed(refNull(0))))), alone(final(structure(fixed(ref(api.HAny))))),
		alone(final(array(fixed(i32)))), alone(final(array(mut(i32)))), alone(final(array(fixed(num(api.T8))))), alone(final(array(fixed(num(api.T16))))), alone(final(array(fixed(i32), fixed(i32)))),
		group(final(nothing), final(nothing)), {Types: []api.SubType{final(nothing), final(nothing)}}, group(final(nothing), open(nothing)), group(open(nothing), final(nothing)), group(final(nothing), final(nothing), final(nothing)),
	}
}

func TestTY2SameRec(t *testing.T) {
	for i, a := range unlike() {
		for j, b := range unlike() {
			if types.SameRec(a, b) != (i == j) {
				t.Errorf("SameRec(%v, %v): not %v", a, b, i == j)
			}
		}
	}
}

func TestTY2SameRecOfWhatCounts(t *testing.T) {
	i32, i64 := num(api.TI32), num(api.TI64)
	odd := api.ValType{Num: api.TI32, Null: true, Heap: 7}
	for _, c := range [][2]api.RecType{
		{{}, {Types: []api.SubType{}}},
		{alone(open(function(nil, nil))), alone(api.SubType{Supers: []int{}, Comp: api.CompType{Kind: api.CFunc, Params: vals(), Results: vals(), Fields: []api.Field{}}})},
		{alone(final(structure())), alone(final(structure([]api.Field{}...)))},
		{alone(final(function(vals(i32), vals(i32)))), alone(final(function(vals(odd), vals(odd))))},
		{alone(final(structure(mut(i32)))), alone(final(structure(mut(odd))))},
		{alone(final(array(fixed(i32)))), alone(final(array(fixed(odd))))},
		// Lists that the kind does not have.
		{alone(final(structure(fixed(i32)))), alone(final(api.CompType{Kind: api.CStruct, Params: vals(i64), Results: vals(i32), Fields: []api.Field{fixed(i32)}}))},
		{alone(final(function(vals(i32), nil))), alone(final(api.CompType{Kind: api.CFunc, Params: vals(i32), Fields: []api.Field{fixed(i32)}}))},
	} {
		if !types.SameRec(c[0], c[1]) || !types.SameRec(c[1], c[0]) {
			t.Errorf("SameRec(%v, %v): false", c[0], c[1])
		}
	}
}

func TestTY2DefaultUnpackBytes(t *testing.T) {
	bytes := map[int]int{api.T8: 1, api.T16: 2, api.TI32: 4, api.TF32: 4, api.TI64: 8, api.TF64: 8}
	for _, n := range append(nums(), noNums()...) {
		for _, v := range []api.ValType{{Num: n}, {Num: n, Null: true}, {Num: n, Heap: -5}, {Num: n, Null: true, Heap: 9}} {
			size := bytes[n]
			if got := types.Bytes(v); got != size {
				t.Errorf("Bytes(%v): %d, not %d", v, got, size)
			}
			first := size > 0 || n == api.TRef && v.Null
			if got := types.Default(v); got != first {
				t.Errorf("Default(%v): %v", v, got)
			}
			want := v
			if n == api.T8 || n == api.T16 {
				want = num(api.TI32)
			}
			if got := types.Unpack(v); got != want {
				t.Errorf("Unpack(%v): %v, not %v", v, got, want)
			}
		}
	}
}

// three are groups of two types, none, one, three.
func three() []api.RecType {
	return []api.RecType{
		{Types: []api.SubType{open(function(nil, nil)), open(structure())}, Explicit: true},
		{Explicit: true},
		{Types: []api.SubType{final(array(fixed(num(api.TI32))))}},
		{Types: []api.SubType{open(structure(), 1), final(structure(), 3), final(function(nil, nil), 0)}, Explicit: true},
	}
}

func TestTY3Count(t *testing.T) {
	for _, c := range []struct {
		l []api.RecType
		n int
	}{{nil, 0}, {[]api.RecType{}, 0}, {[]api.RecType{{}}, 0}, {[]api.RecType{{}, group(), {}}, 0}, {three(), 6}, {three()[:1], 2}, {three()[1:3], 1}} {
		if n := types.Count(c.l); n != c.n {
			t.Errorf("Count(%v): %d, not %d", c.l, n, c.n)
		}
	}
}

func TestTY3At(t *testing.T) {
	l := three()
	for n, want := range [][2]int{{0, 0}, {0, 1}, {2, 0}, {3, 0}, {3, 1}, {3, 2}} {
		s, g, place, e := types.At(l, n)
		if !equal(s, l[want[0]].Types[want[1]]) || g != want[0] || place != want[1] || e != api.OK {
			t.Errorf("At(%d): %v, %d, %d, %d", n, s, g, place, e)
		}
	}
	for _, n := range []int{-1, -100, 6, 7, 1 << 40, math.MaxInt, math.MinInt} {
		s, g, place, e := types.At(l, n)
		if !equal(s, api.SubType{}) || g != 0 || place != 0 || e != api.ErrUnknown {
			t.Errorf("At(%d): %v, %d, %d, %d", n, s, g, place, e)
		}
	}
	for _, l := range [][]api.RecType{nil, {}, {{}}, {{}, group()}} {
		for _, n := range []int{-1, 0, 1} {
			if s, g, place, e := types.At(l, n); !equal(s, api.SubType{}) || g != 0 || place != 0 || e != api.ErrUnknown {
				t.Errorf("At(%v, %d): %v, %d, %d, %d", l, n, s, g, place, e)
			}
		}
	}
}

func TestTY3Uses(t *testing.T) {
	i32 := num(api.TI32)
	for _, c := range []struct {
		s api.SubType
		l []int
	}{
		{api.SubType{}, nil},
		{final(function(nil, nil)), nil},
		{open(structure(), 3, 0, 3), []int{3, 0, 3}},
		{final(function(vals(ref(4), i32, refNull(2)), vals(ref(1), ref(4)))), []int{4, 2, 1, 4}},
		{open(function(vals(ref(5)), vals(ref(0))), 9), []int{9, 5, 0}},
		{final(structure(fixed(ref(8)), mut(refNull(7)), fixed(i32), fixed(ref(8))), 1), []int{1, 8, 7, 8}},
		{final(array(mut(ref(math.MaxInt)))), []int{math.MaxInt}},
		{final(array(fixed(ref(1)), fixed(ref(2)))), []int{1, 2}},
		// Abstract ones, rolled ones, and those that are none.
		{final(function(vals(ref(api.HFunc), ref(api.HNoExn), ref(-13), ref(-99), ref(-100), ref(math.MinInt)), nil), -1, -13, -100, 0), []int{0}},
		// What a number's Heap holds, and lists that the kind does not have.
		{final(structure(fixed(api.ValType{Num: api.TI32, Heap: 5}), fixed(api.ValType{Num: 9, Heap: 6}))), nil},
		{final(api.CompType{Kind: api.CStruct, Params: vals(ref(1)), Results: vals(ref(2)), Fields: []api.Field{fixed(ref(3))}}), []int{3}},
		{final(api.CompType{Kind: api.CFunc, Params: vals(ref(1)), Results: vals(ref(2)), Fields: []api.Field{fixed(ref(3))}}), []int{1, 2}},
		{final(api.CompType{Kind: 4, Params: vals(ref(1)), Results: vals(ref(2)), Fields: []api.Field{fixed(ref(3))}}, 7), []int{7}},
	} {
		if l := types.Uses(c.s); !slices.Equal(l, c.l) {
			t.Errorf("Uses(%v): %v, not %v", c.s, l, c.l)
		}
	}
}

func TestTY3UsesIsNewMemory(t *testing.T) {
	s := open(structure(), 1, 2)
	types.Uses(s)[0] = 9
	if s.Supers[0] != 1 {
		t.Errorf("Uses shares what is declared above: %v", s.Supers)
	}
}

func TestTY4Closed(t *testing.T) {
	of := func(v api.ValType) api.SubType { return final(structure(fixed(v))) }
	for _, l := range [][]api.RecType{
		nil, {}, {{}}, {group(), {}}, three(),
		{alone(of(ref(0)))},
		{group(of(ref(1)), of(ref(0)))},
		{alone(of(ref(0))), alone(of(ref(1))), alone(of(ref(0)))},
		{group(of(refNull(2)), of(ref(2)), of(ref(2))), {}, alone(final(array(mut(ref(3))), 3))},
		{alone(final(function(vals(ref(0)), vals(ref(0))), 0))},
		{alone(of(api.ValType{Num: api.TI32, Heap: 99})), alone(of(api.ValType{Num: 9, Heap: -13}))},
		{alone(api.SubType{}), alone(final(array())), alone(final(api.CompType{Kind: 4, Params: vals(ref(99))}))},
	} {
		if n, e := types.Closed(l); n != 0 || e != api.OK {
			t.Errorf("Closed(%v): %d, %d", l, n, e)
		}
	}
	for i := range abstractWords() {
		if n, e := types.Closed([]api.RecType{alone(of(ref(-1 - i)))}); n != 0 || e != api.OK {
			t.Errorf("Closed with %d: %d, %d", -1-i, n, e)
		}
	}
}

func TestTY4ClosedRefuses(t *testing.T) {
	of := func(v api.ValType) api.SubType { return final(structure(fixed(v))) }
	for _, c := range []struct {
		l []api.RecType
		n int
	}{
		{[]api.RecType{alone(of(ref(1)))}, 0},
		{[]api.RecType{alone(of(ref(1))), alone(of(ref(0)))}, 0},
		{[]api.RecType{alone(of(ref(0))), alone(of(ref(2)))}, 1},
		{[]api.RecType{group(of(ref(1)), of(ref(2))), alone(of(ref(3)))}, 1},
		{[]api.RecType{group(of(ref(1)), of(ref(0))), group(), alone(of(ref(3)))}, 2},
		{[]api.RecType{group(), alone(final(function(vals(ref(0), ref(5)), nil)))}, 0},
		{[]api.RecType{alone(final(function(nil, nil))), alone(final(function(nil, vals(ref(5)))))}, 1},
		{[]api.RecType{alone(final(array(mut(refNull(math.MaxInt)))))}, 0},
		// What is declared above.
		{[]api.RecType{alone(final(structure(), 1))}, 0},
		{[]api.RecType{alone(final(structure(), 0)), alone(final(structure(), 0, 2)), alone(final(structure(), 9))}, 1},
		{[]api.RecType{alone(final(structure(), -100))}, 0},
		{[]api.RecType{alone(final(structure(), -13))}, 0},
		{[]api.RecType{alone(final(structure(), api.HStruct))}, 0},
		// Rolled ones, and abstract ones that are none.
		{[]api.RecType{alone(of(ref(0))), alone(of(ref(-100)))}, 1},
		{[]api.RecType{alone(of(ref(0))), alone(of(ref(-13)))}, 1},
		{[]api.RecType{alone(of(ref(-99)))}, 0},
		{[]api.RecType{alone(of(ref(math.MinInt)))}, 0},
	} {
		if n, e := types.Closed(c.l); n != c.n || e != api.ErrUnknown {
			t.Errorf("Closed(%v): %d, %d, not %d", c.l, n, e, c.n)
		}
	}
}

// Of generated lists, and of the same ones with one number that is a later group's.
func TestTY4ClosedOfMany(t *testing.T) {
	g := newGenerator(6)
	for range 2000 {
		l := g.groups()
		if n, e := types.Closed(l); n != 0 || e != api.OK {
			t.Fatalf("Closed(%v): %d, %d", l, n, e)
		}
		if types.Count(l) == 0 {
			continue
		}
		n := g.Intn(types.Count(l))
		_, at, place, _ := types.At(l, n)
		end := types.Count(l[:at+1])
		l[at].Types[place].Supers = append(l[at].Types[place].Supers, end)
		if got, e := types.Closed(l); got != n || e != api.ErrUnknown {
			t.Fatalf("Closed(%v): %d, %d, not %d", l, got, e, n)
		}
	}
}
