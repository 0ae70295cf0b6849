package canon_test

import (
	"math"
	"strconv"
	"testing"

	"ratchet/api"
	"ratchet/canon"
	"ratchet/types"
)

// itself is a struct that speaks of itself, if n is its number.
func itself(n int) string { return "(struct (field (ref null " + strconv.Itoa(n) + ")))" }

func TestP61Examples(t *testing.T) {
	for _, c := range []struct {
		l    []api.RecType
		a, b int
		want bool
	}{
		{read(itself(0), itself(1)), 0, 1, true},
		{read(itself(0), "(rec "+itself(2)+" "+itself(1)+")"), 0, 1, false},
		{read(itself(0), "(rec "+itself(2)+" "+itself(1)+")"), 0, 2, false},
		{read(itself(0), "(rec "+itself(2)+" "+itself(1)+")"), 1, 2, false},
		{read("(func)", "(func)"), 0, 1, true},
		{read("(func)", "(sub (func))"), 0, 1, false},
		{read("(sub 0 (struct))", "(sub 1 (struct))"), 0, 1, true},
		{read("(sub 0 (struct))", "(sub 0 (struct))"), 0, 1, false},
	} {
		if ok, e := canon.Same(c.l, c.a, c.b); ok != c.want || e != api.OK {
			t.Errorf("Same(%v, %d, %d): %v, %d", c.l, c.a, c.b, ok, e)
		}
	}
}

// alikePairs are lists of which the last types are one.
func alikePairs() [][2][]api.RecType {
	odd := api.ValType{Num: api.TI32, Null: true, Heap: 9}
	none := api.ValType{Num: 9, Null: true, Heap: -13}
	alone := func(c api.CompType) []api.RecType {
		return []api.RecType{{Types: []api.SubType{{Final: true, Comp: c}}}}
	}
	return [][2][]api.RecType{
		{read("(struct)"), read("(rec (struct))")},
		{read("(func (param i32) (result f64))"), read("(func)", "(rec (func (param i32) (result f64)))")},
		{read("(array (mut i8))"), read("(rec)", "(array (mut i8))")},
		{read("(rec (sub (struct)) (sub final 0 (struct)))"), read("(func)", "(rec (sub (struct)) (sub final 1 (struct)))")},
		{read("(func)", "(struct)", "(func (param (ref 0)) (result (ref null 1)))"), read("(struct)", "(func)", "(func (param (ref 1)) (result (ref null 0)))")},
		{read("(func)", "(func)", "(array (ref 0))"), read("(func)", "(func)", "(array (ref 1))")},
		// By types that are themselves one in roundabout ways.
		{read(itself(0), "(array (ref 0))", "(sub 1 (array (ref 0)))"), read("(func)", itself(1), itself(2), "(array (ref 2))", "(sub 3 (array (ref 1)))")},
		// A number type's Null and Heap, also of a Num that is none.
		{read("(func (param i32) (result i32))"), alone(api.CompType{Kind: api.CFunc, Params: []api.ValType{odd}, Results: []api.ValType{odd}})},
		{read("(struct (field (mut i32)))"), alone(api.CompType{Kind: api.CStruct, Fields: []api.Field{{Type: odd, Mut: true}}})},
		{read("(array i32)"), alone(api.CompType{Kind: api.CArray, Fields: []api.Field{{Type: odd}}})},
		{alone(api.CompType{Kind: api.CFunc, Params: []api.ValType{{Num: 9}}}), alone(api.CompType{Kind: api.CFunc, Params: []api.ValType{none}})},
		// nil and empty lists.
		{alone(api.CompType{Kind: api.CFunc}), alone(api.CompType{Kind: api.CFunc, Params: []api.ValType{}, Results: []api.ValType{}})},
		{alone(api.CompType{Kind: api.CStruct}), []api.RecType{{Types: []api.SubType{{Final: true, Supers: []int{}, Comp: api.CompType{Kind: api.CStruct, Fields: []api.Field{}}}}}}},
		// Lists that the kind does not have.
		{read("(struct)"), alone(api.CompType{Kind: api.CStruct, Params: []api.ValType{{Num: api.TRef, Heap: 99}}, Results: []api.ValType{odd}})},
		{read("(func)"), alone(api.CompType{Kind: api.CFunc, Fields: []api.Field{{Type: api.ValType{Num: api.TRef, Heap: -100}}}})},
		{alone(api.CompType{Kind: 4}), alone(api.CompType{Kind: 4, Params: []api.ValType{odd}})},
		{alone(api.CompType{}), alone(api.CompType{Results: []api.ValType{odd}, Fields: []api.Field{{Type: odd}}})},
	}
}

func TestP61Alike(t *testing.T) {
	for _, c := range alikePairs() {
		x, y := types.Count(c[0])-1, types.Count(c[1])-1
		if ok, e := canon.One(c[0], c[1], x, y); !ok || e != api.OK {
			t.Errorf("One(%v, %v): %v, %d", c[0], c[1], ok, e)
		}
		if ok, e := canon.One(c[1], c[0], y, x); !ok || e != api.OK {
			t.Errorf("One(%v, %v): %v, %d", c[1], c[0], ok, e)
		}
		l := joined(c[0], c[1])
		if _, e := types.Closed(l); e != api.OK {
			t.Fatalf("not closed: %v", l)
		}
		if ok, e := canon.Same(l, x, types.Count(c[0])+y); !ok || e != api.OK {
			t.Errorf("Same(%v): %v, %d", l, ok, e)
		}
	}
}

// ahead are types of which those behind may speak, by numbers of one digit and of two; no two are one.
func ahead() []api.RecType {
	l := read("(func)", "(struct)")
	for n := range 11 {
		l = append(l, read("(array (ref "+strconv.Itoa(n+1)+"))")...)
	}
	return l
}

// unlike are groups behind ahead of which no two have a type that is one with one of the other.
func unlike() []api.RecType {
	l := read(
		"(sub final 0 (func))", "(sub (func))", "(sub 0 (func))", "(sub 1 (func))", "(sub 0 1 (func))", "(sub 1 0 (func))", "(sub 12 (func))", "(sub 1 2 (func))", "(sub 1 1 (func))", "(sub 11 (func))", "(sub 13 (func))", "(sub 1 13 (func))", "(sub 1 12 (func))", "(sub 11 2 (func))",
		"(sub (struct))", "(sub 0 (struct))", "(sub final 0 (struct))",
		"(func (param i32))", "(func (result i32))", "(func (param i32 i32))", "(func (result i32 i32))", "(func (param i32) (result i32))", "(func (param i64))", "(func (param f32))", "(func (param f64))", "(func (param i32 i64))", "(func (param i64 i32))",
		"(struct (field i32))", "(struct (field (mut i32)))", "(struct (field i32 i32))", "(struct (field i32 (mut i32)))", "(struct (field (mut i32) i32))", "(struct (field i8))", "(struct (field i16))",
		"(array i32)", "(array (mut i32))", "(array i8)", "(array i16)", "(array i64)",
		"(array (ref 13))", "(array (ref null 13))", "(array (mut (ref 13)))", "(array (ref null 1))", "(array (mut (ref 1)))", "(array (ref 0))",
		"(func (param (ref 0)))", "(func (param (ref 1)))", "(func (param (ref 12)))", "(func (param (ref 1) (ref 2)))", "(func (param (ref 2) (ref 1)))", "(func (param (ref 1)) (result (ref 2)))", "(func (param (ref 2)) (result (ref 1)))", "(func (param (ref 13)))", "(func (param (ref null 13)))", "(func (result (ref 13)))",
		"(rec (func) (func))", "(rec (func) (func) (func))", "(rec (func) (struct))", "(rec (struct) (func))", "(rec (func) (sub (func)))", "(rec (sub (func)) (func))",
		"(rec (array (ref 13)) (array (ref 13)))", "(rec (array (ref 14)) (array (ref 13)))", "(rec (array (ref 13)) (array (ref 14)))", "(rec (array (ref 14)) (array (ref 14)))", "(rec (array (ref 0)) (array (ref 14)))", "(rec (array (ref 1)) (array (ref 14)))",
	)
	for h := api.HFunc; h >= api.HNoExn; h-- {
		l = append(l, read("(array (ref "+types.HeapText(h)+"))", "(array (ref null "+types.HeapText(h)+"))")...)
	}
	// What is no type, and yet closed.
	for _, c := range []api.CompType{{}, {Kind: 4}, {Kind: -1}, {Kind: math.MaxInt}, {Kind: math.MinInt}, {Kind: api.CArray}, {Kind: api.CArray, Fields: make([]api.Field, 2)}, {Kind: api.CArray, Fields: make([]api.Field, 3)}} {
		l = append(l, api.RecType{Types: []api.SubType{{Final: true, Comp: c}}})
	}
	for _, n := range []int{api.TNone, 8, 9, -1, math.MaxInt, math.MinInt} {
		l = append(l, api.RecType{Types: []api.SubType{{Final: true, Comp: api.CompType{Kind: api.CArray, Fields: []api.Field{{Type: api.ValType{Num: n}}}}}}})
	}
	return l
}

func TestP61Unlike(t *testing.T) {
	front := ahead()
	if n := types.Count(front); n != 13 {
		t.Fatalf("%d types ahead", n)
	}
	all := unlike()
	for i, r := range all {
		for j, s := range all {
			a, b := append(front[:len(front):len(front)], r), append(front[:len(front):len(front)], s)
			for x := range r.Types {
				for y := range s.Types {
					want := i == j && x == y
					if ok, e := canon.One(a, b, 13+x, 13+y); ok != want || e != api.OK {
						t.Errorf("One of %v, %d and %v, %d: %v, %d", r, x, s, y, ok, e)
					}
				}
			}
		}
	}
}

func TestP61Refuses(t *testing.T) {
	good := read("(func)", "(rec)", "(rec (struct) (array (ref 1)))")
	for _, c := range []struct {
		l    []api.RecType
		a, b int
		e    api.Errno
	}{
		{good, -1, 0, api.ErrArg}, {good, 0, -1, api.ErrArg}, {good, 3, 0, api.ErrArg}, {good, 0, 3, api.ErrArg}, {good, -1, -1, api.ErrArg}, {good, 3, 3, api.ErrArg},
		{good, math.MinInt, math.MaxInt, api.ErrArg}, {good, 0, math.MaxInt, api.ErrArg}, {good, math.MinInt, 0, api.ErrArg}, {good, -100, -100, api.ErrArg}, {good, api.HFunc, api.HFunc, api.ErrArg},
		{nil, 0, 0, api.ErrArg}, {[]api.RecType{}, 0, 0, api.ErrArg}, {read("(rec)"), 0, 0, api.ErrArg}, {nil, -1, -1, api.ErrArg},
	} {
		if ok, e := canon.Same(c.l, c.a, c.b); ok || e != c.e {
			t.Errorf("Same(%v, %d, %d): %v, %d, not %d", c.l, c.a, c.b, ok, e, c.e)
		}
		for _, l := range [][]api.RecType{c.l, good} {
			if ok, e := canon.One(c.l, l, c.a, c.b); ok || e != c.e {
				t.Errorf("One(%v, %v, %d, %d): %v, %d, not %d", c.l, l, c.a, c.b, ok, e, c.e)
			}
		}
	}
	// A number of the one list is none of the other.
	if ok, e := canon.One(good, read("(func)"), 0, 2); ok || e != api.ErrArg {
		t.Errorf("One: %v, %d", ok, e)
	}
	if ok, e := canon.One(read("(func)"), good, 2, 0); ok || e != api.ErrArg {
		t.Errorf("One: %v, %d", ok, e)
	}
}

// openLists are not closed, at the type that is told.
func openLists() map[int][]api.RecType {
	return map[int][]api.RecType{
		0: read("(struct (field (ref 1)))"),
		1: read("(func)", "(array (ref 2))", "(func)"),
		2: read("(rec (func) (struct))", "(rec)", "(func (param (ref rec.0)))"),
		3: read("(func)", "(func)", "(rec (func) (sub 4 (func)))", "(func)"),
		4: append(read("(func)", "(rec (func) (struct) (struct))"), api.RecType{Types: []api.SubType{{Supers: []int{-1}}}}),
		5: append(read("(func)", "(rec (func) (struct) (struct))", "(func)"), api.RecType{Types: []api.SubType{{Comp: api.CompType{Kind: api.CFunc, Results: []api.ValType{{Num: api.TRef, Heap: -13}}}}}}),
	}
}

func TestP61NotClosed(t *testing.T) {
	good := read("(func)")
	for _, l := range openLists() {
		// What is not closed comes ahead of what is no number.
		for _, n := range []int{0, -1, 99} {
			if ok, e := canon.Same(l, n, 0); ok || e != api.ErrUnknown {
				t.Errorf("Same(%v, %d, 0): %v, %d", l, n, ok, e)
			}
			if ok, e := canon.Same(l, 0, n); ok || e != api.ErrUnknown {
				t.Errorf("Same(%v, 0, %d): %v, %d", l, n, ok, e)
			}
			if ok, e := canon.One(l, good, n, n); ok || e != api.ErrUnknown {
				t.Errorf("One(%v, .., %d, %d): %v, %d", l, n, n, ok, e)
			}
			if ok, e := canon.One(good, l, n, n); ok || e != api.ErrUnknown {
				t.Errorf("One(.., %v, %d, %d): %v, %d", l, n, n, ok, e)
			}
		}
	}
}

// wide is a list of n types that are all unlike: each speaks of the one ahead.
func wide(n int) []api.RecType {
	l := read("(struct)")
	for i := range n - 1 {
		l = append(l, read("(array (ref "+strconv.Itoa(i)+"))")...)
	}
	return l
}

func TestP61NoLimit(t *testing.T) {
	const n = 3 * api.MaxTypes
	l := wide(n)
	l = append(l, read("(array (ref "+strconv.Itoa(n-2)+"))", "(array (ref "+strconv.Itoa(n-1)+"))")...)
	for _, c := range []struct {
		a, b int
		want bool
	}{{n - 1, n, true}, {n - 1, n + 1, false}, {n, n + 1, false}, {0, n, false}, {n + 1, n + 1, true}} {
		if ok, e := canon.Same(l, c.a, c.b); ok != c.want || e != api.OK {
			t.Errorf("Same(%d, %d): %v, %d", c.a, c.b, ok, e)
		}
		if ok, e := canon.One(l, l, c.a, c.b); ok != c.want || e != api.OK {
			t.Errorf("One(%d, %d): %v, %d", c.a, c.b, ok, e)
		}
	}
	group := api.RecType{Types: make([]api.SubType, api.MaxTypes+1)}
	if ok, e := canon.Same([]api.RecType{group, group}, api.MaxTypes, 2*api.MaxTypes+1); !ok || e != api.OK {
		t.Errorf("Same of two great groups: %v, %d", ok, e)
	}
	if ok, e := canon.Same([]api.RecType{group, group}, 0, 1); ok || e != api.OK {
		t.Errorf("Same of two places of a great group: %v, %d", ok, e)
	}
}

func TestP61OfMany(t *testing.T) {
	g := newGenerator(61)
	found := map[bool]int{}
	for range 1500 {
		a, b := g.twins()
		l := joined(a, b)
		for x := range types.Count(a) {
			for y := range types.Count(b) {
				want := one(a, b, x, y)
				if ok, e := canon.One(a, b, x, y); ok != want || e != api.OK {
					t.Fatalf("One(%v, %v, %d, %d): %v, %d", a, b, x, y, ok, e)
				}
				if ok, e := canon.Same(l, x, types.Count(a)+y); ok != want || e != api.OK {
					t.Fatalf("Same(%v, %d, %d): %v, %d", l, x, types.Count(a)+y, ok, e)
				}
				found[want]++
			}
		}
	}
	if found[true] < 1000 || found[false] < 1000 {
		t.Errorf("the lists are too much alike, or too little: %v", found)
	}
}

func TestP61ChangesNothing(t *testing.T) {
	g := newGenerator(62)
	for range 300 {
		l, m := g.list(), g.list()
		before := []string{text(l), text(m)}
		canon.Same(l, 0, types.Count(l)-1)
		canon.One(l, m, 0, 0)
		canon.New().Add(l)
		if after := []string{text(l), text(m)}; !equal(before, after) {
			t.Fatalf("%v became %v", before, after)
		}
	}
}
