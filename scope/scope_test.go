package scope_test

import (
	"math"
	"testing"

	"ratchet/api"
	"ratchet/scope"
)

func TestAt(t *testing.T) {
	l := []int{7, 8, 9}
	for n, want := range l {
		if got, e := scope.At(l, uint32(n)); got != want || e != api.OK {
			t.Errorf("At(%v, %d): %d, %d", l, n, got, e)
		}
	}
	for _, n := range []uint32{3, 4, math.MaxInt32, math.MaxInt32 + 1, math.MaxUint32 - 1, math.MaxUint32} {
		if got, e := scope.At(l, n); got != 0 || e != api.ErrIndex {
			t.Errorf("At(%v, %d): %d, %d", l, n, got, e)
		}
	}
	if got, e := scope.At([]api.TableType(nil), 0); got != (api.TableType{}) || e != api.ErrIndex {
		t.Errorf("At of no list: %v, %d", got, e)
	}
}

func TestBelow(t *testing.T) {
	for _, count := range []int{0, 1, 3, math.MaxInt32, math.MaxUint32, math.MaxInt, -1, math.MinInt} {
		for _, n := range []uint32{0, 1, 2, 3, 4, math.MaxInt32 - 1, math.MaxInt32, math.MaxUint32 - 1, math.MaxUint32} {
			want := api.ErrIndex
			if count > 0 && uint64(n) < uint64(count) {
				want = api.OK
			}
			if e := scope.Below(n, count); e != want {
				t.Errorf("Below(%d, %d): %d", n, count, e)
			}
		}
	}
}

func TestComp(t *testing.T) {
	i32, i64 := api.ValType{Num: api.TI32}, api.ValType{Num: api.TI64}
	l := []api.RecType{
		{Types: []api.SubType{{Comp: api.CompType{Kind: api.CFunc, Params: []api.ValType{i32}, Results: []api.ValType{i64}}}, {Comp: api.CompType{Kind: api.CStruct, Fields: []api.Field{{Type: i64, Mut: true}}}}}},
		{}, {Types: []api.SubType{{Comp: api.CompType{Kind: api.CArray, Fields: []api.Field{{Type: i32}}}}, {}}},
	}
	kinds := []int{api.CFunc, api.CStruct, api.CArray, 0}
	for n := -1; n <= len(kinds); n++ {
		for _, kind := range append([]int{-1, 4}, kinds...) {
			c, e := scope.Comp(l, n, kind)
			none := c.Kind == 0 && c.Params == nil && c.Results == nil && c.Fields == nil
			switch {
			case n < 0 || n == len(kinds):
				if e != api.ErrIndex || !none {
					t.Errorf("Comp(%d, %d): %v, %d", n, kind, c, e)
				}
			case kind != kinds[n]:
				if e != api.ErrKind || !none {
					t.Errorf("Comp(%d, %d): %v, %d", n, kind, c, e)
				}
			case e != api.OK || c.Kind != kind || len(c.Params)+len(c.Fields) != min(kind, 1):
				t.Errorf("Comp(%d, %d): %v, %d", n, kind, c, e)
			}
		}
	}
	for _, n := range []int{math.MaxInt32, math.MaxUint32, math.MaxInt, -100, math.MinInt} {
		if _, e := scope.Comp(l, n, api.CFunc); e != api.ErrIndex {
			t.Errorf("Comp(%d): %d", n, e)
		}
	}
	if c, e := scope.Comp(nil, 0, api.CFunc); e != api.ErrIndex || c.Kind != 0 {
		t.Errorf("Comp of no types: %v, %d", c, e)
	}
}

// groups are two, of three types together.
func groups() []api.RecType {
	s := api.SubType{Final: true, Comp: api.CompType{Kind: api.CStruct}}
	return []api.RecType{{Types: []api.SubType{s, s}}, {Types: []api.SubType{s}}}
}

func TestKnownReferences(t *testing.T) {
	for _, null := range []bool{false, true} {
		for h := api.HNoExn; h < 3; h++ {
			if !scope.Known(groups(), api.ValType{Num: api.TRef, Null: null, Heap: h}) {
				t.Errorf("a reference to %d is not known", h)
			}
		}
		for _, h := range []int{3, 4, math.MaxInt32, math.MaxInt, api.HNoExn - 1, -99, -100, -101, math.MinInt} {
			if scope.Known(groups(), api.ValType{Num: api.TRef, Null: null, Heap: h}) {
				t.Errorf("a reference to %d is known", h)
			}
		}
		if scope.Known(nil, api.ValType{Num: api.TRef, Null: null}) {
			t.Error("a reference to 0 is known where there are no types")
		}
	}
}

func TestKnownNumbers(t *testing.T) {
	for _, n := range []int{api.TNone, api.TI32, api.TI64, api.TF32, api.TF64, api.T8, api.T16, 99, -1} {
		if !scope.Known(nil, api.ValType{Num: n, Null: true, Heap: 99}) {
			t.Errorf("a type of the number %d speaks of something", n)
		}
	}
}

func TestAddr(t *testing.T) {
	for _, l := range []api.Limits{{}, {Min: 1 << 40}, {Max: 1 << 40, HasMax: true}} {
		if got := scope.Addr(l); got != (api.ValType{Num: api.TI32}) || got != scope.I32() {
			t.Errorf("Addr(%v): %v", l, got)
		}
		l.Wide = true
		if got := scope.Addr(l); got != (api.ValType{Num: api.TI64}) {
			t.Errorf("Addr(%v): %v", l, got)
		}
	}
}
