package scope_test

import (
	"math"
	"testing"

	"ratchet/api"
	"ratchet/scope"
)

func TestAt(t *testing.T) {
	l := []int{7, 8, 9}
	for n, want := range l {
		if got, e := scope.At(l, uint32(n)); got != want || e != api.OK {
			t.Errorf("At(%v, %d): %d, %d", l, n, got, e)
		}
	}
	for _, n := range []uint32{3, 4, math.MaxInt32, math.MaxInt32 + 1, math.MaxUint32 - 1, math.MaxUint32} {
		if got, e := scope.At(l, n); got != 0 || e != api.ErrIndex {
			t.Errorf("At(%v, %d): %d, %d", l, n, got, e)
		}
	}
	if got, e := scope.At([]api.TableType(nil), 0); got != (api.TableType{}) || e != api.ErrIndex {
		t.Errorf("At of no list: %v, %d", got, e)
	}
}

// groups are two, of three types together.
func groups() []api.RecType {
	s := api.SubType{Final: true, Comp: api.CompType{Kind: api.CStruct}}
	return []api.RecType{{Types: []api.SubType{s, s}}, {Types: []api.SubType{s}}}
}

func TestKnownReferences(t *testing.T) {
	for _, null := range []bool{false, true} {
		for h := api.HNoExn; h < 3; h++ {
			if !scope.Known(groups(), api.ValType{Num: api.TRef, Null: null, Heap: h}) {
				t.Errorf("a reference to %d is not known", h)
			}
		}
		for _, h := range []int{3, 4, math.MaxInt32, math.MaxInt, api.HNoExn - 1, -99, -100, -101, math.MinInt} {
			if scope.Known(groups(), api.ValType{Num: api.TRef, Null: null, Heap: h}) {
				t.Errorf("a reference to %d is known", h)
			}
		}
		if scope.Known(nil, api.ValType{Num: api.TRef, Null: null}) {
			t.Error("a reference to 0 is known where there are no types")
		}
	}
}

func TestKnownNumbers(t *testing.T) {
	for _, n := range []int{api.TNone, api.TI32, api.TI64, api.TF32, api.TF64, api.T8, api.T16, 99, -1} {
		if !scope.Known(nil, api.ValType{Num: n, Null: true, Heap: 99}) {
			t.Errorf("a type of the number %d speaks of something", n)
		}
	}
}

func TestAddr(t *testing.T) {
	for _, l := range []api.Limits{{}, {Min: 1 << 40}, {Max: 1 << 40, HasMax: true}} {
		if got := scope.Addr(l); got != (api.ValType{Num: api.TI32}) || got != scope.I32() {
			t.Errorf("Addr(%v): %v", l, got)
		}
		l.Wide = true
		if got := scope.Addr(l); got != (api.ValType{Num: api.TI64}) {
			t.Errorf("Addr(%v): %v", l, got)
		}
	}
}
