package shape_test

import (
	"fmt"
	"testing"

	"ratchet/api"
	"ratchet/shape"
	"ratchet/types"
)

func read(texts ...string) []api.RecType {
	var l []api.RecType
	for _, s := range texts {
		r, _, e := types.ParseRec(s)
		if e != api.OK {
			panic(s)
		}
		l = append(l, r)
	}
	return l
}

// What is handed to place speaks of types ahead by their ids, of its own by their places.
func TestNumberRollsUp(t *testing.T) {
	l := read("(func)", "(rec (array (ref 0)) (sub 1 (struct (field (ref 2)))))", "(sub 2 (struct (field i32)))")
	var seen []string
	ids, at, ok := shape.Number(l, func(r api.RecType) (int, bool) {
		seen = append(seen, types.RecText(r))
		return 10 * len(seen), true
	})
	if fmt.Sprint(ids) != "[10 20 21 30]" || at != 0 || !ok {
		t.Errorf("ids: %v, %d, %v", ids, at, ok)
	}
	want := []string{"(func)", "(rec (array (ref 10)) (sub rec.0 (struct (field (ref rec.1)))))", "(sub 21 (struct (field i32)))"}
	if fmt.Sprint(seen) != fmt.Sprint(want) {
		t.Errorf("groups: %v", seen)
	}
}

func TestNumberIsRefused(t *testing.T) {
	l := read("(func)", "(rec)", "(struct)", "(func)")
	ids, at, ok := shape.Number(l, func(r api.RecType) (int, bool) {
		return 0, len(r.Types) == 0 || r.Types[0].Comp.Kind == api.CFunc
	})
	if ids != nil || at != 2 || ok {
		t.Errorf("ids: %v, %d, %v", ids, at, ok)
	}
}

func TestTextTellsGroupsApart(t *testing.T) {
	seen := map[string]int{}
	groups := append(read("(func)", "(sub (func))", "(struct)", "(array i8)", "(array (mut i8))", "(array i16)", "(array (ref 1))", "(array (ref 11))", "(array (ref null 1))", "(array (ref rec.0))", "(func (param i32))", "(func (result i32))", "(sub 1 (func))", "(sub 1 1 (func))", "(rec (func) (func))", "(rec)"),
		// What is no type has no text of its own in package types.
		api.RecType{Types: []api.SubType{{Comp: api.CompType{Kind: 4}}}}, api.RecType{Types: []api.SubType{{Comp: api.CompType{Kind: 5}}}})
	for i, r := range groups {
		if j, ok := seen[shape.Text(r)]; ok {
			t.Errorf("groups %d and %d have one text", i, j)
		}
		seen[shape.Text(r)] = i
	}
}

func TestSwappedLeavesOutWhatDoesNotCount(t *testing.T) {
	s := api.SubType{Supers: []int{1, 2}, Comp: api.CompType{
		Kind:   api.CStruct,
		Params: []api.ValType{{Num: api.TI32}},
		Fields: []api.Field{{Type: api.ValType{Num: api.TI32, Null: true, Heap: 7}}, {Type: api.ValType{Num: api.TRef, Null: true, Heap: 7}, Mut: true}, {Type: api.ValType{Num: api.TRef, Heap: api.HAny}}},
	}}
	was := fmt.Sprint(s)
	got := shape.Swapped(s, func(n int) int { return n + 100 })
	want := api.SubType{Supers: []int{101, 102}, Comp: api.CompType{
		Kind:   api.CStruct,
		Fields: []api.Field{{Type: api.ValType{Num: api.TI32}}, {Type: api.ValType{Num: api.TRef, Null: true, Heap: 107}, Mut: true}, {Type: api.ValType{Num: api.TRef, Heap: api.HAny}}},
	}}
	if fmt.Sprint(got) != fmt.Sprint(want) || fmt.Sprint(s) != was {
		t.Errorf("Swapped: %v", got)
	}
}
