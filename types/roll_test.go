package types_test

import (
	"math"
	"testing"

	"ratchet/api"
	"ratchet/types"
)

func TestTY5Roll(t *testing.T) {
	i32 := num(api.TI32)
	for _, c := range []struct {
		l []api.RecType
		g int
		r api.RecType
	}{
		{[]api.RecType{{}}, 0, api.RecType{}},
		{[]api.RecType{{}, group()}, 1, group()},
		{[]api.RecType{alone(final(structure()))}, 0, alone(final(structure()))},
		{[]api.RecType{group(open(array(mut(i32))))}, 0, group(open(array(mut(i32))))},
		{[]api.RecType{alone(final(array(fixed(refNull(0)))))}, 0, alone(final(array(fixed(refNull(-100)))))},
		// Types ahead keep their numbers; those of the group are told by their places.
		{
			[]api.RecType{alone(final(function(nil, nil))), {}, group(open(structure(fixed(ref(0)), mut(ref(1)), fixed(refNull(2))), 0), final(function(vals(ref(2), i32), vals(ref(1), ref(0))), 1, 2)), alone(final(structure()))},
			2,
			group(open(structure(fixed(ref(0)), mut(ref(-100)), fixed(refNull(-101))), 0), final(function(vals(ref(-101), i32), vals(ref(-100), ref(0))), -100, -101)),
		},
		{[]api.RecType{alone(final(structure())), alone(final(structure(fixed(ref(0)))))}, 1, alone(final(structure(fixed(ref(0)))))},
		// Abstract ones stay.
		{[]api.RecType{alone(final(function(vals(ref(api.HFunc), refNull(api.HNoExn)), vals(ref(api.HAny)))))}, 0, alone(final(function(vals(ref(api.HFunc), refNull(api.HNoExn)), vals(ref(api.HAny)))))},
		// Other groups are not asked.
		{[]api.RecType{alone(final(structure(fixed(ref(99))), -13)), alone(final(structure(), 1)), alone(final(structure(fixed(ref(-100)))))}, 1, alone(final(structure(), -100))},
	} {
		if r, e := types.Roll(c.l, c.g); !equal(r, c.r) || e != api.OK {
			t.Errorf("Roll(%v, %d): %v, %d, not %v", c.l, c.g, r, e, c.r)
		}
	}
}

func TestTY5RollRefuses(t *testing.T) {
	of := func(v api.ValType) api.SubType { return final(structure(fixed(v))) }
	nothing := alone(final(structure()))
	bad := alone(of(ref(9)))
	for _, c := range []struct {
		l []api.RecType
		g int
		e api.Errno
	}{
		{nil, 0, api.ErrArg}, {[]api.RecType{}, 0, api.ErrArg}, {nil, -1, api.ErrArg},
		{[]api.RecType{bad}, 1, api.ErrArg}, {[]api.RecType{bad}, -1, api.ErrArg}, {[]api.RecType{bad}, math.MaxInt, api.ErrArg}, {[]api.RecType{bad}, math.MinInt, api.ErrArg},
		// Of a later group, of none.
		{[]api.RecType{alone(of(ref(1))), nothing}, 0, api.ErrUnknown},
		{[]api.RecType{group(of(ref(1)), of(refNull(2))), nothing}, 0, api.ErrUnknown},
		{[]api.RecType{nothing, alone(of(ref(2)))}, 1, api.ErrUnknown},
		{[]api.RecType{alone(final(structure(), 1)), nothing}, 0, api.ErrUnknown},
		{[]api.RecType{alone(final(function(vals(ref(9)), nil)))}, 0, api.ErrUnknown},
		{[]api.RecType{alone(final(function(nil, vals(ref(9)))))}, 0, api.ErrUnknown},
		{[]api.RecType{alone(final(array(mut(ref(math.MaxInt)))))}, 0, api.ErrUnknown},
		// Of a rolled one, and of one that is none: there is no such type.
		{[]api.RecType{alone(of(ref(-100)))}, 0, api.ErrUnknown},
		{[]api.RecType{alone(final(structure(), -100))}, 0, api.ErrUnknown},
		{[]api.RecType{alone(of(ref(-13)))}, 0, api.ErrUnknown},
		{[]api.RecType{nothing, alone(of(ref(-99)))}, 1, api.ErrUnknown},
		{[]api.RecType{alone(of(ref(math.MinInt)))}, 0, api.ErrUnknown},
		{[]api.RecType{alone(final(structure(), api.HAny))}, 0, api.ErrUnknown},
	} {
		if r, e := types.Roll(c.l, c.g); r.Types != nil || r.Explicit || e != c.e {
			t.Errorf("Roll(%v, %d): %v, %d, not %d", c.l, c.g, r, e, c.e)
		}
	}
}

func TestTY5Unroll(t *testing.T) {
	const most = 1<<31 - 1
	for _, c := range []struct {
		r     api.RecType
		first int
		want  api.RecType
	}{
		{api.RecType{}, 0, api.RecType{}},
		{group(), most, group()},
		{alone(final(array(fixed(ref(-100))), -100)), 0, alone(final(array(fixed(ref(0))), 0))},
		{alone(final(array(fixed(ref(-100))), -100)), most, alone(final(array(fixed(ref(most))), most))},
		{
			group(open(function(vals(ref(-101), ref(3)), vals(refNull(-100), num(api.TF32)))), final(structure(mut(ref(-101)), fixed(ref(api.HEq))), 3, -100)),
			7,
			group(open(function(vals(ref(8), ref(3)), vals(refNull(7), num(api.TF32)))), final(structure(mut(ref(8)), fixed(ref(api.HEq))), 3, 7)),
		},
		{group(final(structure()), final(array(fixed(ref(-101))))), most, group(final(structure()), final(array(fixed(ref(most+1)))))},
		// What is not rolled stays as it is.
		{alone(final(structure(fixed(ref(-99)), fixed(ref(-13)), fixed(ref(math.MaxInt))), -5, -99)), 4, alone(final(structure(fixed(ref(-99)), fixed(ref(-13)), fixed(ref(math.MaxInt))), -5, -99))},
	} {
		if r, e := types.Unroll(c.r, c.first); !equal(r, c.want) || e != api.OK {
			t.Errorf("Unroll(%v, %d): %v, %d, not %v", c.r, c.first, r, e, c.want)
		}
	}
}

func TestTY5UnrollRefuses(t *testing.T) {
	of := func(v api.ValType) api.SubType { return final(structure(fixed(v))) }
	for _, c := range []struct {
		r     api.RecType
		first int
		e     api.Errno
	}{
		{group(), -1, api.ErrArg}, {group(), 1 << 31, api.ErrArg}, {group(), math.MaxInt, api.ErrArg}, {group(), math.MinInt, api.ErrArg},
		{alone(of(ref(-101))), -1, api.ErrArg}, {alone(of(ref(-101))), 1 << 31, api.ErrArg},
		{alone(of(ref(-101))), 0, api.ErrUnknown},
		{alone(of(refNull(math.MinInt))), 1<<31 - 1, api.ErrUnknown},
		{alone(final(structure(), -101)), 3, api.ErrUnknown},
		{group(of(ref(-101)), of(ref(-102))), 0, api.ErrUnknown},
		{group(of(ref(-102)), of(ref(-101))), 0, api.ErrUnknown},
		{alone(final(function(vals(ref(-101)), nil))), 0, api.ErrUnknown},
		{alone(final(function(nil, vals(ref(-100), ref(-101))))), 0, api.ErrUnknown},
		{alone(final(array(mut(ref(-101))))), 0, api.ErrUnknown},
	} {
		if r, e := types.Unroll(c.r, c.first); r.Types != nil || r.Explicit || e != c.e {
			t.Errorf("Unroll(%v, %d): %v, %d, not %d", c.r, c.first, r, e, c.e)
		}
	}
}

// What a number's Null and Heap hold, and lists that a kind does not have, are no part of what is rolled.
func TestTY5OfWhatCounts(t *testing.T) {
	odd := api.ValType{Num: api.T16, Null: true, Heap: 99}
	mixed := api.CompType{Kind: api.CStruct, Params: vals(ref(99)), Results: vals(ref(-199)), Fields: []api.Field{mut(odd), fixed(ref(0))}}
	none := api.CompType{Kind: 9, Params: vals(ref(99)), Fields: []api.Field{fixed(ref(-199))}}
	called := function(vals(odd), vals(ref(api.HAny), odd))
	plain := function(vals(num(api.T16)), vals(ref(api.HAny), num(api.T16)))
	r, e := types.Roll([]api.RecType{group(final(mixed), final(none), final(called))}, 0)
	want := group(final(structure(mut(num(api.T16)), fixed(ref(-100)))), final(api.CompType{Kind: 9}), final(plain))
	if !equal(r, want) || e != api.OK {
		t.Errorf("Roll: %v, %d, not %v", r, e, want)
	}
	mixed.Fields[1] = fixed(ref(-101))
	r, e = types.Unroll(group(final(mixed), final(none), final(called)), 5)
	want = group(final(structure(mut(num(api.T16)), fixed(ref(6)))), final(api.CompType{Kind: 9}), final(plain))
	if !equal(r, want) || e != api.OK {
		t.Errorf("Unroll: %v, %d, not %v", r, e, want)
	}
}

// What is handed in stays as it is, also where the answer is changed afterwards.
func TestTY5ChangesNothing(t *testing.T) {
	made := func() []api.RecType {
		return []api.RecType{group(open(function(vals(ref(0)), vals(ref(1))), 0, 1), final(structure(mut(ref(1)))), final(array(fixed(ref(0)))))}
	}
	spoil := func(r api.RecType) {
		for i := range r.Types {
			s := &r.Types[i]
			for j := range s.Supers {
				s.Supers[j] = 77
			}
			for j := range s.Comp.Params {
				s.Comp.Params[j].Heap = 77
			}
			for j := range s.Comp.Results {
				s.Comp.Results[j].Heap = 77
			}
			for j := range s.Comp.Fields {
				s.Comp.Fields[j].Type.Heap = 77
			}
			s.Final = !s.Final
		}
	}
	l := made()
	rolled, _ := types.Roll(l, 0)
	again, _ := types.Roll(l, 0)
	back, _ := types.Unroll(rolled, 0)
	spoil(back)
	if !equal(rolled, again) {
		t.Errorf("Unroll changed what it was handed: %v, not %v", rolled, again)
	}
	spoil(rolled)
	if !equal(l, made()) {
		t.Errorf("Roll changed what it was handed: %v", l)
	}
	bad := made()
	bad[0].Types[2].Comp.Fields[0].Type.Heap = 9
	types.Roll(bad, 0)
	bad[0].Types[2].Comp.Fields[0].Type.Heap = 0
	if !equal(bad, made()) {
		t.Errorf("a refused Roll changed what it was handed: %v", bad)
	}
}

func TestTY6ParseOfText(t *testing.T) {
	var all []api.ValType
	for _, n := range nums() {
		if n != api.TRef {
			all = append(all, num(n))
		}
	}
	for _, heap := range []int{-1, -2, -3, -4, -5, -6, -7, -8, -9, -10, -11, -12, 0, 1, 9, 10, 1 << 20, 99999999, 100000000, 999999999, -100, -101, -109, -110, -100 - 999999999} {
		all = append(all, ref(heap), refNull(heap))
	}
	for _, v := range all {
		if got, at, e := types.Parse(types.Text(v)); got != v || at != 0 || e != api.OK {
			t.Errorf("Parse of Text(%v): %v, %d, %d", v, got, at, e)
		}
	}
}

func TestTY6ParseRecOfRecText(t *testing.T) {
	g := newGenerator(7)
	for range 5000 {
		r, _ := g.rec()
		got, at, e := types.ParseRec(types.RecText(r))
		if !equal(got, r) || !types.SameRec(got, r) || at != 0 || e != api.OK {
			t.Fatalf("ParseRec of RecText(%v): %v, %d, %d", r, got, at, e)
		}
	}
	for _, r := range unlike() {
		s := types.RecText(r)
		got, _, e := types.ParseRec(s)
		if e == api.OK && types.RecText(got) != s {
			t.Errorf("%s is told again as %s", s, types.RecText(got))
		}
	}
}

func TestTY6UnrollOfRoll(t *testing.T) {
	g := newGenerator(8)
	for range 3000 {
		l := g.groups()
		first := 0
		for i, r := range l {
			rolled, e := types.Roll(l, i)
			if e != api.OK {
				t.Fatalf("Roll(%v, %d): %d", l, i, e)
			}
			for _, s := range rolled.Types {
				for _, n := range types.Uses(s) {
					if n >= first {
						t.Fatalf("Roll(%v, %d) speaks of %d", l, i, n)
					}
				}
			}
			got, e := types.Unroll(rolled, first)
			if !equal(got, r) || !types.SameRec(got, r) || e != api.OK {
				t.Fatalf("Unroll of Roll(%v, %d): %v, %d", l, i, got, e)
			}
			first += len(r.Types)
		}
	}
}
