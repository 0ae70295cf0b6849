package sub_test

import (
	"math"
	"testing"

	"ratchet/api"
	"ratchet/canon"
	"ratchet/sub"
)

// valid are lists in which all declarations may be.
func valid(t *testing.T, seed int64, many int, see func(l []api.RecType)) {
	t.Helper()
	g := newGenerator(seed, false)
	found := 0
	for range many {
		l := g.list()
		if _, e := sub.Decl(l); e == api.OK {
			found++
			see(l)
		}
	}
	if found < many/5 {
		t.Errorf("only %d of %d lists are valid", found, many)
	}
}

func TestSU5EachMatchesItself(t *testing.T) {
	g := newGenerator(11, true)
	for range 500 {
		l := g.list()
		for _, h := range heaps(l) {
			if !sub.Heap(l, h, h) || !sub.Val(l, ref(h), ref(h)) || !sub.Val(l, refNull(h), refNull(h)) {
				t.Fatalf("%d of %s does not match itself", h, listText(l))
			}
			if k, ok := sub.Join(l, h, h); k != h || !ok {
				t.Fatalf("Join(%s; %d, %d): %d, %v", listText(l), h, h, k, ok)
			}
		}
		for _, r := range l {
			for _, s := range r.Types {
				if !sub.Comp(l, s.Comp, s.Comp) || !sub.Vals(l, s.Comp.Params, s.Comp.Params) {
					t.Fatalf("%v of %s does not match itself", s, listText(l))
				}
			}
		}
	}
}

// matchesOf asks Heap of each pair of a list once.
func matchesOf(l []api.RecType) func(a, b int) bool {
	var rel [][]bool
	for _, a := range heaps(l) {
		var row []bool
		for _, b := range heaps(l) {
			row = append(row, sub.Heap(l, a, b))
		}
		rel = append(rel, row)
	}
	return func(a, b int) bool { return rel[place(a)][place(b)] }
}

func TestSU5MatchingLeadsOn(t *testing.T) {
	valid(t, 12, 600, func(l []api.RecType) {
		all := heaps(l)
		matches := matchesOf(l)
		for _, a := range all {
			for _, b := range all {
				if !matches(a, b) {
					continue
				}
				if a != b && matches(b, a) {
					if one, e := canon.Same(l, a, b); !one || e != api.OK {
						t.Fatalf("%d and %d of %s match both ways", a, b, listText(l))
					}
				}
				for _, c := range all {
					if matches(b, c) && !matches(a, c) {
						t.Fatalf("%d, %d, %d of %s", a, b, c, listText(l))
					}
				}
			}
		}
	})
}

func TestSU5JoinIsTheLeast(t *testing.T) {
	valid(t, 13, 600, func(l []api.RecType) {
		all := heaps(l)
		matches := matchesOf(l)
		for _, a := range all {
			for _, b := range all {
				h, ok := sub.Join(l, a, b)
				if ok && (!matches(a, h) || !matches(b, h)) {
					t.Fatalf("Join(%s; %d, %d): %d", listText(l), a, b, h)
				}
				for _, c := range all {
					if matches(a, c) && matches(b, c) && (!ok || !matches(h, c)) {
						t.Fatalf("Join(%s; %d, %d): %d, %v, but for %d", listText(l), a, b, h, ok, c)
					}
				}
			}
		}
	})
}

func TestSU5TypesThatAreOneMatchTheSame(t *testing.T) {
	ones := 0
	g := newGenerator(14, true)
	for range 600 {
		l := g.list()
		all := heaps(l)
		for _, a := range all {
			for _, b := range all {
				if one, e := canon.Same(l, a, b); a == b || !one || e != api.OK {
					continue
				}
				ones++
				for _, h := range all {
					if sub.Heap(l, a, h) != sub.Heap(l, b, h) || sub.Heap(l, h, a) != sub.Heap(l, h, b) {
						t.Fatalf("%d and %d of %s against %d", a, b, listText(l), h)
					}
				}
			}
		}
	}
	if ones < 300 {
		t.Errorf("only %d pairs are one", ones)
	}
}

func TestSU6ListsThatAreNotClosed(t *testing.T) {
	i32, fun := val("i32"), comp("(func)")
	for name, c := range unclosed() {
		l := c.l
		for _, h := range []int{0, 1, api.HAny, api.HNone, api.HFunc, api.HNoFunc} {
			for _, k := range []int{h, api.HAny, api.HFunc, 0} {
				if sub.Heap(l, h, k) || sub.Defined(l, h, k) || sub.Val(l, ref(h), refNull(k)) || sub.Vals(l, []api.ValType{ref(h)}, []api.ValType{refNull(k)}) {
					t.Errorf("%s: %d, %d", name, h, k)
				}
				holdApart(t, l, h, k)
			}
			if top, e := sub.Top(l, h); top != 0 || e != api.ErrUnknown {
				t.Errorf("%s: Top(%d): %d, %d", name, h, top, e)
			}
			if bottom, e := sub.Bottom(l, h); bottom != 0 || e != api.ErrUnknown {
				t.Errorf("%s: Bottom(%d): %d, %d", name, h, bottom, e)
			}
		}
		if sub.Vals(l, nil, nil) || sub.Vals(l, vals("i32"), vals("i32")) || sub.Comp(l, fun, fun) || sub.Comp(l, comp("(array i8)"), comp("(array i8)")) {
			t.Errorf("%s: lists and composite types", name)
		}
		for _, x := range []api.Extern{function(0), tag(0), table("(ref null func)", least(0)), global("(ref any)"), global("i32"), variable("i32")} {
			holdExtern(t, l, x, x, false)
		}
		// Where the list is not asked.
		if !sub.Val(l, i32, i32) || !sub.Val(l, val("i8"), val("i8")) || sub.Val(l, i32, val("i64")) || sub.Val(l, i32, ref(api.HAny)) {
			t.Errorf("%s: Val of numbers", name)
		}
		holdExtern(t, l, memory(least(2)), memory(least(1)), true)
		holdExtern(t, l, memory(least(0)), memory(least(1)), false)
	}
}

func TestSU6NumbersThatAreNoTypes(t *testing.T) {
	for _, l := range [][]api.RecType{nil, {}, read("(rec)"), read("(sub (struct))", "(sub 0 (struct))", "(func)")} {
		many := len(heaps(l)) - 12
		for _, h := range []int{many, many + 1, -13, -14, -99, -100, -101, math.MaxInt, math.MaxInt32, math.MinInt} {
			for _, k := range []int{h, 0, api.HAny, api.HNone, api.HFunc, api.HNoFunc, api.HStruct} {
				if sub.Heap(l, h, k) || sub.Heap(l, k, h) || sub.Defined(l, h, k) || sub.Defined(l, k, h) {
					t.Errorf("Heap, Defined of %d and %d", h, k)
				}
				if sub.Val(l, ref(h), refNull(k)) || sub.Val(l, ref(k), refNull(h)) {
					t.Errorf("Val of %d and %d", h, k)
				}
				if a, b := []api.ValType{ref(h)}, []api.ValType{ref(k)}; sub.Vals(l, a, b) || sub.Vals(l, b, a) {
					t.Errorf("Vals of %d and %d", h, k)
				}
				a, b := api.Extern{Kind: api.KGlobal, Global: api.GlobalType{Type: ref(h)}}, api.Extern{Kind: api.KGlobal, Global: api.GlobalType{Type: ref(k)}}
				holdExtern(t, l, a, b, false)
				holdExtern(t, l, b, a, false)
				holdApart(t, l, h, k)
				holdApart(t, l, k, h)
			}
			holdExtern(t, l, function(h), function(h), false)
			holdExtern(t, l, tag(h), tag(h), false)
			more := api.CompType{Kind: api.CStruct, Fields: []api.Field{{Type: ref(h)}}}
			if sub.Comp(l, more, more) || sub.Comp(l, more, comp("(struct)")) {
				t.Errorf("Comp of %d", h)
			}
		}
	}
}

func TestNothingThatIsHandedInIsChanged(t *testing.T) {
	g := newGenerator(15, true)
	for range 300 {
		l := g.list()
		was := copied(l)
		for _, a := range heaps(l) {
			for _, b := range heaps(l) {
				sub.Heap(l, a, b)
				sub.Join(l, a, b)
			}
			sub.Top(l, a)
		}
		for _, r := range l {
			for _, s := range r.Types {
				sub.Comp(l, s.Comp, l[0].Types[0].Comp)
				sub.Vals(l, s.Comp.Params, s.Comp.Results)
			}
		}
		sub.Decl(l)
		if !equal(l, was) {
			t.Fatalf("%v was %v", l, was)
		}
	}
}
