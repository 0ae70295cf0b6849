package canon_test

import (
	"fmt"
	"math"
	"slices"
	"testing"

	"ratchet/api"
	"ratchet/canon"
	"ratchet/types"
)

// text tells a list to the last field.
func text(l []api.RecType) string { return fmt.Sprint(l) }

// added is what Add answers where it must not refuse.
func added(t *testing.T, c *canon.Table, l []api.RecType) []int {
	t.Helper()
	ids, n, e := c.Add(l)
	if n != 0 || e != api.OK {
		t.Fatalf("Add(%v): %v, %d, %d", l, ids, n, e)
	}
	return ids
}

func TestP62Add(t *testing.T) {
	c := canon.New()
	if c.Count() != 0 {
		t.Errorf("a new table has %d ids", c.Count())
	}
	for _, step := range []struct {
		l     []api.RecType
		ids   []int
		count int
	}{
		{nil, nil, 0}, {[]api.RecType{}, nil, 0}, {read("(rec)"), nil, 0}, {read("(rec)", "(rec)"), nil, 0},
		{read("(func)", "(func)", "(sub (func))"), []int{0, 0, 1}, 2},
		{read("(sub (func))"), []int{1}, 2},
		// A group of two: one with none of these.
		{read("(rec (func) (sub (func)))"), []int{2, 3}, 4},
		{read("(rec (func) (sub (func)))", "(func)", "(rec)", "(rec (func))"), []int{2, 3, 0, 0}, 4},
		{read("(rec (sub (func)) (func))"), []int{4, 5}, 6},
		// By ids, not by numbers.
		{read("(struct (field (ref null 0)))", "(array (ref 0))"), []int{6, 7}, 8},
		{read("(func)", "(struct (field (ref null 0)))", "(struct (field (ref null 2)))", "(array (ref 2))"), []int{0, 8, 6, 7}, 9},
		// Declared above itself.
		{read("(sub 0 (struct))", "(sub 1 (struct))", "(sub 1 (struct))"), []int{9, 9, 10}, 11},
		{nil, nil, 11},
	} {
		ids, n, e := c.Add(step.l)
		if !slices.Equal(ids, step.ids) || n != 0 || e != api.OK || c.Count() != step.count {
			t.Errorf("Add(%v): %v, %d, %d, and then %d; not %v, %d", step.l, ids, n, e, c.Count(), step.ids, step.count)
		}
	}
}

func TestP62ZeroTables(t *testing.T) {
	open := read("(array (ref 1))")
	for _, c := range []*canon.Table{nil, {}, new(canon.Table)} {
		for _, l := range [][]api.RecType{nil, {}, read("(func)"), open} {
			if ids, n, e := c.Add(l); len(ids) != 0 || n != 0 || e != api.ErrZero {
				t.Errorf("Add(%v): %v, %d, %d", l, ids, n, e)
			}
		}
		if c.Count() != 0 {
			t.Errorf("Count: %d", c.Count())
		}
		for _, id := range []int{0, -1, 1, math.MaxInt, math.MinInt} {
			if s, e := c.Type(id); !equal(s, api.SubType{}) || e != api.ErrZero {
				t.Errorf("Type(%d): %v, %d", id, s, e)
			}
			if first, many, e := c.Group(id); first != 0 || many != 0 || e != api.ErrZero {
				t.Errorf("Group(%d): %d, %d, %d", id, first, many, e)
			}
		}
		if c.Copy() != nil {
			t.Error("Copy: not nil")
		}
	}
}

func TestP62NotClosed(t *testing.T) {
	c := canon.New()
	added(t, c, read("(func)"))
	for want, l := range openLists() {
		if ids, n, e := c.Add(l); len(ids) != 0 || n != want || e != api.ErrUnknown || c.Count() != 1 {
			t.Errorf("Add(%v): %v, %d, %d, not %d", l, ids, n, e, want)
		}
	}
	// What stood ahead of the fault is not kept either.
	if ids := added(t, c, read("(rec (func) (struct))", "(func)")); !slices.Equal(ids, []int{1, 2, 0}) {
		t.Errorf("%v", ids)
	}
	// It comes ahead of what is too much.
	l := append(wide(api.MaxTypes+1), read("(array (ref 20000))")...)
	if ids, n, e := c.Add(l); len(ids) != 0 || n != api.MaxTypes+1 || e != api.ErrUnknown || c.Count() != 3 {
		t.Errorf("Add: %d ids, %d, %d", len(ids), n, e)
	}
}

func TestP62JustMaxTypes(t *testing.T) {
	c := canon.New()
	l := wide(api.MaxTypes)
	ids := added(t, c, l)
	for n, id := range ids {
		if id != n {
			t.Fatalf("the type %d has the id %d", n, id)
		}
	}
	if len(ids) != api.MaxTypes || c.Count() != api.MaxTypes {
		t.Fatalf("%d types, %d ids", len(ids), c.Count())
	}
	// What is known, and what has no types, needs no room.
	if again := added(t, c, append(l[:10:10], read("(rec)", "(array (ref 4))", "(rec)")...)); again[10] != 5 {
		t.Errorf("%v", again)
	}
	added(t, c, l)
	for _, more := range []struct {
		l []api.RecType
		g int
	}{
		{read("(func)"), 0},
		{read("(struct)", "(func)", "(sub (func))"), 1},
		{read("(rec)", "(rec)", "(rec (struct))", "(rec (struct) (struct))"), 3},
		{append(l[:api.MaxTypes:api.MaxTypes], read("(array (ref 9999))", "(array (ref 0))")...), api.MaxTypes},
	} {
		if ids, g, e := c.Add(more.l); len(ids) != 0 || g != more.g || e != api.ErrLong || c.Count() != api.MaxTypes {
			t.Errorf("Add to a full table: %v, %d, %d, not %d", ids, g, e, more.g)
		}
	}
	if s, e := c.Type(api.MaxTypes - 1); !equal(s, sub("(array (ref 9998))")) || e != api.OK {
		t.Errorf("Type: %v, %d", s, e)
	}
	if s, e := c.Type(api.MaxTypes); !equal(s, api.SubType{}) || e != api.ErrNone {
		t.Errorf("Type: %v, %d", s, e)
	}
}

func TestP62OneGroupTooMany(t *testing.T) {
	great := func(n int) api.RecType { return api.RecType{Types: make([]api.SubType, n)} }
	c := canon.New()
	if ids, g, e := c.Add([]api.RecType{great(api.MaxTypes + 1)}); len(ids) != 0 || g != 0 || e != api.ErrLong || c.Count() != 0 {
		t.Errorf("Add: %d ids, %d, %d", len(ids), g, e)
	}
	half := api.MaxTypes / 2
	if ids, g, e := c.Add([]api.RecType{great(half), great(half + 1), great(half)}); len(ids) != 0 || g != 1 || e != api.ErrLong || c.Count() != 0 {
		t.Errorf("Add: %d ids, %d, %d", len(ids), g, e)
	}
	// Nothing of it was kept: the ids are given from 0 on.
	if ids := added(t, c, read("(func)")); !slices.Equal(ids, []int{0}) {
		t.Errorf("%v", ids)
	}
	if ids := added(t, c, []api.RecType{great(half), great(half - 1), great(half)}); c.Count() != api.MaxTypes || ids[0] != 1 || ids[len(ids)-1] != half {
		t.Errorf("%d ids", c.Count())
	}
	// More types than there may be ids, but few that are unlike.
	many := slices.Repeat(read("(func)"), 3*api.MaxTypes)
	if ids := added(t, c, many); len(ids) != 3*api.MaxTypes || slices.Max(ids) != 0 {
		t.Errorf("%d ids, the greatest %d", len(ids), slices.Max(ids))
	}
	if ids := added(t, canon.New(), many); len(ids) != 3*api.MaxTypes || slices.Max(ids) != 0 {
		t.Errorf("%d ids, the greatest %d", len(ids), slices.Max(ids))
	}
}

// A table that refused goes on as one that was never asked.
func TestP62RefusedKeepsNothing(t *testing.T) {
	c := canon.New()
	added(t, c, wide(api.MaxTypes-2))
	if _, g, e := c.Add(read("(func)", "(sub (func))", "(sub (struct))", "(func)")); g != 2 || e != api.ErrLong || c.Count() != api.MaxTypes-2 {
		t.Errorf("Add: %d, %d, %d", g, e, c.Count())
	}
	if ids := added(t, c, read("(sub (struct))", "(func)")); !slices.Equal(ids, []int{api.MaxTypes - 2, api.MaxTypes - 1}) {
		t.Errorf("%v", ids)
	}
	if s, e := c.Type(api.MaxTypes - 2); !equal(s, sub("(sub (struct))")) || e != api.OK {
		t.Errorf("Type: %v, %d", s, e)
	}
}

func TestP63Type(t *testing.T) {
	c := canon.New()
	added(t, c, read("(func)", "(struct)"))
	odd := api.ValType{Num: api.TI64, Null: true, Heap: 1}
	none := api.ValType{Num: 9, Null: true, Heap: -13}
	mixed := api.SubType{Supers: []int{0}, Comp: api.CompType{Kind: api.CFunc, Params: []api.ValType{odd, {Num: api.TRef, Heap: 3}}, Results: []api.ValType{none, odd}, Fields: []api.Field{{Type: odd}}}}
	packed := api.SubType{Final: true, Comp: api.CompType{Kind: api.CStruct, Params: []api.ValType{odd}, Fields: []api.Field{{Type: api.ValType{Num: api.T8, Heap: -5}, Mut: true}, {Type: api.ValType{Num: api.TRef, Null: true, Heap: 2}}}}}
	l := append(read("(struct)", "(func)"), api.RecType{Types: []api.SubType{mixed, packed}})
	l = append(l, read("(sub final 3 2 1 (array (mut (ref null 3))))", "(func (param (ref any)) (result (ref null 5) (ref 0)))")...)
	if ids := added(t, c, l); !slices.Equal(ids, []int{1, 0, 2, 3, 4, 5}) {
		t.Fatalf("%v", ids)
	}
	plain := api.SubType{Supers: []int{1}, Comp: api.CompType{Kind: api.CFunc, Params: []api.ValType{{Num: api.TI64}, {Num: api.TRef, Heap: 3}}, Results: []api.ValType{{Num: 9}, {Num: api.TI64}}}}
	for id, want := range []api.SubType{
		sub("(func)"), sub("(struct)"), plain, sub("(struct (field (mut i8) (ref null 2)))"),
		sub("(sub final 3 2 0 (array (mut (ref null 3))))"), sub("(func (param (ref any)) (result (ref null 5) (ref 1)))"),
	} {
		if s, e := c.Type(id); !equal(s, want) || e != api.OK {
			t.Errorf("Type(%d): %v, %d, not %v", id, s, e, want)
		}
	}
	for _, id := range []int{6, 7, -1, -5, -100, math.MaxInt, math.MinInt} {
		if s, e := c.Type(id); !equal(s, api.SubType{}) || e != api.ErrNone {
			t.Errorf("Type(%d): %v, %d", id, s, e)
		}
	}
}

// A group that comes again, with other numbers, tells its types as they were.
func TestP63TypeOfItsOwnGroup(t *testing.T) {
	c := canon.New()
	added(t, c, read("(func)", "(rec (struct (field (ref null 2) (ref 0))) (sub 1 2 (array (ref 1))))"))
	added(t, c, read("(struct)", "(array i8)", "(func)", "(rec (struct (field (ref null 4) (ref 2))) (sub 3 4 (array (ref 3))))"))
	for id, want := range []string{"(func)", "(struct (field (ref null 2) (ref 0)))", "(sub 1 2 (array (ref 1)))", "(struct)", "(array i8)"} {
		if s, e := c.Type(id); !equal(s, sub(want)) || e != api.OK {
			t.Errorf("Type(%d): %v, %d, not %s", id, s, e, want)
		}
	}
	if c.Count() != 5 {
		t.Errorf("%d ids", c.Count())
	}
}

func TestP63Group(t *testing.T) {
	c := canon.New()
	for _, id := range []int{0, -1} {
		if first, many, e := c.Group(id); first != 0 || many != 0 || e != api.ErrNone {
			t.Errorf("Group(%d) of a new table: %d, %d, %d", id, first, many, e)
		}
	}
	added(t, c, read("(func)", "(rec)", "(rec (func) (struct) (func))", "(func)", "(rec (struct) (struct))"))
	added(t, c, read("(rec (func) (struct) (func))", "(rec (struct))"))
	for id, want := range [][2]int{{0, 1}, {1, 3}, {1, 3}, {1, 3}, {4, 2}, {4, 2}, {6, 1}} {
		if first, many, e := c.Group(id); first != want[0] || many != want[1] || e != api.OK {
			t.Errorf("Group(%d): %d, %d, %d, not %v", id, first, many, e, want)
		}
	}
	for _, id := range []int{7, -1, math.MaxInt, math.MinInt} {
		if first, many, e := c.Group(id); first != 0 || many != 0 || e != api.ErrNone {
			t.Errorf("Group(%d): %d, %d, %d", id, first, many, e)
		}
	}
}

// told is all that a table tells of its ids.
func told(c *canon.Table) string {
	s := ""
	for id := range c.Count() {
		sub, e := c.Type(id)
		first, many, f := c.Group(id)
		s += fmt.Sprintln(sub, e, first, many, f)
	}
	return s
}

func TestP63CopiesGoTheirOwnWays(t *testing.T) {
	empty := canon.New()
	c := empty.Copy()
	if c == nil || c.Count() != 0 {
		t.Fatalf("a copy of a new table: %v", c)
	}
	added(t, c, read("(func)", "(rec (struct) (array (ref 1)))"))
	if empty.Count() != 0 {
		t.Errorf("a copy's ids came to the first: %d", empty.Count())
	}
	d := c.Copy()
	if told(c) != told(d) {
		t.Errorf("%s is not %s", told(d), told(c))
	}
	before := told(c)
	if ids := added(t, d, read("(array i8)", "(func)", "(rec (struct) (array (ref 2)))")); !slices.Equal(ids, []int{3, 0, 1, 2}) {
		t.Errorf("%v", ids)
	}
	if told(c) != before {
		t.Errorf("%s became %s", before, told(c))
	}
	between := told(d)
	if ids := added(t, c, read("(array i16)", "(sub (struct))", "(array i8)")); !slices.Equal(ids, []int{3, 4, 5}) {
		t.Errorf("%v", ids)
	}
	if told(d) != between {
		t.Errorf("%s became %s", between, told(d))
	}
	if ids := added(t, d, read("(array i16)", "(array i8)")); !slices.Equal(ids, []int{4, 3}) {
		t.Errorf("%v", ids)
	}
	// A copy keeps the limit too.
	full := canon.New()
	added(t, full, wide(api.MaxTypes))
	if _, g, e := full.Copy().Add(read("(struct)", "(func)")); g != 1 || e != api.ErrLong {
		t.Errorf("Add to a copy of a full table: %d, %d", g, e)
	}
}

func TestP63WrittenOver(t *testing.T) {
	made := func() []api.RecType {
		return read("(func (param (ref 0)) (result (ref null 0) i32))", "(rec (sub 0 1 (struct (field (mut (ref 2)) i8))) (array (ref 1)))")
	}
	c := canon.New()
	l := made()
	ids := added(t, c, l)
	before := told(c)
	spoilAll(l)
	ids[0] = 99
	if told(c) != before {
		t.Errorf("%s became %s", before, told(c))
	}
	if ids := added(t, c, made()); !slices.Equal(ids, []int{0, 1, 2}) || c.Count() != 3 {
		t.Errorf("%v, %d", ids, c.Count())
	}
	d := c.Copy()
	for _, of := range []*canon.Table{c, d} {
		for id := range of.Count() {
			s, _ := of.Type(id)
			spoil(s)
		}
	}
	if told(c) != before || told(d) != before {
		t.Errorf("%s became %s and %s", before, told(c), told(d))
	}
}

func TestP64AddedAgain(t *testing.T) {
	g := newGenerator(64)
	c := canon.New()
	type module struct {
		l   []api.RecType
		ids []int
	}
	var all []module
	for range 300 {
		l := g.list()
		all = append(all, module{l, added(t, c, l)})
	}
	count, before := c.Count(), told(c)
	for _, m := range all {
		if ids := added(t, c, m.l); !slices.Equal(ids, m.ids) {
			t.Fatalf("Add(%v): %v, not %v", m.l, ids, m.ids)
		}
		checkTold(t, c, m.l, m.ids)
	}
	if c.Count() != count || told(c) != before {
		t.Errorf("%d ids became %d", count, c.Count())
	}
}

// checkTold looks whether a table tells a list's types, with ids in the place of numbers.
func checkTold(t *testing.T, c *canon.Table, l []api.RecType, ids []int) {
	t.Helper()
	n := 0
	for _, r := range l {
		r = copied(r)
		eachNumber(r, func(n *int) { *n = ids[*n] })
		for place, want := range r.Types {
			eachVal(want, func(v *api.ValType) {
				if v.Num != api.TRef {
					v.Null, v.Heap = false, 0
				}
			})
			if s, e := c.Type(ids[n]); !equal(s, want) || e != api.OK {
				t.Fatalf("Type(%d): %v, %d, not %v", ids[n], s, e, want)
			}
			if first, many, e := c.Group(ids[n]); first != ids[n]-place || many != len(r.Types) || e != api.OK {
				t.Fatalf("Group(%d): %d, %d, %d of %v", ids[n], first, many, e, r)
			}
			n++
		}
	}
	if n != len(ids) {
		t.Fatalf("%d types, %d ids", n, len(ids))
	}
}

func TestP64Equivalence(t *testing.T) {
	g := newGenerator(65)
	for range 1500 {
		l := g.list()
		n := types.Count(l)
		same := make([][]bool, n)
		for a := range n {
			same[a] = make([]bool, n)
			for b := range n {
				same[a][b], _ = canon.Same(l, a, b)
			}
		}
		for a := range n {
			for b := range n {
				if !same[a][a] || same[a][b] != same[b][a] {
					t.Fatalf("%v: %d and %d", l, a, b)
				}
				for c := range n {
					if same[a][b] && same[b][c] && !same[a][c] {
						t.Fatalf("%v: %d, %d and %d", l, a, b, c)
					}
				}
			}
		}
	}
}

// A group that speaks of itself, and the same one written out with types ahead of it, however far, are not one.
func TestP64WrittenOut(t *testing.T) {
	l := read(itself(0), itself(0), itself(1), "(rec "+itself(3)+" "+itself(4)+")", "(rec "+itself(4+2)+" "+itself(4+1)+")", "(rec "+itself(3)+" "+itself(4)+")", itself(9))
	ids := added(t, canon.New(), l)
	if !slices.Equal(ids, []int{0, 1, 2, 3, 4, 5, 6, 7, 8, 0}) {
		t.Errorf("%v", ids)
	}
}

func TestP64NeverOne(t *testing.T) {
	g := newGenerator(66)
	for range 2000 {
		l := g.list()
		ids := added(t, canon.New(), l)
		for a := range ids {
			for b := range ids {
				s, i, place, _ := types.At(l, a)
				u, j, other, _ := types.At(l, b)
				apart := place != other || len(l[i].Types) != len(l[j].Types) || s.Final != u.Final
				if apart && ids[a] == ids[b] {
					t.Fatalf("%v: %d and %d have the id %d", l, a, b, ids[a])
				}
			}
		}
	}
}

// The ids hang on the order of adding; whether two are the same does not.
func TestP64OrderOfAdding(t *testing.T) {
	g := newGenerator(67)
	for range 300 {
		a, b := g.twins()
		other := g.list()
		first, second, third := canon.New(), canon.New(), canon.New()
		idsA, idsB := added(t, first, a), added(t, first, b)
		laterB, laterA := added(t, second, b), added(t, second, a)
		added(t, third, other)
		far := added(t, third, joined(a, b))
		for x := range idsA {
			for y := range idsB {
				want := one(a, b, x, y)
				if idsA[x] == idsB[y] != want || laterA[x] == laterB[y] != want || far[x] == far[len(idsA)+y] != want {
					t.Fatalf("%v, %d and %v, %d: not %v each time", a, x, b, y, want)
				}
			}
		}
		again := canon.New()
		if ids := added(t, again, a); !slices.Equal(ids, idsA) {
			t.Fatalf("%v, then %v", idsA, ids)
		}
		if ids := added(t, again, b); !slices.Equal(ids, idsB) || told(again) != told(first) {
			t.Fatalf("%v, then %v", idsB, ids)
		}
	}
}

// Ids are given from 0 on, in order, to what is new.
func TestP64IdsInOrder(t *testing.T) {
	g := newGenerator(68)
	for range 500 {
		c := canon.New()
		seen := 0
		for range 4 {
			for _, id := range added(t, c, g.list()) {
				if id > seen {
					t.Fatalf("the id %d comes ahead of %d", id, seen)
				}
				seen = max(seen, id+1)
			}
			if c.Count() != seen {
				t.Fatalf("%d ids, not %d", c.Count(), seen)
			}
		}
	}
}
