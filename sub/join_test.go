package sub_test

import (
	"math"
	"slices"
	"testing"

	"ratchet/api"
	"ratchet/sub"
)

func holdJoin(t *testing.T, l []api.RecType, a, b, want int) {
	t.Helper()
	if h, ok := sub.Join(l, a, b); h != want || !ok {
		t.Errorf("Join(%s; %d, %d): %d, %v, not %d", listText(l), a, b, h, ok, want)
	}
}

func holdApart(t *testing.T, l []api.RecType, a, b int) {
	t.Helper()
	if h, ok := sub.Join(l, a, b); h != 0 || ok {
		t.Errorf("Join(%s; %d, %d): %d, %v", listText(l), a, b, h, ok)
	}
}

func TestSU4JoinAbstract(t *testing.T) {
	for _, c := range []struct{ a, b, want string }{
		{"none", "none", "none"}, {"none", "i31", "i31"}, {"none", "struct", "struct"}, {"none", "array", "array"}, {"none", "eq", "eq"}, {"none", "any", "any"},
		{"i31", "i31", "i31"}, {"i31", "struct", "eq"}, {"i31", "array", "eq"}, {"i31", "eq", "eq"}, {"i31", "any", "any"},
		{"struct", "struct", "struct"}, {"struct", "array", "eq"}, {"struct", "eq", "eq"}, {"struct", "any", "any"},
		{"array", "array", "array"}, {"array", "eq", "eq"}, {"array", "any", "any"},
		{"eq", "eq", "eq"}, {"eq", "any", "any"}, {"any", "any", "any"},
		{"func", "func", "func"}, {"func", "nofunc", "func"}, {"nofunc", "nofunc", "nofunc"},
		{"extern", "extern", "extern"}, {"extern", "noextern", "extern"}, {"noextern", "noextern", "noextern"},
		{"exn", "exn", "exn"}, {"exn", "noexn", "exn"}, {"noexn", "noexn", "noexn"},
	} {
		holdJoin(t, nil, heap(c.a), heap(c.b), heap(c.want))
		holdJoin(t, nil, heap(c.b), heap(c.a), heap(c.want))
	}
	for a, f := range tops() {
		for b, k := range tops() {
			if f != k {
				holdApart(t, nil, a, b)
			}
		}
	}
}

func TestSU4JoinExamples(t *testing.T) {
	l := read("(sub (struct))", "(sub 0 (struct (field i32)))")
	holdJoin(t, l, 1, 0, 0)
	holdJoin(t, l, 0, 1, 0)
	holdJoin(t, l, 1, api.HI31, api.HEq)
	holdJoin(t, l, api.HI31, 1, api.HEq)
}

func TestSU4JoinDefined(t *testing.T) {
	l := read(
		"(sub (struct))", "(sub 0 (struct (field i32)))", "(sub 1 (struct (field i32)))", "(sub 1 (struct (field i32 i32)))", // 0 to 3
		"(sub (struct (field i64)))",                                                  // 4
		"(sub (array i8))", "(sub 5 (array i8))", "(sub 5 (array i8))", "(array i16)", // 5 to 8
		"(sub (func))", "(sub 9 (func))", "(func (param i32))", // 9 to 11
		"(sub (struct))", "(sub 12 (struct (field i32)))", "(sub 13 (struct (field i64)))") // 12, 13: as 0, 1; 14
	for _, c := range []struct{ a, b, want int }{
		{0, 0, 0}, {2, 3, 1}, {3, 2, 1}, {2, 1, 1}, {1, 2, 1}, {2, 0, 0}, {0, 3, 0}, {2, 4, api.HStruct}, {4, 0, api.HStruct},
		{6, 7, 6}, {5, 6, 5}, {6, 5, 5}, {6, 8, api.HArray}, {2, 6, api.HEq}, {8, 4, api.HEq},
		{10, 9, 9}, {10, 11, api.HFunc}, {11, 11, 11},
		// By its number in the first one's row.
		{2, 14, 1}, {14, 2, 13}, {0, 12, 0}, {12, 0, 12}, {1, 12, 0}, {12, 1, 12}, {13, 2, 13}, {2, 13, 1}, {14, 4, api.HStruct},
		{2, api.HNone, 2}, {api.HNone, 2, 2}, {api.HNone, 6, 6}, {11, api.HNoFunc, 11}, {api.HNoFunc, 11, 11},
		{2, api.HStruct, api.HStruct}, {api.HStruct, 2, api.HStruct}, {2, api.HArray, api.HEq}, {api.HArray, 2, api.HEq}, {6, api.HArray, api.HArray}, {6, api.HStruct, api.HEq}, {6, api.HEq, api.HEq}, {api.HAny, 2, api.HAny}, {2, api.HAny, api.HAny}, {10, api.HFunc, api.HFunc}, {api.HFunc, 10, api.HFunc},
	} {
		holdJoin(t, l, c.a, c.b, c.want)
	}
	for _, c := range [][2]int{{0, 9}, {9, 5}, {0, api.HFunc}, {0, api.HNoFunc}, {9, api.HNone}, {9, api.HAny}, {0, api.HExtern}, {9, api.HExn}, {api.HNoExtern, 0}} {
		holdApart(t, l, c[0], c[1])
		holdApart(t, l, c[1], c[0])
	}
	for _, h := range []int{15, -13, -100, math.MaxInt, math.MinInt} {
		for _, k := range []int{h, 0, 9, api.HAny, api.HNone, api.HFunc} {
			holdApart(t, l, h, k)
			holdApart(t, l, k, h)
		}
	}
}

func TestSU4JoinOfLongRows(t *testing.T) {
	l := append(chain(64), read("(sub 30 (struct (field i32)))")...)
	holdJoin(t, l, 63, 64, 30)
	holdJoin(t, l, 64, 63, 30)
	holdJoin(t, l, 63, 62, 62)
	holdJoin(t, l, 0, 63, 0)
}

func TestSU4JoinOfDeclarationsThatMayNotBe(t *testing.T) {
	l := read("(rec (sub 1 (struct)) (sub 0 (struct)))", "(sub 2 (struct (field i32)))", "(sub 0 (struct (field i64)))", "(sub 3 0 (struct))", "(sub 1 2 (struct))")
	holdJoin(t, l, 0, 1, 0)
	holdJoin(t, l, 1, 0, 1)
	holdJoin(t, l, 2, 0, api.HStruct)
	holdJoin(t, l, 3, 1, 0)
	holdJoin(t, l, 4, 5, 0)
	holdJoin(t, l, 5, 4, 1)
	holdJoin(t, l, 5, 2, api.HStruct)
	// Families are those of the kinds.
	mixed := read("(sub (func))", "(sub 0 (struct))", "(sub 1 (struct))")
	holdApart(t, mixed, 1, 0)
	holdApart(t, mixed, 0, 1)
	holdJoin(t, mixed, 2, 1, 1)
}

func TestSU4JoinOfNoKind(t *testing.T) {
	none, other := api.CompType{}, api.CompType{Kind: 4}
	l := []api.RecType{
		alone(none), alone(none), alone(none, 0), alone(none, 1), alone(none, 2), // 0 and 1 are one, 2 and 3 too
		alone(other), alone(other, 0), // 5, 6
		alone(comp("(struct)"), 1), alone(comp("(func)"), 0), // 7, 8
		alone(comp("(struct)")), alone(none, 9), alone(other, 9), // 9 to 11
	}
	for _, c := range []struct{ a, b, want int }{
		{0, 0, 0}, {0, 1, 0}, {1, 0, 1}, {2, 2, 2}, {2, 0, 0}, {0, 2, 0}, {2, 1, 0}, {1, 2, 1}, {2, 3, 2}, {3, 2, 3},
		{4, 2, 2}, {4, 3, 2}, {3, 4, 3}, {4, 1, 0}, {1, 4, 1}, {5, 5, 5}, {6, 6, 6}, {6, 2, 0}, {3, 6, 1}, {6, 1, 0},
		// Together with those that have a family.
		{7, 7, 7}, {7, 0, 1}, {0, 7, 0}, {7, 2, 1}, {2, 7, 0}, {8, 1, 0}, {8, 6, 0}, {6, 8, 0}, {7, 9, api.HStruct},
		{10, 10, 10}, {10, 9, 9}, {9, 10, 9}, {10, 11, 9}, {11, 10, 9}, {10, 7, api.HStruct}, {7, 10, api.HStruct},
		{10, api.HNone, 9}, {api.HNone, 10, 9}, {11, api.HI31, api.HEq}, {api.HI31, 11, api.HEq}, {10, api.HStruct, api.HStruct}, {api.HAny, 10, api.HAny},
	} {
		holdJoin(t, l, c.a, c.b, c.want)
	}
	for _, c := range [][2]int{{0, 5}, {4, 5}, {5, 6}, {0, 9}, {0, 10}, {5, 11}, {5, 7}, {7, 8}, {8, 10}, {0, 12}, {0, -13}, {0, -100}, {0, math.MaxInt}, {0, math.MinInt}, {10, api.HFunc}, {10, api.HNoFunc}, {11, api.HExn}} {
		holdApart(t, l, c[0], c[1])
		holdApart(t, l, c[1], c[0])
	}
	for h := range tops() {
		for _, n := range []int{0, 2, 5, 6} {
			holdApart(t, l, n, h)
			holdApart(t, l, h, n)
		}
	}
	// Where all declarations may be, and where they lead round.
	if n, e := sub.Decl(l[:2]); n != 0 || e != api.OK {
		t.Errorf("Decl: %d, %d", n, e)
	}
	round := []api.RecType{{Types: []api.SubType{{Supers: []int{1}}, {Supers: []int{0}}, {}}}, alone(none, 3)}
	holdJoin(t, round, 0, 1, 0)
	holdJoin(t, round, 1, 0, 1)
	holdJoin(t, round, 3, 3, 3)
	holdApart(t, round, 0, 2)
	holdApart(t, round, 1, 3)
}

func TestSU4JoinOfMany(t *testing.T) {
	joined := 0
	g := newGenerator(10, false)
	for range 800 {
		l := g.list()
		o := newOracle(l)
		for _, a := range heaps(l) {
			for _, b := range heaps(l) {
				if o.family(a) != o.family(b) {
					holdApart(t, l, a, b)
					continue
				}
				want := o.joins(a, b)
				if a >= 0 && b >= 0 && want[0] >= 0 || len(want) > 1 && a >= 0 {
					// Of those that are one the number in the first one's row.
					row := o.row(a)
					if i := slices.IndexFunc(row, func(n int) bool { return slices.Contains(want, n) }); i >= 0 {
						want = row[i : i+1]
						joined++
					}
				}
				h, ok := sub.Join(l, a, b)
				if !ok || !slices.Contains(want, h) {
					t.Fatalf("Join(%s; %d, %d): %d, %v, not %v", listText(l), a, b, h, ok, want)
				}
			}
		}
	}
	if joined < 3000 {
		t.Errorf("only %d joins are defined types", joined)
	}
}

// bared takes the kind from many types, but from none that one with a kind declares above it.
func bared(g *generator, l []api.RecType) []api.RecType {
	out := copied(l)
	var all []*api.SubType
	for _, r := range out {
		for i := range r.Types {
			all = append(all, &r.Types[i])
		}
	}
	kept := map[int]bool{}
	for n, s := range slices.Backward(all) {
		if !kept[n] && g.Intn(3) > 0 {
			s.Comp = api.CompType{Kind: 4 * g.Intn(2)}
		} else if len(s.Supers) > 0 {
			kept[s.Supers[0]] = true
		}
	}
	return out
}

func TestSU4JoinOfManyOfNoKind(t *testing.T) {
	joined, apart := 0, 0
	g := newGenerator(16, false)
	for range 800 {
		l := bared(g, g.list())
		o := newOracle(l)
		for _, a := range heaps(l) {
			for _, b := range heaps(l) {
				want := o.joins(a, b)
				if len(want) == 0 {
					holdApart(t, l, a, b)
					apart++
					continue
				}
				if a >= 0 && b >= 0 && want[0] >= 0 {
					row := o.row(a)
					i := slices.IndexFunc(row, func(n int) bool { return slices.Contains(want, n) })
					want = row[i : i+1]
					joined++
				}
				if h, ok := sub.Join(l, a, b); !ok || !slices.Contains(want, h) {
					t.Fatalf("Join(%s; %d, %d): %d, %v, not %v", listText(l), a, b, h, ok, want)
				}
			}
		}
	}
	if joined < 3000 || apart < 3000 {
		t.Errorf("only %d joins are defined types, and %d are none", joined, apart)
	}
}
