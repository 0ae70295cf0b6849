package sub_test

import (
	"strconv"
	"testing"

	"ratchet/api"
	"ratchet/sub"
)

func holdDecl(t *testing.T, name string, l []api.RecType, n int, e api.Errno) {
	t.Helper()
	if m, got := sub.Decl(l); m != n || got != e {
		t.Errorf("Decl of %s: %d, %d, not %d, %d", name, m, got, n, e)
	}
}

func TestSU2Decl(t *testing.T) {
	for _, c := range []struct {
		texts []string
		n     int
		e     api.Errno
	}{
		{nil, 0, api.OK}, {[]string{"(rec)"}, 0, api.OK}, {[]string{"(func)"}, 0, api.OK},
		{[]string{"(sub (struct))", "(sub 0 (struct (field i32)))", "(sub final 1 (struct (field i32 i64)))"}, 0, api.OK},
		{[]string{"(rec (sub (struct)) (sub 0 (struct (field (ref 2)))) (sub final 1 (struct (field (ref 2) (ref 0)))))"}, 0, api.OK},
		{[]string{"(sub (func (param (ref any))))", "(func (param i32))", "(sub 0 (func (param (ref null any))))", "(sub 2 (func (param (ref null any))))"}, 0, api.OK},
		{[]string{"(sub (array (ref 0)))", "(sub 0 (array (ref 1)))"}, 0, api.OK},
		// By types that are one.
		{[]string{"(sub (struct))", "(sub (struct))", "(sub (array (mut (ref 0))))", "(sub 2 (array (mut (ref 1))))"}, 0, api.OK},
		// A type speaks of a later one of its group, whose declaration says that it matches.
		{[]string{"(rec (sub (struct)) (sub (array (ref 0))) (sub 1 (array (ref 3))) (sub 0 (struct)))"}, 0, api.OK},
		{[]string{"(rec (sub (struct)) (sub (array (ref 0))) (sub 1 (array (ref 3))) (sub (struct)))"}, 2, api.ErrSuper},
		// A Super at or above its own number.
		{[]string{"(sub 0 (struct))"}, 0, api.ErrUnknown},
		{[]string{"(func)", "(sub 1 (struct))"}, 1, api.ErrUnknown},
		{[]string{"(func)", "(rec (sub 2 (struct)) (sub (struct)))"}, 1, api.ErrUnknown},
		{[]string{"(rec (sub 1 (struct)) (sub 0 (struct)))"}, 0, api.ErrUnknown},
		{[]string{"(sub (struct))", "(sub 0 1 (struct))"}, 1, api.ErrUnknown},
		{[]string{"(sub (struct))", "(sub 1 0 (struct))"}, 1, api.ErrUnknown},
		{[]string{"(sub (struct))", "(rec (sub 0 0 2 (struct)) (func))"}, 1, api.ErrUnknown},
		// More than one Super.
		{[]string{"(sub (struct))", "(sub 0 0 (struct))"}, 1, api.ErrArg},
		{[]string{"(sub (struct))", "(sub (struct))", "(sub 1 0 (struct))"}, 2, api.ErrArg},
		{[]string{"(struct)", "(sub 0 0 (func))"}, 1, api.ErrArg},
		// A final Super.
		{[]string{"(struct)", "(sub 0 (struct))"}, 1, api.ErrFinal},
		{[]string{"(struct)", "(sub 0 (func))"}, 1, api.ErrFinal},
		{[]string{"(sub (struct))", "(sub final 0 (struct))", "(sub 1 (struct))"}, 2, api.ErrFinal},
		{[]string{"(sub (struct))", "(struct)", "(sub 0 (struct))", "(sub final 1 (struct))", "(sub 0 0 (struct))"}, 3, api.ErrFinal},
		// It does not match.
		{[]string{"(sub (struct))", "(sub 0 (func))"}, 1, api.ErrSuper},
		{[]string{"(sub (struct (field i32)))", "(sub 0 (struct))"}, 1, api.ErrSuper},
		{[]string{"(sub (struct (field i32)))", "(sub 0 (struct (field (mut i32))))"}, 1, api.ErrSuper},
		{[]string{"(sub (func (param (ref null any))))", "(sub 0 (func (param (ref any))))"}, 1, api.ErrSuper},
		{[]string{"(sub (func (result (ref any))))", "(sub 0 (func (result (ref null any))))"}, 1, api.ErrSuper},
		{[]string{"(sub (array i8))", "(sub 0 (array i16))"}, 1, api.ErrSuper},
		// The first type at fault, whatever its fault.
		{[]string{"(sub (struct))", "(sub 0 (func))", "(sub 2 (func))"}, 1, api.ErrSuper},
		{[]string{"(sub (struct))", "(rec (sub 0 (struct)) (sub 0 (func)) (sub 0 0 (struct)))"}, 2, api.ErrSuper},
	} {
		holdDecl(t, listText(read(c.texts...)), read(c.texts...), c.n, c.e)
	}
	holdDecl(t, "an empty list", []api.RecType{}, 0, api.OK)
}

func TestSU2DeclOfListsThatAreNotClosed(t *testing.T) {
	for name, c := range unclosed() {
		holdDecl(t, name, c.l, c.n, api.ErrUnknown)
	}
	// Closedness is looked at ahead of all declarations.
	holdDecl(t, "a fault ahead", read("(struct)", "(sub 0 (struct))", "(func (param (ref 3)))"), 2, api.ErrUnknown)
	holdDecl(t, "a type above itself ahead", read("(sub 0 (struct))", "(func (param (ref 2)))"), 1, api.ErrUnknown)
}

func TestSU2DeclOfRows(t *testing.T) {
	holdDecl(t, "63 types", chain(63), 0, api.OK)
	holdDecl(t, "64 types", chain(64), 0, api.OK)
	holdDecl(t, "65 types", chain(65), 64, api.ErrDepth)
	holdDecl(t, "66 types", chain(66), 64, api.ErrDepth)
	holdDecl(t, "many types", chain(5000), 64, api.ErrDepth)
	// Depth is of the row, not of the number.
	l := append(chain(64), read("(sub (struct))", "(sub 0 (struct))", "(sub 62 (struct))")...)
	holdDecl(t, "rows beside one another", l, 0, api.OK)
	holdDecl(t, "a second type at the end", append(l, read("(sub 66 (struct))")...), 67, api.ErrDepth)
	// In one group.
	all := api.RecType{}
	for _, r := range chain(65) {
		all.Types = append(all.Types, r.Types...)
	}
	holdDecl(t, "a group of 65", []api.RecType{all}, 64, api.ErrDepth)
	holdDecl(t, "a group of 64", []api.RecType{{Types: all.Types[:64]}}, 0, api.OK)
	// The other errors stand around it.
	below := func(text string) []api.RecType { return append(chain(64), read(text)...) }
	holdDecl(t, "depth and kind", below("(sub 63 (func))"), 64, api.ErrDepth)
	holdDecl(t, "depth and two", below("(sub 63 62 (struct))"), 64, api.ErrArg)
	holdDecl(t, "depth and itself", below("(sub 64 (struct))"), 64, api.ErrUnknown)
	last := chain(64)
	last[63].Types[0].Final = true
	holdDecl(t, "depth and final", append(last, read("(sub 63 (struct))")...), 64, api.ErrFinal)
}

func TestSU2DeclOfWhatIsNone(t *testing.T) {
	none, empty := api.CompType{Kind: 4}, api.CompType{Kind: api.CArray}
	odd := api.CompType{Kind: api.CStruct, Fields: []api.Field{{Type: api.ValType{Num: 9}}}}
	holdDecl(t, "no kind", []api.RecType{alone(none), alone(empty), alone(odd)}, 0, api.OK)
	holdDecl(t, "no kind below no kind", []api.RecType{alone(none), alone(none, 0)}, 1, api.ErrSuper)
	holdDecl(t, "an array without a field", []api.RecType{alone(empty), alone(empty, 0)}, 1, api.ErrSuper)
	holdDecl(t, "a field of no type", []api.RecType{alone(odd), alone(odd, 0)}, 1, api.ErrSuper)
}

// Of all types at once, also of more than a table of ids takes.
func TestSU2DeclOfManyTypes(t *testing.T) {
	l := twice(api.MaxTypes + 1)
	holdDecl(t, "unlike types", l, 0, api.OK)
	n := len(l)
	l = append(l, read("(sub (array (mut (ref "+strconv.Itoa(n/2-1)+"))))", "(sub "+strconv.Itoa(n)+" (array (mut (ref "+strconv.Itoa(n-1)+"))))")...)
	holdDecl(t, "a type of types that are one", l, 0, api.OK)
	l = append(l, read("(sub "+strconv.Itoa(n)+" (array (mut (ref "+strconv.Itoa(n-2)+"))))")...)
	holdDecl(t, "a type of unlike ones", l, n+2, api.ErrSuper)
}

func TestSU2DeclOfMany(t *testing.T) {
	seen := map[api.Errno]int{}
	for _, wild := range []bool{false, true} {
		g := newGenerator(9, wild)
		for range 2000 {
			l := g.list()
			n, e := newOracle(l).decl()
			holdDecl(t, listText(l), l, n, e)
			seen[e]++
		}
	}
	for _, e := range []api.Errno{api.OK, api.ErrUnknown, api.ErrArg, api.ErrFinal, api.ErrSuper} {
		if seen[e] < 100 {
			t.Errorf("error %d came only %d times", e, seen[e])
		}
	}
}
