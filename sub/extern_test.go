package sub_test

import (
	"math"
	"testing"

	"ratchet/api"
	"ratchet/sub"
)

func least(n uint64) api.Limits { return api.Limits{Min: n} }

func between(n, m uint64) api.Limits { return api.Limits{Min: n, Max: m, HasMax: true} }

func wide(l api.Limits) api.Limits {
	l.Wide = true
	return l
}

// limitCases are limits, and whether what has the first may stand where the second are asked.
func limitCases() []struct {
	a, b api.Limits
	want bool
} {
	const most = math.MaxUint64
	return []struct {
		a, b api.Limits
		want bool
	}{
		{least(0), least(0), true}, {least(1), least(1), true}, {least(2), least(1), true}, {least(1), least(2), false}, {least(most), least(most - 1), true}, {least(most - 1), least(most), false}, {least(0), least(most), false},
		{between(1, 3), least(1), true}, {between(2, 3), least(1), true}, {between(0, 3), least(1), false},
		{least(1), between(1, 3), false}, {least(1), between(1, most), false}, {least(5), between(1, 3), false},
		{between(1, 3), between(1, 3), true}, {between(1, 2), between(1, 3), true}, {between(1, 4), between(1, 3), false}, {between(2, 2), between(1, 3), true}, {between(0, 2), between(1, 3), false}, {between(1, most), between(1, most-1), false}, {between(1, most-1), between(1, most), true},
		{between(3, 1), between(2, 1), true},
		// A Max that is not had counts for nothing.
		{api.Limits{Min: 1, Max: 3}, between(1, 3), false}, {between(1, 9), api.Limits{Min: 1, Max: 3}, true}, {api.Limits{Min: 1, Max: 9}, api.Limits{Min: 1, Max: 3}, true},
		{least(1), wide(least(1)), false}, {wide(least(1)), least(1), false}, {wide(least(1)), wide(least(1)), true}, {wide(between(1, 2)), wide(between(1, 3)), true}, {wide(between(1, 2)), between(1, 3), false}, {between(1, 2), wide(between(1, 3)), false}, {wide(least(1)), wide(least(2)), false},
	}
}

func TestSU3Limits(t *testing.T) {
	for _, c := range limitCases() {
		if got := sub.Limits(c.a, c.b); got != c.want {
			t.Errorf("Limits(%v, %v) = %v", c.a, c.b, got)
		}
	}
}

func function(n int) api.Extern { return api.Extern{Kind: api.KFunc, Type: n} }

func tag(n int) api.Extern { return api.Extern{Kind: api.KTag, Type: n} }

func memory(l api.Limits) api.Extern { return api.Extern{Kind: api.KMemory, Memory: l} }

func table(text string, l api.Limits) api.Extern {
	return api.Extern{Kind: api.KTable, Table: api.TableType{Elem: val(text), Limits: l}}
}

func global(text string) api.Extern {
	return api.Extern{Kind: api.KGlobal, Global: api.GlobalType{Type: val(text)}}
}

func variable(text string) api.Extern {
	return api.Extern{Kind: api.KGlobal, Global: api.GlobalType{Type: val(text), Mut: true}}
}

func holdExtern(t *testing.T, l []api.RecType, a, b api.Extern, want bool) {
	t.Helper()
	if got := sub.Extern(l, a, b); got != want {
		t.Errorf("Extern(%v, %v) = %v", a, b, got)
	}
}

func TestSU3ExternOfFunctionsAndTags(t *testing.T) {
	l := read("(sub (func))", "(sub 0 (func))", "(sub (func))", "(func (param i32))", "(struct)")
	for _, c := range []struct {
		a, b            int
		function, isTag bool
	}{
		{0, 0, true, true}, {1, 0, true, false}, {0, 1, false, false}, {2, 0, true, true}, {0, 2, true, true}, {1, 2, true, false}, {3, 0, false, false}, {3, 3, true, true}, {4, 4, true, true}, {4, 0, false, false},
		{5, 5, false, false}, {0, 5, false, false}, {5, 0, false, false}, {-1, -1, false, false}, {0, api.HFunc, false, false}, {api.HNoFunc, 0, false, false},
	} {
		holdExtern(t, l, function(c.a), function(c.b), c.function)
		holdExtern(t, l, tag(c.a), tag(c.b), c.isTag)
		holdExtern(t, l, function(c.a), tag(c.b), false)
		holdExtern(t, l, tag(c.a), function(c.b), false)
	}
}

func TestSU3ExternOfMemoriesAndTables(t *testing.T) {
	for _, c := range limitCases() {
		holdExtern(t, nil, memory(c.a), memory(c.b), c.want)
		holdExtern(t, nil, table("(ref null func)", c.a), table("(ref null func)", c.b), c.want)
		holdExtern(t, nil, table("(ref null func)", c.a), memory(c.b), false)
		holdExtern(t, nil, table("(ref func)", c.a), table("(ref null func)", c.b), false)
	}
	for _, c := range []struct {
		a, b string
		want bool
	}{
		{"(ref func)", "(ref func)", true}, {"(ref func)", "(ref null func)", false}, {"(ref null func)", "(ref func)", false}, {"(ref null nofunc)", "(ref null func)", false}, {"(ref null func)", "(ref null extern)", false},
		{"(ref 1)", "(ref 0)", false}, {"(ref 0)", "(ref 1)", false}, {"(ref 7)", "(ref 0)", true}, {"(ref null 8)", "(ref null 1)", true}, {"(ref 9)", "(ref 9)", false},
	} {
		holdExtern(t, family(), table(c.a, least(1)), table(c.b, least(1)), c.want)
		holdExtern(t, family(), table(c.a, least(0)), table(c.b, least(1)), false)
	}
}

func TestSU3ExternOfGlobals(t *testing.T) {
	for _, c := range []struct {
		a, b        string
		fixed, both bool
	}{
		{"i32", "i32", true, true}, {"i32", "i64", false, false}, {"i32", "(ref any)", false, false},
		{"(ref any)", "(ref any)", true, true}, {"(ref any)", "(ref null any)", true, false}, {"(ref null any)", "(ref any)", false, false}, {"(ref i31)", "(ref any)", true, false},
		{"(ref 1)", "(ref 0)", true, false}, {"(ref 0)", "(ref 1)", false, false}, {"(ref 0)", "(ref 7)", true, true}, {"(ref 9)", "(ref 9)", false, false},
	} {
		holdExtern(t, family(), global(c.a), global(c.b), c.fixed)
		holdExtern(t, family(), variable(c.a), variable(c.b), c.both)
		holdExtern(t, family(), variable(c.a), global(c.b), false)
		holdExtern(t, family(), global(c.a), variable(c.b), false)
	}
}

func TestSU3ExternOfUnlikeKinds(t *testing.T) {
	each := []api.Extern{function(0), table("(ref null func)", least(0)), memory(least(0)), global("i32"), tag(0)}
	for i, a := range each {
		for j, b := range each {
			holdExtern(t, read("(func)"), a, b, i == j)
		}
	}
	for _, kind := range []int{5, -1, math.MaxInt, math.MinInt} {
		a := api.Extern{Kind: kind, Global: api.GlobalType{Type: val("i32")}}
		holdExtern(t, read("(func)"), a, a, false)
		holdExtern(t, nil, a, a, false)
	}
}

// The fields of other kinds count for nothing.
func TestSU3ExternOfWhatCounts(t *testing.T) {
	l := read("(func)", "(func (param i32))")
	for kind := api.KFunc; kind <= api.KTag; kind++ {
		a := api.Extern{Kind: kind, Table: api.TableType{Elem: ref(api.HFunc)}, Global: api.GlobalType{Type: val("i32")}}
		b := a
		if kind != api.KFunc && kind != api.KTag {
			b.Type = 99
		}
		if kind != api.KTable {
			b.Table = api.TableType{Elem: ref(99), Limits: wide(between(7, 8))}
		}
		if kind != api.KMemory {
			b.Memory = wide(between(7, 8))
		}
		if kind != api.KGlobal {
			b.Global = api.GlobalType{Type: ref(99), Mut: true}
		}
		holdExtern(t, l, a, b, true)
		holdExtern(t, l, b, a, true)
	}
}
