package sub_test

import (
	"math"
	"strconv"
	"strings"
	"testing"

	"ratchet/api"
	"ratchet/canon"
	"ratchet/sub"
	"ratchet/types"
)

// holdHeaps holds all pairs of a list's heap types against what each is said to match.
func holdHeaps(t *testing.T, l []api.RecType, want map[int]string) {
	t.Helper()
	for _, a := range heaps(l) {
		words := " " + want[a] + " "
		for _, b := range heaps(l) {
			ok := strings.Contains(words, " "+types.HeapText(b)+" ")
			if got := sub.Heap(l, a, b); got != ok {
				t.Errorf("Heap(%s, %s) = %v", types.HeapText(a), types.HeapText(b), got)
			}
		}
	}
}

// abstract is what each abstract heap type matches, where there are no defined ones.
func abstract() map[int]string {
	return map[int]string{
		api.HFunc: "func", api.HNoFunc: "nofunc func",
		api.HExtern: "extern", api.HNoExtern: "noextern extern",
		api.HExn: "exn", api.HNoExn: "noexn exn",
		api.HAny: "any", api.HEq: "eq any",
		api.HI31: "i31 eq any", api.HStruct: "struct eq any", api.HArray: "array eq any",
		api.HNone: "none i31 struct array eq any",
	}
}

func TestSU1Examples(t *testing.T) {
	if !sub.Heap(nil, api.HNone, api.HEq) || sub.Heap(nil, api.HI31, api.HStruct) || !sub.Heap(nil, api.HNoFunc, api.HFunc) {
		t.Error("Heap of abstract ones")
	}
	if !sub.Val(nil, val("(ref any)"), val("(ref null any)")) || sub.Val(nil, val("(ref null any)"), val("(ref any)")) {
		t.Error("Val of any")
	}
	l := read("(sub (struct))", "(sub 0 (struct (field i32)))")
	if !sub.Heap(l, 1, 0) || sub.Heap(l, 0, 1) {
		t.Error("Heap of structs")
	}
	if d := sub.Diff(val("(ref null any)"), val("(ref null i31)")); d != val("(ref any)") {
		t.Errorf("Diff: %v", d)
	}
}

func TestSU1HeapAbstract(t *testing.T) {
	holdHeaps(t, nil, abstract())
	holdHeaps(t, []api.RecType{}, abstract())
	holdHeaps(t, read("(rec)"), abstract())
}

func TestSU1HeapOfEachKind(t *testing.T) {
	want := abstract()
	want[api.HNone] += " 0 1 2 3 4 8"
	want[api.HNoFunc] += " 5 6 7"
	want[0], want[1], want[2] = "0 struct eq any", "1 0 struct eq any", "2 1 0 struct eq any"
	want[3], want[4] = "3 array eq any", "4 3 array eq any"
	want[5], want[6], want[7] = "5 func", "6 5 func", "7 func"
	// Of the same shape as 1, but nothing is declared.
	want[8] = "8 struct eq any"
	holdHeaps(t, read(
		"(sub (struct))", "(sub 0 (struct (field i32)))", "(sub final 1 (struct (field i32 i64)))",
		"(sub (array i8))", "(sub 3 (array i8))",
		"(sub (func))", "(sub 5 (func))", "(func (param i32))",
		"(sub (struct (field i32)))"), want)
}

func TestSU1HeapOfTypesThatAreOne(t *testing.T) {
	want := abstract()
	want[api.HNone] += " 0 1 2 3 4 5"
	want[0], want[1] = "0 1 struct eq any", "0 1 struct eq any"
	want[2], want[3] = "2 3 0 1 struct eq any", "2 3 0 1 struct eq any"
	want[4] = "4 2 3 0 1 struct eq any"
	want[5] = "5 2 3 0 1 struct eq any"
	holdHeaps(t, read(
		"(sub (struct))", "(rec (sub (struct)))",
		"(sub 0 (struct (field i32)))", "(sub 1 (struct (field i32)))",
		"(sub 3 (struct (field i32 i32)))", "(sub 2 (struct (field i32 i64)))"), want)
}

func TestSU1HeapWithinGroups(t *testing.T) {
	want := abstract()
	want[api.HNone] += " 0 1 2 3 4 5"
	want[0], want[2] = "0 2 struct eq any", "0 2 struct eq any"
	want[1], want[3] = "1 3 0 2 struct eq any", "1 3 0 2 struct eq any"
	// Alike each by itself, but not as a group.
	want[4], want[5] = "4 struct eq any", "5 4 struct eq any"
	holdHeaps(t, read(
		"(rec (sub (struct)) (sub 0 (struct (field (ref 1)))))",
		"(rec (sub (struct)) (sub 2 (struct (field (ref 3)))))",
		"(sub (struct))", "(sub 4 (struct (field (ref 5))))"), want)
}

// Declarations that may not be: what is declared counts all the same, and what leads round ends.
func TestSU1HeapOfDeclarationsThatMayNotBe(t *testing.T) {
	want := abstract()
	want[api.HNone] += " 0 1"
	want[0], want[1] = "0 1 struct eq any", "0 1 struct eq any"
	holdHeaps(t, read("(sub 0 (struct))", "(sub 1 (struct))"), want)
	holdHeaps(t, read("(rec (sub 1 (struct)) (sub 0 (struct)))"), want)
	holdHeaps(t, read("(rec (sub 1 (struct)) (sub 1 (struct (field i32))))"), map[int]string{
		api.HFunc: "func", api.HNoFunc: "nofunc func", api.HExtern: "extern", api.HNoExtern: "noextern extern", api.HExn: "exn", api.HNoExn: "noexn exn",
		api.HAny: "any", api.HEq: "eq any", api.HI31: "i31 eq any", api.HStruct: "struct eq any", api.HArray: "array eq any",
		api.HNone: want[api.HNone], 0: "0 1 struct eq any", 1: "1 struct eq any",
	})
	// A later one of the group, and rows that lead round, written twice.
	want = abstract()
	want[api.HNone] += " 0 1 2 3 4 5"
	want[0], want[3] = "0 3 1 4 2 5 struct eq any", "0 3 1 4 2 5 struct eq any"
	want[1], want[4] = want[0], want[0]
	want[2], want[5] = want[0], want[0]
	holdHeaps(t, read("(rec (sub 1 (struct)) (sub 2 (struct)) (sub 0 (struct)))", "(rec (sub 4 (struct)) (sub 5 (struct)) (sub 3 (struct)))"), want)
	// The first Super alone, and a final one.
	want = abstract()
	want[api.HNoFunc] += " 0 1 2 3"
	want[0], want[1], want[2], want[3] = "0 func", "1 func", "2 1 func", "3 0 func"
	holdHeaps(t, read("(sub (func))", "(func (param i32))", "(sub 1 0 (func))", "(sub 0 1 1 (func))"), want)
	// Below one of another kind: it matches what that one matches.
	want = abstract()
	want[api.HNoFunc] += " 0"
	want[api.HNone] += " 1 2"
	want[0], want[1], want[2] = "0 func", "1 0 func struct eq any", "2 1 0 array func struct eq any"
	holdHeaps(t, read("(sub (func))", "(sub 0 (struct))", "(sub 1 (array i8))"), want)
}

func TestSU1HeapOfNoKind(t *testing.T) {
	want := abstract()
	want[api.HNone] += " 4"
	want[0], want[1], want[2], want[3], want[4] = "0 1", "0 1", "2", "3 0 1", "4 struct eq any 0 1"
	l := []api.RecType{alone(api.CompType{}), alone(api.CompType{}), alone(api.CompType{Kind: 4}), alone(api.CompType{Kind: -1}, 0), alone(api.CompType{Kind: api.CStruct}, 1)}
	holdHeaps(t, l, want)
	for n := range 4 {
		if h, e := sub.Top(l, n); h != 0 || e != api.ErrUnknown {
			t.Errorf("Top(%d): %d, %d", n, h, e)
		}
		if h, e := sub.Bottom(l, n); h != 0 || e != api.ErrUnknown {
			t.Errorf("Bottom(%d): %d, %d", n, h, e)
		}
	}
}

func TestSU1HeapOfLongRows(t *testing.T) {
	for _, many := range []int{63, 64, 65, 3000} {
		l := chain(many)
		last := many - 1
		if !sub.Heap(l, last, 0) || sub.Heap(l, 0, last) || !sub.Heap(l, last, last/2) || sub.Heap(l, last-1, last) || !sub.Heap(l, last, api.HAny) || sub.Heap(l, last, api.HI31) {
			t.Errorf("a row of %d", many)
		}
	}
}

// twice is a list of more unlike types than a table of ids takes, and all of them again.
func twice(half int) []api.RecType {
	var l []api.RecType
	for n := range 2 * half {
		c := api.CompType{Kind: api.CStruct, Fields: []api.Field{{Type: api.ValType{Num: api.TI32}}}}
		r := alone(c)
		if n%half > 0 {
			r.Types[0].Comp.Fields[0].Type = ref(n - 1)
		}
		l = append(l, r)
	}
	return l
}

func TestSU1HeapHasNoLimitOfTypes(t *testing.T) {
	half := api.MaxTypes + 1
	l := twice(half)
	if _, _, e := canon.New().Add(l); e != api.ErrLong {
		t.Fatalf("a table takes them: %d", e)
	}
	last := half - 1
	if !sub.Heap(l, last, half+last) || !sub.Heap(l, half+last, last) || sub.Heap(l, last, half+last-1) || sub.Heap(l, last-1, half+last) {
		t.Error("types that are one")
	}
}

func TestSU1HeapOfMany(t *testing.T) {
	for _, wild := range []bool{false, true} {
		g := newGenerator(7, wild)
		ones := 0
		for range 800 {
			l := g.list()
			o := newOracle(l)
			for _, a := range heaps(l) {
				for _, b := range heaps(l) {
					if got := sub.Heap(l, a, b); got != o.heap(a, b) {
						t.Fatalf("Heap(%s, %d, %d) = %v", listText(l), a, b, got)
					}
					if got, want := sub.Defined(l, a, b), a >= 0 && b >= 0 && o.heap(a, b); got != want {
						t.Fatalf("Defined(%s, %d, %d) = %v", listText(l), a, b, got)
					}
					if a >= 0 && a < b && o.heap(a, b) && o.heap(b, a) {
						ones++
					}
				}
				f := o.family(a)
				if h, e := sub.Top(l, a); h != f[0] || e != api.OK {
					t.Fatalf("Top(%s, %d): %d, %d", listText(l), a, h, e)
				}
				if h, e := sub.Bottom(l, a); h != f[1] || e != api.OK {
					t.Fatalf("Bottom(%s, %d): %d, %d", listText(l), a, h, e)
				}
			}
		}
		if ones < 500 {
			t.Errorf("only %d pairs match both ways", ones)
		}
	}
}

func listText(l []api.RecType) string {
	var out []string
	for _, r := range l {
		out = append(out, types.RecText(r))
	}
	return strings.Join(out, " ")
}

func TestSU1Defined(t *testing.T) {
	l := read("(sub (struct))", "(sub 0 (struct (field i32)))", "(sub (struct))", "(func)")
	for _, c := range []struct {
		a, b int
		want bool
	}{
		{0, 0, true}, {1, 0, true}, {0, 1, false}, {1, 2, true}, {0, 2, true}, {2, 0, true}, {3, 3, true}, {3, 0, false},
		{0, api.HStruct, false}, {api.HNone, 0, false}, {api.HAny, api.HAny, false}, {-1, -1, false}, {4, 4, false}, {0, 4, false}, {4, 0, false},
		{math.MaxInt, math.MaxInt, false}, {math.MinInt, math.MinInt, false},
	} {
		if got := sub.Defined(l, c.a, c.b); got != c.want {
			t.Errorf("Defined(%d, %d) = %v", c.a, c.b, got)
		}
	}
}

func TestSU1TopAndBottom(t *testing.T) {
	l := read("(func)", "(struct)", "(array i8)")
	want := tops()
	want[0], want[1], want[2] = tops()[api.HFunc], tops()[api.HAny], tops()[api.HAny]
	for h, f := range want {
		if top, e := sub.Top(l, h); top != f[0] || e != api.OK {
			t.Errorf("Top(%d): %d, %d", h, top, e)
		}
		if bottom, e := sub.Bottom(l, h); bottom != f[1] || e != api.OK {
			t.Errorf("Bottom(%d): %d, %d", h, bottom, e)
		}
	}
	for _, h := range []int{3, -13, -100, math.MaxInt, math.MinInt} {
		if top, e := sub.Top(l, h); top != 0 || e != api.ErrUnknown {
			t.Errorf("Top(%d): %d, %d", h, top, e)
		}
		if bottom, e := sub.Bottom(l, h); bottom != 0 || e != api.ErrUnknown {
			t.Errorf("Bottom(%d): %d, %d", h, bottom, e)
		}
	}
	for h := range tops() {
		if top, e := sub.Top(nil, h); top != want[h][0] || e != api.OK {
			t.Errorf("Top(%d) of no types: %d, %d", h, top, e)
		}
	}
	if _, e := sub.Top(nil, 0); e != api.ErrUnknown {
		t.Errorf("Top(0) of no types: %d", e)
	}
}

func TestSU1Diff(t *testing.T) {
	for _, c := range []struct{ a, b, want string }{
		{"(ref null any)", "(ref null i31)", "(ref any)"},
		{"(ref null any)", "(ref i31)", "(ref null any)"},
		{"(ref any)", "(ref null i31)", "(ref any)"},
		{"(ref any)", "(ref i31)", "(ref any)"},
		{"(ref null 7)", "(ref null none)", "(ref 7)"},
		{"(ref null 7)", "(ref null 7)", "(ref 7)"},
		{"(ref null func)", "(ref null extern)", "(ref func)"},
		{"(ref null any)", "i32", "(ref null any)"},
		{"i32", "(ref null any)", "i32"},
	} {
		if got := sub.Diff(val(c.a), val(c.b)); got != val(c.want) {
			t.Errorf("Diff(%s, %s) = %v", c.a, c.b, got)
		}
	}
	// What a number's Null holds counts for nothing.
	if got := sub.Diff(refNull(0), api.ValType{Num: api.TI32, Null: true}); got != refNull(0) {
		t.Errorf("Diff less a number: %v", got)
	}
}

func TestSU1HeapRowsByNumber(t *testing.T) {
	// Two rows of the same shape: each matches what the other one does.
	var texts []string
	for k := range 2 {
		first := k * 64
		texts = append(texts, "(sub (func))")
		for n := 1; n < 64; n++ {
			texts = append(texts, "(sub "+strconv.Itoa(first+n-1)+" (func))")
		}
	}
	l := read(texts...)
	for a := range 64 {
		for _, b := range []int{0, 1, 31, 62, 63} {
			if got := sub.Heap(l, 64+a, b); got != (b <= a) {
				t.Errorf("Heap(%d, %d) = %v", 64+a, b, got)
			}
			if got := sub.Heap(l, a, 64+b); got != (b <= a) {
				t.Errorf("Heap(%d, %d) = %v", a, 64+b, got)
			}
		}
	}
}
