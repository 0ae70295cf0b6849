package arena_test

import (
	"math"
	"math/big"
	"math/rand"
	"testing"

	"ratchet/api"
	"ratchet/arena"
)

// holdLayout holds a struct's layout against the chapter's words.
func holdLayout(t *testing.T, fields []int) {
	t.Helper()
	s := structOf(fields...)
	want, words := lain(fields)
	l, n, e := arena.Layout(s)
	if e != api.OK || n != 1+words || !equal(l, want) {
		t.Fatalf("Layout of %v: %v, %d, %v, not %v, %d", fields, l, n, e, want, 1+words)
	}
	for _, many := range []uint64{0, 1, 9, 1 << 40, math.MaxUint64} {
		if n, e := arena.Words(s, many); e != api.OK || n != uint64(1+words) {
			t.Fatalf("Words of %v, %d: %d, %v", fields, many, n, e)
		}
	}
}

// All rows of up to four fields: each width behind each other one, at each place of a word.
func TestP181LayoutOfFewFields(t *testing.T) {
	rows := [][]int{nil}
	for from := 0; len(rows) < 1+7+49+343+2401; {
		to := len(rows)
		for _, r := range rows[from:to] {
			for _, n := range nums {
				rows = append(rows, append(append([]int{}, r...), n))
			}
		}
		from = to
	}
	for _, r := range rows {
		holdLayout(t, r)
	}
}

func TestP181LayoutOfManyFields(t *testing.T) {
	r := rand.New(rand.NewSource(1))
	for range 3000 {
		fields := make([]int, r.Intn(40))
		some := nums[r.Intn(len(nums)):]
		for i := range fields {
			fields[i] = some[r.Intn(len(some))]
		}
		holdLayout(t, fields)
	}
	for _, n := range nums {
		for _, many := range []int{7, 8, 9, 15, 16, 17, 10000} {
			fields := make([]int, many)
			for i := range fields {
				fields[i] = n
			}
			holdLayout(t, fields)
		}
	}
}

func TestP181LayoutExamples(t *testing.T) {
	for _, c := range []struct {
		text  string
		slots [][3]int // word, shift, bits
		words int
	}{
		{"(struct)", nil, 1},
		{"(struct (field i8 i16 i32 i8 (ref any)))", [][3]int{{0, 0, 8}, {0, 16, 16}, {0, 32, 32}, {1, 0, 8}, {2, 0, 64}}, 4},
		{"(struct (field i8))", [][3]int{{0, 0, 8}}, 2},
		{"(struct (field i64 i64))", [][3]int{{0, 0, 64}, {1, 0, 64}}, 3},
		{"(struct (field i8 i64))", [][3]int{{0, 0, 8}, {1, 0, 64}}, 3},
		{"(struct (field i8 f64 i8))", [][3]int{{0, 0, 8}, {1, 0, 64}, {2, 0, 8}}, 4},
		{"(struct (field i32 f32))", [][3]int{{0, 0, 32}, {0, 32, 32}}, 2},
		{"(struct (field i32 i8 f32))", [][3]int{{0, 0, 32}, {0, 32, 8}, {1, 0, 32}}, 3},
		{"(struct (field i8 i8 i16 i16 i16))", [][3]int{{0, 0, 8}, {0, 8, 8}, {0, 16, 16}, {0, 32, 16}, {0, 48, 16}}, 2},
		{"(struct (field i8 i16 i16 i16 i8))", [][3]int{{0, 0, 8}, {0, 16, 16}, {0, 32, 16}, {0, 48, 16}, {1, 0, 8}}, 3},
		{"(struct (field (mut i16) (ref null extern)))", [][3]int{{0, 0, 16}, {1, 0, 64}}, 3},
		{"(sub (struct (field i8 i32)))", [][3]int{{0, 0, 8}, {0, 32, 32}}, 2},
	} {
		l, n, e := arena.Layout(read(c.text)[0].Types[0])
		var slots [][3]int
		for _, s := range l {
			slots = append(slots, [3]int{s.Word, s.Shift, s.Bits})
		}
		if e != api.OK || n != c.words || !equal(slots, c.slots) {
			t.Errorf("Layout of %s: %v, %d, %v", c.text, l, n, e)
		}
	}
}

// What the kind does not have counts for nothing.
func TestP181LayoutLooksAtFieldsAlone(t *testing.T) {
	s := structOf(api.T8, api.TRef)
	s.Final = true
	s.Supers = []int{4, -1}
	s.Comp.Params = []api.ValType{{Num: 99}}
	s.Comp.Results = []api.ValType{{}}
	if l, n, e := arena.Layout(s); e != api.OK || n != 3 || len(l) != 2 {
		t.Errorf("Layout: %v, %d, %v", l, n, e)
	}
	s = arrayOf(api.T8)
	s.Comp.Params = []api.ValType{{Num: 99}}
	if n, e := arena.Words(s, 8); e != api.OK || n != 2 {
		t.Errorf("Words: %d, %v", n, e)
	}
}

func TestP181LayoutRefused(t *testing.T) {
	for _, s := range []api.SubType{
		{}, sub(api.CFunc), sub(api.CFunc, api.TI32), arrayOf(api.TI32), sub(api.CArray), sub(4), sub(4, api.TI32), sub(-1), sub(0, api.T8), sub(math.MaxInt), sub(math.MinInt, api.TRef),
		// A part of no width lies nowhere.
		structOf(api.TNone), structOf(api.TI32, 8), structOf(-1, api.TI32),
	} {
		if l, n, e := arena.Layout(s); e != api.ErrKind || len(l) != 0 || n != 0 {
			t.Errorf("Layout of %v: %v, %d, %v", s, l, n, e)
		}
	}
}

// What is answered is new memory, and what is handed in stays.
func TestP181LayoutIsNew(t *testing.T) {
	s := structOf(api.T8, api.TI64)
	l, _, _ := arena.Layout(s)
	l[0], l[1] = api.Slot{Word: 9}, api.Slot{Word: 9}
	holdLayout(t, []int{api.T8, api.TI64})
	if !equal(s, structOf(api.T8, api.TI64)) {
		t.Errorf("what was handed in is changed: %v", s)
	}
}

// arrayWords is how many words an array takes, without a bound of bits.
func arrayWords(num int, n uint64) uint64 {
	b := new(big.Int).SetUint64(n)
	b.Mul(b, big.NewInt(int64(widths[num])))
	b.Add(b, big.NewInt(63))
	b.Div(b, big.NewInt(64))
	b.Add(b, big.NewInt(1))
	if !b.IsUint64() {
		return math.MaxUint64
	}
	return b.Uint64()
}

func TestP181WordsOfArrays(t *testing.T) {
	r := rand.New(rand.NewSource(2))
	for _, num := range nums {
		s := arrayOf(num)
		hold := func(n uint64) {
			if w, e := arena.Words(s, n); e != api.OK || w != arrayWords(num, n) {
				t.Errorf("Words of an array of %d, %d: %d, %v, not %d", num, n, w, e, arrayWords(num, n))
			}
		}
		for n := range uint64(70) {
			hold(n)
			hold(math.MaxUint64 - n)
			hold(math.MaxUint64/2 - n)
			hold(1<<60 - n)
			hold(1<<60 + n)
		}
		for range 200 {
			hold(r.Uint64() >> r.Intn(64))
		}
	}
	for _, c := range []struct {
		num     int
		n, want uint64
	}{
		{api.T16, 5, 3}, {api.T16, 4, 2}, {api.T16, 0, 1}, {api.T8, 8, 2}, {api.T8, 9, 3}, {api.T8, 1, 2}, {api.TI32, 2, 2}, {api.TF32, 3, 3}, {api.TI64, 1, 2},
		{api.TRef, math.MaxUint64, math.MaxUint64}, {api.TF64, math.MaxUint64 - 1, math.MaxUint64}, {api.TI64, math.MaxUint64 - 2, math.MaxUint64 - 1},
		{api.TI32, math.MaxUint64, 1<<63 + 1}, {api.T8, math.MaxUint64, 1<<61 + 1}, {api.T16, math.MaxUint64, 1<<62 + 1},
	} {
		if w, e := arena.Words(arrayOf(c.num), c.n); e != api.OK || w != c.want {
			t.Errorf("Words of an array of %d, %d: %d, %v", c.num, c.n, w, e)
		}
	}
}

func TestP181WordsRefused(t *testing.T) {
	for _, s := range []api.SubType{
		{}, sub(api.CFunc), sub(api.CFunc, api.TI32), sub(4, api.TI32), sub(-1), sub(0, api.T8),
		// An array has one element's type, and a part of no width lies nowhere.
		sub(api.CArray), sub(api.CArray, api.TI32, api.TI32), arrayOf(api.TNone), arrayOf(8), arrayOf(-1), structOf(0), structOf(api.T8, 8),
	} {
		for _, n := range []uint64{0, 1, 1 << 40, math.MaxUint64} {
			if w, e := arena.Words(s, n); e != api.ErrKind || w != 0 {
				t.Errorf("Words of %v, %d: %d, %v", s, n, w, e)
			}
		}
	}
}

// Each type against values of each type, whatever else of them is.
func TestP181Fits(t *testing.T) {
	var refs []api.Ref
	refs = append(refs, wrongRefs()...)
	refs = append(refs, api.Ref{})
	for k := api.RFunc; k <= api.RExn; k++ {
		for _, n := range []uint64{0, 1, 1<<31 - 1, 1 << 31, 1<<60 - 1} {
			refs = append(refs, api.Ref{Kind: k, Addr: n}, api.Ref{Kind: k, Addr: n, Out: true})
		}
	}
	for num := -2; num <= 12; num++ {
		for _, v := range []api.ValType{{Num: num}, {Num: num, Null: true, Heap: api.HAny}, {Num: num, Heap: 7}, {Num: num, Heap: -99}} {
			for kind := -2; kind <= 12; kind++ {
				for _, bits := range edges {
					for _, r := range refs {
						x := api.Value{Type: kind, Bits: bits, Ref: r}
						if arena.Fits(v, x) != fitting(num, x) {
							t.Fatalf("Fits(%v, %v) is %v", v, x, !fitting(num, x))
						}
					}
				}
			}
		}
	}
}

func TestP181FitsExamples(t *testing.T) {
	i8, any := api.ValType{Num: api.T8}, api.ValType{Num: api.TRef, Heap: api.HAny}
	for _, c := range []struct {
		t    api.ValType
		v    api.Value
		want bool
	}{
		{i8, i32(300), true},
		{i8, i32(math.MaxUint64), true},
		{i8, number(api.T8, 3), false},
		{i8, number(api.TI64, 3), false},
		{api.ValType{Num: api.T16}, number(api.T16, 3), false},
		{api.ValType{Num: api.T16}, i32(3), true},
		{api.ValType{Num: api.TI32}, i32(1 << 40), true},
		{api.ValType{Num: api.TF32}, number(api.TF32, 1<<40), true},
		{api.ValType{Num: api.TI32}, number(api.TF32, 1), false},
		{any, ref(api.RNull, 0, false), true},
		{any, ref(api.RNull, 1, false), false},
		{any, ref(api.RNull, 0, true), false},
		{any, ref(api.RI31, 1<<60-1, true), true},
		{any, ref(api.RI31, 1<<60, false), false},
		{any, ref(api.RExn, 0, false), true},
		{any, ref(6, 0, false), false},
		{any, ref(-1, 0, false), false},
		{any, api.Value{Type: api.TRef, Bits: math.MaxUint64}, true},
		{api.ValType{}, api.Value{}, false},
		{api.ValType{Num: 8}, api.Value{Type: 8}, false},
	} {
		if arena.Fits(c.t, c.v) != c.want {
			t.Errorf("Fits(%v, %v) is %v", c.t, c.v, !c.want)
		}
	}
}
