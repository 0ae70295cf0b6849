package arena_test

import (
	"math"
	"math/rand"
	"slices"
	"testing"

	"ratchet/api"
	"ratchet/arena"
	"ratchet/canon"
)

func TestP182New(t *testing.T) {
	k := table("(struct)")
	for _, n := range []int{0, 1, 2, 63, 64, 65, 1000, api.MaxArena - 1, api.MaxArena} {
		a, e := arena.New(n, k)
		if e != api.OK || a == nil || a.Words() != n || a.Free() != n || a.Top() != 0 || len(a.Objects()) != 0 {
			t.Errorf("New(%d): %v, %d, %d, %d", n, e, a.Words(), a.Free(), a.Top())
		}
	}
	if a, e := arena.New(1, canon.New()); e != api.OK || a == nil {
		t.Errorf("New with a table without ids: %v", e)
	}
	for _, n := range []int{-1, api.MaxArena + 1, math.MaxInt, math.MinInt} {
		if a, e := arena.New(n, k); e != api.ErrArg || a != nil {
			t.Errorf("New(%d): %v, %v", n, a, e)
		}
	}
	for _, n := range []int{0, 1, -1, api.MaxArena, api.MaxArena + 1} {
		for _, k := range []*canon.Table{nil, {}} {
			if a, e := arena.New(n, k); e != api.ErrZero || a != nil {
				t.Errorf("New(%d) without a table: %v, %v", n, a, e)
			}
		}
	}
}

// odd are types of which there are no objects, or not of each kind.
func odd() []api.SubType {
	return []api.SubType{
		structOf(api.TNone), structOf(api.TI32, 8), structOf(-1, api.TI64), structOf(api.TI32, math.MaxInt, api.T8),
		arrayOf(api.TNone), arrayOf(8), arrayOf(-1), arrayOf(math.MinInt),
		sub(api.CArray), sub(api.CArray, api.TI32, api.TI32),
		sub(api.CFunc), sub(api.CFunc, api.TI32), {}, sub(4, api.TI32), sub(-1),
	}
}

func TestP182Kinds(t *testing.T) {
	k := table("(struct)", "(struct (field i8 (ref null any)))", "(array i16)", "(func (param i32))")
	var ids []int
	for _, s := range odd() {
		ids = append(ids, add(k, group(s))...)
	}
	a := made(100, k)
	for _, id := range append([]int{3}, ids...) {
		if at, e := a.NewStruct(id); at != 0 || e != api.ErrKind {
			t.Errorf("NewStruct(%d): %d, %v", id, at, e)
		}
		for _, n := range []uint64{0, 1, 100, math.MaxUint64} {
			if at, e := a.NewArray(id, n); at != 0 || e != api.ErrKind {
				t.Errorf("NewArray(%d, %d): %d, %v", id, n, at, e)
			}
		}
	}
	// The other kind's, ahead of an object of that kind and behind it.
	for range 2 {
		if at, e := a.NewStruct(2); at != 0 || e != api.ErrKind {
			t.Errorf("NewStruct of an array: %d, %v", at, e)
		}
		for _, n := range []uint64{0, 1, math.MaxUint64} {
			if at, e := a.NewArray(1, n); at != 0 || e != api.ErrKind {
				t.Errorf("NewArray of a struct: %d, %v", at, e)
			}
		}
		top := a.Top()
		must(a.NewStruct(1))
		must(a.NewArray(2, 3))
		if a.Top() != top+5 {
			t.Errorf("the top is %d", a.Top())
		}
	}
}

func TestP182Ids(t *testing.T) {
	k := table("(struct)", "(array i8)")
	a := made(10, k)
	for _, id := range []int{-1, 2, 3, math.MaxInt, math.MinInt} {
		if at, e := a.NewStruct(id); at != 0 || e != api.ErrNone {
			t.Errorf("NewStruct(%d): %d, %v", id, at, e)
		}
		if at, e := a.NewArray(id, math.MaxUint64); at != 0 || e != api.ErrNone {
			t.Errorf("NewArray(%d): %d, %v", id, at, e)
		}
	}
	// What comes to the table later is known to the arena, and to a copy of it.
	b := a.Copy()
	add(k, read("(struct (field i64))", "(array f64)")...)
	for _, x := range []*arena.Arena{a, b} {
		if at, e := x.NewStruct(2); at != 0 || e != api.OK || x.Top() != 2 {
			t.Errorf("NewStruct of a later id: %d, %v", at, e)
		}
		if at, e := x.NewArray(3, 2); at != 2 || e != api.OK || x.Top() != 5 {
			t.Errorf("NewArray of a later id: %d, %v", at, e)
		}
	}
	// A copy of the table is another one.
	c := made(10, k.Copy())
	add(k, read("(struct (field f32))")...)
	if _, e := c.NewStruct(4); e != api.ErrNone {
		t.Errorf("NewStruct of an id of another table: %v", e)
	}
	must(a.NewStruct(4))
}

// Types whose groups have several are told by their ids alone.
func TestP182IdsOfGroups(t *testing.T) {
	k := table("(rec (struct (field i8)) (array (ref 0)) (struct (field (ref 1) (ref 2) i32)))", "(struct (field i8))")
	a := made(100, k)
	at := must(a.NewStruct(2))
	if n := must(a.Size(at)); n != 4 {
		t.Errorf("the struct takes %d", n)
	}
	at = must(a.NewArray(1, 7))
	if n := must(a.Size(at)); n != 8 || must(a.Type(at)) != 1 {
		t.Errorf("the array takes %d", n)
	}
	at = must(a.NewStruct(3))
	if must(a.Type(at)) != 3 || must(a.Size(at)) != 2 {
		t.Errorf("the struct is of %d", must(a.Type(at)))
	}
}

// Each kind of object where just as many words are left as it takes, and where one is missing.
func TestP182Full(t *testing.T) {
	k := canon.New()
	for _, n := range nums {
		add(k, group(structOf(n, api.T8, n)), group(arrayOf(n)))
	}
	hold := func(size int, make func(a *arena.Arena) (uint64, api.Errno)) {
		t.Helper()
		for _, ahead := range []int{0, 1, 5} {
			for words := max(0, size+ahead-2); words < size+ahead+2; words++ {
				a := made(words, k)
				if ahead > 0 && words < ahead {
					continue
				}
				if ahead > 0 {
					must(a.NewArray(3, uint64(ahead-1)))
				}
				at, e := make(a)
				if words < size+ahead {
					if at != 0 || e != api.ErrFull || a.Top() != ahead || a.Free() != words-ahead {
						t.Errorf("%d of %d words: %d, %v, the top %d", size, words-ahead, at, e, a.Top())
					}
					continue
				}
				if at != uint64(ahead) || e != api.OK || a.Top() != ahead+size || a.Free() != words-ahead-size || must(a.Size(at)) != size {
					t.Errorf("%d of %d words: %d, %v, the top %d", size, words-ahead, at, e, a.Top())
				}
			}
		}
	}
	for i, n := range nums {
		_, words := lain([]int{n, api.T8, n})
		hold(1+words, func(a *arena.Arena) (uint64, api.Errno) { return a.NewStruct(2 * i) })
		for many := range uint64(20) {
			hold(int(arrayWords(n, many)), func(a *arena.Arena) (uint64, api.Errno) { return a.NewArray(2*i+1, many) })
		}
	}
	for _, many := range []int{0, 1, 2, 15, 16, 17, 31, 32, 33, 48, 49} {
		hold(exnWords(many), func(a *arena.Arena) (uint64, api.Errno) {
			return a.NewExn(many, slices.Repeat([]api.Value{i32(1)}, many))
		})
	}
}

// exnWords is how many words an exception takes.
func exnWords(many int) int {
	tags := 0
	for tags*16 < many {
		tags++
	}
	return 1 + tags + many
}

// Arrays of so many elements that no arena has the room.
func TestP182FullForAll(t *testing.T) {
	k := canon.New()
	for _, n := range nums {
		add(k, group(arrayOf(n)))
	}
	a := made(api.MaxArena, k)
	for id, num := range nums {
		most := uint64(api.MaxArena-1) * 64 / uint64(widths[num])
		for _, n := range []uint64{most + 1, 1 << 31, 1 << 32, 1 << 58, 1 << 60, 1 << 61, 1 << 62, 1 << 63, math.MaxUint64 - 1, math.MaxUint64} {
			if at, e := a.NewArray(id, n); at != 0 || e != api.ErrFull || a.Top() != 0 {
				t.Errorf("NewArray of %d, %d: %d, %v", num, n, at, e)
			}
		}
		b := a.Copy()
		if at, e := b.NewArray(id, most); at != 0 || e != api.OK || b.Free() != 0 || must(b.Len(at)) != most {
			t.Errorf("NewArray of %d, %d: %d, %v", num, most, at, e)
		}
		last := valueOf(rand.New(rand.NewSource(3)), num)
		if e := b.Set(0, most-1, last); e != api.OK || must(b.Get(0, most-1, false)) != told(num, last, false) || must(b.Get(0, most-2, false)) != first(num) {
			t.Errorf("Set of the last of %d: %v", num, e)
		}
		if _, e := b.NewStruct(id); e != api.ErrKind {
			t.Errorf("NewStruct in a full arena: %v", e)
		}
	}
}

// All parts of what is new are 0, null, also where other things lay ahead of it.
func TestP182NewPartsAreZero(t *testing.T) {
	k := canon.New()
	add(k, group(structOf(nums...)))
	for _, n := range nums {
		add(k, group(arrayOf(n)))
	}
	a := made(60, k)
	r := rand.New(rand.NewSource(4))
	for range 300 {
		for {
			id := r.Intn(len(nums) + 1)
			at, e := a.NewArray(id, uint64(r.Intn(12)))
			if id == 0 {
				at, e = a.NewStruct(0)
			}
			if e == api.ErrFull {
				break
			}
			for i, v := range must(a.Values(at)) {
				num := nums[max(id-1, 0)]
				if id == 0 {
					num = nums[i]
				}
				if v != first(num) {
					t.Fatalf("part %d of a new object of id %d is %v", i, id, v)
				}
				a.Set(at, uint64(i), told(num, api.Value{Type: v.Type, Bits: math.MaxUint64, Ref: api.Ref{Kind: 5, Addr: 1<<60 - 1, Out: true}}, false))
			}
		}
		l := a.Objects()
		must(a.Keep(l[:r.Intn(len(l))]))
	}
}

func TestP182Exn(t *testing.T) {
	k := canon.New()
	r := rand.New(rand.NewSource(5))
	for _, tag := range []int{0, 1, 2, 9999, 1 << 20, 1<<31 - 2, 1<<31 - 1} {
		for many := range 70 {
			a := made(exnWords(many), k)
			var l, want []api.Value
			for range many {
				num := 1 + r.Intn(api.TRef)
				v := valueOf(r, num)
				l, want = append(l, v), append(want, told(num, v, false))
			}
			copied := slices.Clone(l)
			at, e := a.NewExn(tag, l)
			if at != 0 || e != api.OK || !slices.Equal(l, copied) {
				t.Fatalf("NewExn(%d, %v): %d, %v", tag, l, at, e)
			}
			clear(l)
			if must(a.Type(at)) != -1-tag || must(a.Len(at)) != uint64(many) || must(a.Size(at)) != exnWords(many) || !equal(must(a.Values(at)), want) {
				t.Fatalf("NewExn(%d, %v): %d, %v", tag, copied, must(a.Type(at)), must(a.Values(at)))
			}
		}
	}
}

func TestP182ExnRefused(t *testing.T) {
	a := made(100, canon.New())
	good := []api.Value{i32(1), ref(api.RFunc, 2, false)}
	bad := []api.Value{{}, number(api.T8, 1), number(api.T16, 1), number(8, 1), number(-1, 1), number(math.MaxInt, 0), number(math.MinInt, 0)}
	for _, x := range wrongRefs() {
		bad = append(bad, api.Value{Type: api.TRef, Ref: x})
	}
	for _, v := range bad {
		for _, l := range [][]api.Value{{v}, {v, i32(1)}, append(slices.Clone(good), v), append(slices.Repeat(good, 9), v), append([]api.Value{v}, slices.Repeat(good, 60)...)} {
			if at, e := a.NewExn(7, l); at != 0 || e != api.ErrFit || a.Top() != 0 {
				t.Errorf("NewExn of %v: %d, %v", v, at, e)
			}
			for _, tag := range []int{-1, 1 << 31, math.MaxInt, math.MinInt, -1 << 31} {
				if at, e := a.NewExn(tag, l); at != 0 || e != api.ErrArg {
					t.Errorf("NewExn(%d) of %v: %d, %v", tag, v, at, e)
				}
			}
		}
	}
	for _, tag := range []int{-1, 1 << 31, math.MaxInt, math.MinInt, -1 << 31, 1<<31 + 1, 1 << 32} {
		for _, l := range [][]api.Value{nil, good, slices.Repeat(good, 60)} {
			if at, e := a.NewExn(tag, l); at != 0 || e != api.ErrArg || a.Top() != 0 {
				t.Errorf("NewExn(%d): %d, %v", tag, at, e)
			}
		}
	}
	if at, e := a.NewExn(0, slices.Repeat(good, 60)); at != 0 || e != api.ErrFull || a.Top() != 0 {
		t.Errorf("NewExn of many: %d, %v", at, e)
	}
	// Values whose Ref does not count may have any.
	for _, x := range wrongRefs() {
		for num := api.TI32; num < api.TRef; num++ {
			if _, e := made(9, canon.New()).NewExn(1, []api.Value{{Type: num, Ref: x}}); e != api.OK {
				t.Errorf("NewExn of a %d with %v: %v", num, x, e)
			}
		}
	}
}

func TestP182Examples(t *testing.T) {
	k := table("(struct (field i64 i64))", "(struct)")
	a := made(4, k)
	if at, e := a.NewStruct(0); at != 0 || e != api.OK || a.Top() != 3 {
		t.Errorf("NewStruct: %d, %v", at, e)
	}
	if at, e := a.NewStruct(1); at != 3 || e != api.OK || a.Free() != 0 {
		t.Errorf("NewStruct: %d, %v", at, e)
	}
	if at, e := a.NewStruct(1); at != 0 || e != api.ErrFull {
		t.Errorf("NewStruct: %d, %v", at, e)
	}
	b := made(3, k)
	if at, e := b.NewExn(2, []api.Value{i32(7)}); at != 0 || e != api.OK || b.Top() != 3 || must(b.Type(0)) != -3 {
		t.Errorf("NewExn: %d, %v", at, e)
	}
}

// An arena that is nil, and one that no call made.
func TestZeroArenas(t *testing.T) {
	for _, a := range []*arena.Arena{nil, {}, new(arena.Arena)} {
		zero := func(name string, e api.Errno, answers ...bool) {
			t.Helper()
			if e != api.ErrZero || slices.Contains(answers, false) {
				t.Errorf("%s: %v, %v", name, e, answers)
			}
		}
		for _, n := range []uint64{0, 1, math.MaxUint64} {
			at, e := a.NewStruct(int(n))
			zero("NewStruct", e, at == 0)
			at, e = a.NewArray(int(n), n)
			zero("NewArray", e, at == 0)
			at, e = a.NewExn(int(n), []api.Value{{}})
			zero("NewExn", e, at == 0)
			id, e := a.Type(n)
			zero("Type", e, id == 0)
			many, e := a.Len(n)
			zero("Len", e, many == 0)
			size, e := a.Size(n)
			zero("Size", e, size == 0)
			v, e := a.Get(n, n, true)
			zero("Get", e, v == api.Value{})
			zero("Set", a.Set(n, n, api.Value{}))
			l, e := a.Values(n)
			zero("Values", e, len(l) == 0)
			refs, e := a.Refs(n)
			zero("Refs", e, len(refs) == 0)
			zero("SetRefs", a.SetRefs(n, nil))
			zero("SetRefs", a.SetRefs(n, []api.Ref{{Addr: 1}}))
			moved, e := a.Keep([]uint64{n, n})
			zero("Keep", e, len(moved) == 0)
		}
		moved, e := a.Keep(nil)
		zero("Keep", e, len(moved) == 0)
		if len(a.Objects()) != 0 || a.Top() != 0 || a.Words() != 0 || a.Free() != 0 || a.Copy() != nil {
			t.Errorf("%v, %d, %d, %d, %v", a.Objects(), a.Top(), a.Words(), a.Free(), a.Copy())
		}
	}
}
