package arena_test

import (
	"math"
	"math/rand"
	"slices"
	"testing"

	"ratchet/api"
	"ratchet/arena"
	"ratchet/canon"
)

// yard is an arena with an object of each kind, other things between.
type yard struct {
	*arena.Arena
	at   []uint64
	nums [][]int // of each object its parts' types
}

// newYard has a struct of all types, one of none, arrays of each type, of none and of some elements, exceptions.
func newYard() yard {
	k := canon.New()
	mixed := []int{api.T8, api.T16, api.TRef, api.T8, api.T8, api.TF32, api.TI64, api.T16, api.TI32, api.TF64, api.TRef, api.T8}
	add(k, group(structOf(mixed...)), group(structOf()))
	for _, n := range nums {
		add(k, group(arrayOf(n)))
	}
	y := yard{Arena: made(1000, k)}
	lay := func(at uint64, e api.Errno) func(parts ...int) {
		y.at = append(y.at, must(at, e))
		return func(parts ...int) { y.nums = append(y.nums, parts) }
	}
	for range 2 {
		lay(y.NewStruct(0))(mixed...)
		lay(y.NewStruct(1))()
		for i, n := range nums {
			lay(y.NewArray(2+i, 11))(slices.Repeat([]int{n}, 11)...)
			lay(y.NewArray(2+i, 0))()
		}
		for _, many := range []int{0, 1, 15, 16, 17, 33} {
			var l []api.Value
			var parts []int
			for i := range many {
				l = append(l, api.Value{Type: 1 + i*3%5})
				parts = append(parts, 1+i*3%5)
			}
			lay(y.NewExn(many, l))(parts...)
		}
	}
	return y
}

// state is all that an arena tells.
func state(a *arena.Arena) []any {
	s := []any{a.Words(), a.Top(), a.Free(), a.Objects()}
	for at := range uint64(a.Top() + 2) {
		id, e := a.Type(at)
		if e != api.OK {
			s = append(s, e)
			continue
		}
		many, _ := a.Len(at)
		size, _ := a.Size(at)
		l, _ := a.Values(at)
		refs, _ := a.Refs(at)
		s = append(s, id, many, size, l, refs)
	}
	return s
}

// Every call at each word, and at some where there are none.
func TestP183Addresses(t *testing.T) {
	y := newYard()
	before := state(y.Arena)
	ats := []uint64{uint64(y.Top()), uint64(y.Top() + 1), 999, 1000, 1001, 1 << 16, 1 << 32, 1 << 63, math.MaxUint64}
	for at := range uint64(y.Top()) {
		ats = append(ats, at)
	}
	for _, at := range ats {
		if slices.Contains(y.at, at) {
			continue
		}
		none := func(name string, e api.Errno, answers ...bool) {
			t.Helper()
			if e != api.ErrNone || slices.Contains(answers, false) {
				t.Errorf("%s at %d: %v, %v", name, at, e, answers)
			}
		}
		id, e := y.Type(at)
		none("Type", e, id == 0)
		many, e := y.Len(at)
		none("Len", e, many == 0)
		size, e := y.Size(at)
		none("Size", e, size == 0)
		for _, i := range []uint64{0, 1, 99, math.MaxUint64} {
			v, e := y.Get(at, i, true)
			none("Get", e, v == api.Value{})
			none("Set", y.Set(at, i, i32(1)))
			none("Set", y.Set(at, i, api.Value{}))
		}
		l, e := y.Values(at)
		none("Values", e, len(l) == 0)
		refs, e := y.Refs(at)
		none("Refs", e, len(refs) == 0)
		none("SetRefs", y.SetRefs(at, nil))
		none("SetRefs", y.SetRefs(at, []api.Ref{{Addr: 1}}))
	}
	if !equal(before, state(y.Arena)) {
		t.Error("what was refused has changed something")
	}
}

// What is told of each object when it is new.
func TestP183Objects(t *testing.T) {
	y := newYard()
	ids := []int{0, 1, 2, 2, 3, 3, 4, 4, 5, 5, 6, 6, 7, 7, 8, 8, -1, -2, -16, -17, -18, -34}
	next := uint64(0)
	for i, at := range y.at {
		if at != next || must(y.Type(at)) != ids[i%len(ids)] || must(y.Len(at)) != uint64(len(y.nums[i])) {
			t.Errorf("object %d at %d, not %d: %d, %d", i, at, next, must(y.Type(at)), must(y.Len(at)))
		}
		var want []api.Value
		refs := 0
		for _, n := range y.nums[i] {
			want = append(want, first(n))
			if n == api.TRef {
				refs++
			}
		}
		if !equal(must(y.Values(at)), want) || !equal(must(y.Refs(at)), make([]api.Ref, refs)) {
			t.Errorf("object %d: %v, %v", i, must(y.Values(at)), must(y.Refs(at)))
		}
		next += uint64(must(y.Size(at)))
	}
	if uint64(y.Top()) != next || !slices.Equal(y.Objects(), y.at) {
		t.Errorf("the top is %d, not %d", y.Top(), next)
	}
}

// A part that there isn't, ahead of a value that does not fit.
func TestP183Parts(t *testing.T) {
	y := newYard()
	before := state(y.Arena)
	for i, at := range y.at {
		n := uint64(len(y.nums[i]))
		for _, p := range []uint64{n, n + 1, n + 16, 1 << 20, 1 << 32, 1 << 58, 1 << 60, 1<<60 + 1, 1 << 61, 1 << 62, 1 << 63, math.MaxUint64} {
			for _, signed := range []bool{false, true} {
				if v, e := y.Get(at, p, signed); e != api.ErrPart || v != (api.Value{}) {
					t.Errorf("Get(%d, %d): %v, %v", at, p, v, e)
				}
			}
			for num := range 9 {
				if e := y.Set(at, p, api.Value{Type: num}); e != api.ErrPart {
					t.Errorf("Set(%d, %d): %v", at, p, e)
				}
			}
		}
	}
	if !equal(before, state(y.Arena)) {
		t.Error("what was refused has changed something")
	}
}

// Each part of each object against values that fit and that don't; the other parts stay.
func TestP183Set(t *testing.T) {
	y := newYard()
	r := rand.New(rand.NewSource(6))
	held := make([][]api.Value, len(y.at)) // what was set, by the chapter's words
	for i := range y.at {
		for _, n := range y.nums[i] {
			held[i] = append(held[i], first(n))
		}
	}
	hold := func() {
		t.Helper()
		for i, at := range y.at {
			var want []api.Value
			var refs []api.Ref
			for j, n := range y.nums[i] {
				for _, signed := range []bool{false, true} {
					if v, e := y.Get(at, uint64(j), signed); e != api.OK || v != told(n, held[i][j], signed) {
						t.Fatalf("part %d of object %d (%d): %v, %v, not %v", j, i, n, v, e, told(n, held[i][j], signed))
					}
				}
				want = append(want, told(n, held[i][j], false))
				if n == api.TRef {
					refs = append(refs, held[i][j].Ref)
				}
			}
			if !equal(must(y.Values(at)), want) || !equal(must(y.Refs(at)), refs) {
				t.Fatalf("object %d: %v, %v", i, must(y.Values(at)), must(y.Refs(at)))
			}
		}
	}
	for round := range 3 {
		for i, at := range y.at {
			for j, n := range y.nums[i] {
				v := valueOf(r, n)
				if round == 1 { // all bits at once
					v.Bits = math.MaxUint64
					v.Ref = api.Ref{Kind: api.RExn, Addr: 1<<60 - 1, Out: true}
				}
				if e := y.Set(at, uint64(j), v); e != api.OK {
					t.Fatalf("Set of part %d of object %d to %v: %v", j, i, v, e)
				}
				held[i][j] = v
				for num := -1; num < 9; num++ {
					w := valueOf(r, num)
					w.Type = num
					if fitting(n, w) {
						continue
					}
					if e := y.Set(at, uint64(j), w); e != api.ErrFit {
						t.Errorf("Set of a %d to %v: %v", n, w, e)
					}
				}
				if n == api.TRef {
					for _, x := range wrongRefs() {
						if e := y.Set(at, uint64(j), api.Value{Type: n, Ref: x}); e != api.ErrFit {
							t.Errorf("Set to %v: %v", x, e)
						}
					}
				}
			}
			hold()
		}
	}
	for range 20000 {
		i := r.Intn(len(y.at))
		if len(held[i]) == 0 {
			continue
		}
		j := r.Intn(len(held[i]))
		held[i][j] = valueOf(r, y.nums[i][j])
		must(0, y.Set(y.at[i], uint64(j), held[i][j]))
		if r.Intn(100) == 0 {
			hold()
		}
	}
	hold()
}

// Packed parts with and without sign, at the ends of what they hold.
func TestP183Packed(t *testing.T) {
	k := canon.New()
	add(k, group(structOf(api.T8, api.T8, api.T8)), group(structOf(api.T16, api.T16, api.T16)), group(arrayOf(api.T8)), group(arrayOf(api.T16)))
	a := made(20, k)
	at := []uint64{must(a.NewStruct(0)), must(a.NewStruct(1)), must(a.NewArray(2, 3)), must(a.NewArray(3, 3))}
	for _, c := range []struct{ set, low8, signed8, low16, signed16 uint64 }{
		{0, 0, 0, 0, 0},
		{1, 1, 1, 1, 1},
		{127, 127, 127, 127, 127},
		{128, 128, 1<<32 - 128, 128, 128},
		{200, 200, 1<<32 - 56, 200, 200},
		{255, 255, 1<<32 - 1, 255, 255},
		{256, 0, 0, 256, 256},
		{300, 44, 44, 300, 300},
		{32767, 255, 1<<32 - 1, 32767, 32767},
		{32768, 0, 0, 32768, 1<<32 - 32768},
		{65535, 255, 1<<32 - 1, 65535, 1<<32 - 1},
		{65536, 0, 0, 0, 0},
		{1<<32 - 1, 255, 1<<32 - 1, 65535, 1<<32 - 1},
		{math.MaxUint64 - 127, 128, 1<<32 - 128, 65408, 1<<32 - 128},
		{1 << 63, 0, 0, 0, 0},
	} {
		for i, x := range at {
			low, signed := c.low8, c.signed8
			if i%2 == 1 {
				low, signed = c.low16, c.signed16
			}
			for p := range uint64(3) {
				must(0, a.Set(x, (p+1)%3, i32(0x5a5a5a5a)))
				must(0, a.Set(x, p, i32(c.set)))
				if v := must(a.Get(x, p, false)); v != i32(low) {
					t.Errorf("%d in part %d of object %d: %v", c.set, p, i, v)
				}
				if v := must(a.Get(x, p, true)); v != i32(signed) {
					t.Errorf("%d with its sign: %v", c.set, v)
				}
				if v := must(a.Get(x, (p+1)%3, false)); v.Bits != 0x5a && v.Bits != 0x5a5a {
					t.Errorf("the part behind is %v", v)
				}
			}
		}
	}
}

// A sign is asked of packed parts alone.
func TestP183SignOfWholeParts(t *testing.T) {
	y := newYard()
	for i, at := range y.at {
		for j, n := range y.nums[i] {
			if n == api.T8 || n == api.T16 {
				continue
			}
			for _, bits := range []uint64{1 << 7, 1 << 15, 1 << 31, 1<<32 - 1, 1 << 63, math.MaxUint64} {
				v := api.Value{Type: n, Bits: bits}
				must(0, y.Set(at, uint64(j), v))
				if u, s := must(y.Get(at, uint64(j), false)), must(y.Get(at, uint64(j), true)); u != s || u != told(n, v, true) {
					t.Errorf("%d as a %d: %v, %v", bits, n, u, s)
				}
			}
		}
	}
}

func TestP183SetRefs(t *testing.T) {
	y := newYard()
	r := rand.New(rand.NewSource(7))
	for i, at := range y.at {
		for j, n := range y.nums[i] {
			must(0, y.Set(at, uint64(j), valueOf(r, n)))
		}
	}
	for range 3 {
		for i, at := range y.at {
			want := must(y.Values(at))
			var l []api.Ref
			for j, n := range y.nums[i] {
				if n == api.TRef {
					want[j].Ref = refOf(r)
					l = append(l, want[j].Ref)
				}
			}
			before := state(y.Arena)
			for _, few := range [][]api.Ref{append(slices.Clone(l), api.Ref{}), append(slices.Clone(l), api.Ref{Addr: 1}, api.Ref{}), slices.Repeat(wrongRefs(), 2)} {
				if e := y.SetRefs(at, few); e != api.ErrArg {
					t.Errorf("SetRefs of %d to %d: %v", len(l), len(few), e)
				}
			}
			for n := range len(l) {
				if e := y.SetRefs(at, l[:n]); e != api.ErrArg {
					t.Errorf("SetRefs of %d to %d: %v", len(l), n, e)
				}
				bad := slices.Clone(l)
				bad[n] = wrongRefs()[r.Intn(len(wrongRefs()))]
				if e := y.SetRefs(at, bad); e != api.ErrFit {
					t.Errorf("SetRefs to %v: %v", bad, e)
				}
				if e := y.SetRefs(at, bad[n:]); n > 0 && e != api.ErrArg {
					t.Errorf("SetRefs to too few, %v: %v", bad[n:], e)
				}
			}
			if !equal(before, state(y.Arena)) {
				t.Fatal("what was refused has changed something")
			}
			copied := slices.Clone(l)
			if e := y.SetRefs(at, l); e != api.OK || !slices.Equal(l, copied) {
				t.Fatalf("SetRefs: %v", e)
			}
			clear(l)
			if !equal(must(y.Values(at)), want) || !equal(must(y.Refs(at)), copied) {
				t.Fatalf("object %d: %v, %v, not %v", i, must(y.Values(at)), must(y.Refs(at)), want)
			}
		}
	}
}

// Each reference that does not fit is refused, at each place; each that does is told as it was.
func TestP183EachRef(t *testing.T) {
	k := canon.New()
	add(k, group(structOf(api.TI32, api.TRef, api.TRef, api.T8, api.TRef)), group(arrayOf(api.TRef)))
	a := made(20, k)
	at := []uint64{must(a.NewStruct(0)), must(a.NewArray(1, 3)), must(a.NewExn(0, slices.Repeat([]api.Value{ref(0, 0, false)}, 3)))}
	for _, x := range at {
		for p := range 3 {
			for _, w := range wrongRefs() {
				l := []api.Ref{{Kind: 1}, {Kind: 2}, {Kind: 3}}
				l[p] = w
				if e := a.SetRefs(x, l); e != api.ErrFit || must(a.Refs(x))[0] != (api.Ref{}) {
					t.Errorf("SetRefs to %v: %v", l, e)
				}
			}
		}
		for p := range 3 {
			for kind := api.RNull; kind <= api.RExn; kind++ {
				for _, n := range []uint64{0, 1, 1<<31 - 1, 1 << 32, 1<<59 + 5, 1<<60 - 1} {
					for _, out := range []bool{false, true} {
						l := make([]api.Ref, 3)
						l[p] = api.Ref{Kind: kind, Addr: n, Out: out}
						if kind == api.RNull {
							l[p] = api.Ref{}
						}
						if e := a.SetRefs(x, l); e != api.OK || !equal(must(a.Refs(x)), l) {
							t.Errorf("SetRefs to %v: %v, %v", l, e, must(a.Refs(x)))
						}
					}
				}
			}
		}
		must(0, a.SetRefs(x, make([]api.Ref, 3)))
	}
}

// What is answered is new memory.
func TestP183AnswersAreNew(t *testing.T) {
	y := newYard()
	before := state(y.Arena)
	for _, at := range y.at {
		for _, v := range [][]api.Value{must(y.Values(at)), must(y.Values(at))} {
			for i := range v {
				v[i] = i32(99)
			}
			_ = append(v, i32(98))
		}
		l := must(y.Refs(at))
		for i := range l {
			l[i] = api.Ref{Kind: 1, Addr: 9}
		}
	}
	for _, l := range [][]uint64{y.Objects(), y.Objects()} {
		for i := range l {
			l[i] = 77
		}
	}
	if !equal(before, state(y.Arena)) {
		t.Error("an answer shares something with the arena")
	}
}
