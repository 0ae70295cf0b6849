package arena_test

import (
	"math"
	"math/rand"
	"slices"
	"testing"

	"ratchet/api"
	"ratchet/arena"
	"ratchet/canon"
)

// fullYard is a yard whose parts hold all kinds of values.
func fullYard(seed int64) yard {
	y := newYard()
	r := rand.New(rand.NewSource(seed))
	for i, at := range y.at {
		for j, n := range y.nums[i] {
			must(0, y.Set(at, uint64(j), valueOf(r, n)))
		}
	}
	return y
}

// told is what an arena tells of one object.
func (y yard) told(at uint64) []any {
	return []any{must(y.Type(at)), must(y.Len(at)), must(y.Size(at)), must(y.Values(at)), must(y.Refs(at))}
}

// hold keeps such objects and holds all against what was told of them.
func (y yard) hold(t *testing.T, live []uint64) {
	t.Helper()
	var kept [][]any
	var ats []uint64
	top := 0
	for _, at := range live {
		kept = append(kept, y.told(at))
		ats = append(ats, uint64(top))
		top += must(y.Size(at))
	}
	handed := slices.Clone(live)
	l, e := y.Keep(live)
	if e != api.OK || !slices.Equal(l, ats) || !slices.Equal(live, handed) {
		t.Fatalf("Keep(%v): %v, %v, not %v", handed, l, e, ats)
	}
	if y.Top() != top || y.Free() != 1000-top || y.Words() != 1000 || !slices.Equal(y.Objects(), ats) {
		t.Fatalf("Keep(%v): %d, %d, %v", handed, y.Top(), y.Free(), y.Objects())
	}
	for i, at := range ats {
		if !equal(y.told(at), kept[i]) {
			t.Fatalf("object %d is kept at %d as %v, not %v", i, at, y.told(at), kept[i])
		}
	}
	for at := range uint64(top + 300) {
		if _, e := y.Type(at); (e == api.OK) != slices.Contains(ats, at) {
			t.Fatalf("Type(%d): %v", at, e)
		}
	}
	clear(l)
	if !slices.Equal(y.Objects(), ats) {
		t.Fatal("the answer is kept")
	}
}

func TestP184KeepAll(t *testing.T) {
	y := fullYard(8)
	before := state(y.Arena)
	y.hold(t, y.Objects())
	if !equal(before, state(y.Arena)) {
		t.Error("Keep of all has changed something")
	}
}

func TestP184KeepNone(t *testing.T) {
	for _, none := range [][]uint64{nil, {}} {
		y := fullYard(9)
		y.hold(t, none)
		if l, e := y.Keep(none); e != api.OK || len(l) != 0 {
			t.Errorf("Keep of none of none: %v, %v", l, e)
		}
		if at := must(y.NewStruct(0)); at != 0 {
			t.Errorf("the next one is at %d", at)
		}
	}
}

func TestP184KeepSome(t *testing.T) {
	r := rand.New(rand.NewSource(10))
	for round := range 400 {
		y := fullYard(int64(round))
		for y.Top() > 0 {
			var live []uint64
			often := r.Intn(4)
			for _, at := range y.Objects() {
				if r.Intn(4) < often {
					live = append(live, at)
				}
			}
			y.hold(t, live)
			if round%4 == 0 {
				must(y.NewExn(3, []api.Value{ref(3, 1<<60-1, true), i32(4)}))
				must(y.NewArray(2, 3))
			}
			if round%4 == 0 && often == 0 {
				break
			}
		}
	}
}

// Each object by itself, and all but it.
func TestP184KeepOne(t *testing.T) {
	y := fullYard(11)
	for i, at := range y.at {
		one, others := yard{Arena: y.Copy()}, yard{Arena: y.Copy()}
		one.hold(t, []uint64{at})
		others.hold(t, slices.Delete(slices.Clone(y.at), i, i+1))
	}
}

func TestP184KeepRefused(t *testing.T) {
	y := fullYard(12)
	before := state(y.Arena)
	last := y.at[len(y.at)-1]
	lists := [][]uint64{
		{0, 0}, {y.at[1], 0}, {last, last}, {0, y.at[2], y.at[1]}, {0, y.at[1], y.at[1], y.at[2]}, {last, 0},
		{1}, {0, 1}, {0, y.at[1], y.at[1] + 1, y.at[2]}, {uint64(y.Top())}, {0, last, uint64(y.Top())}, {last + 1}, {uint64(y.Top()) + 1}, {1000}, {999}, {1 << 16}, {1 << 32}, {1 << 60}, {1 << 63}, {math.MaxUint64}, {0, math.MaxUint64},
		append(slices.Clone(y.at), 1<<40), append(slices.Clone(y.at), last), append(slices.Clone(y.at), 0), append([]uint64{1}, y.at[1:]...),
	}
	for at := range uint64(y.Top()) {
		if !slices.Contains(y.at, at) {
			lists = append(lists, []uint64{at})
		}
	}
	for _, l := range lists {
		handed := slices.Clone(l)
		if moved, e := y.Keep(l); e != api.ErrArg || len(moved) != 0 || !slices.Equal(l, handed) {
			t.Errorf("Keep(%v): %v, %v", handed, moved, e)
		}
	}
	if !equal(before, state(y.Arena)) {
		t.Error("what was refused has changed something")
	}
}

// Where an object began and none does any more, none is found; a new one begins at the top.
func TestP184Behind(t *testing.T) {
	k := table("(struct)", "(array i64)")
	a := made(200, k)
	for range 200 {
		must(a.NewStruct(0))
	}
	if _, e := a.NewStruct(0); e != api.ErrFull {
		t.Errorf("NewStruct: %v", e)
	}
	must(a.Keep([]uint64{3, 70, 199}))
	for at := range uint64(210) {
		if _, e := a.Len(at); (e == api.OK) != (at < 3) {
			t.Errorf("Len(%d): %v", at, e)
		}
	}
	if at := must(a.NewArray(1, 196)); at != 3 || a.Free() != 0 {
		t.Errorf("the next one is at %d, %d are free", at, a.Free())
	}
	for i, v := range must(a.Values(3)) {
		if v != number(api.TI64, 0) {
			t.Errorf("element %d is %v", i, v)
		}
	}
	for at := range uint64(210) {
		if _, e := a.Len(at); (e == api.OK) != (at < 4) {
			t.Errorf("Len(%d): %v", at, e)
		}
	}
}

// References are not changed when objects move.
func TestP184RefsStay(t *testing.T) {
	k := table("(array (ref null any))")
	a := made(100, k)
	must(a.NewArray(0, 3))
	b := must(a.NewArray(0, 4))
	c := must(a.NewArray(0, 2))
	l := []api.Ref{{Kind: api.RObject, Addr: c}, {Kind: api.RObject, Addr: b}, {}, {Kind: api.RExn, Addr: 0, Out: true}}
	must(0, a.SetRefs(b, l))
	must(0, a.SetRefs(c, l[:2]))
	if moved := must(a.Keep([]uint64{b, c})); !slices.Equal(moved, []uint64{0, 5}) {
		t.Errorf("Keep: %v", moved)
	}
	if !equal(must(a.Refs(0)), l) || !equal(must(a.Refs(5)), l[:2]) {
		t.Errorf("Refs: %v, %v", must(a.Refs(0)), must(a.Refs(5)))
	}
}

// Numbers of words, as objects come and go.
func TestP184Numbers(t *testing.T) {
	for _, words := range []int{0, 1, 63, 64, 65, 128, 1000, api.MaxArena} {
		k := table("(struct)", "(struct (field i64))")
		a := made(words, k)
		top := 0
		var ats []uint64
		for i := 0; ; i++ {
			at, e := a.NewStruct(i % 2)
			if top+1+i%2 > words {
				if e != api.ErrFull {
					t.Errorf("NewStruct: %v", e)
				}
				break
			}
			if e != api.OK || at != uint64(top) {
				t.Fatalf("NewStruct: %d, %v", at, e)
			}
			ats = append(ats, at)
			top += 1 + i%2
			if i < 1000 && (a.Top() != top || a.Free() != words-top || a.Words() != words) {
				t.Fatalf("%d, %d, %d", a.Top(), a.Free(), a.Words())
			}
		}
		if a.Top() != top || a.Free() != words-top || a.Words() != words || !slices.Equal(a.Objects(), ats) {
			t.Errorf("%d, %d, %d", a.Top(), a.Free(), a.Words())
		}
	}
}

func TestP184Copy(t *testing.T) {
	y := fullYard(13)
	r := rand.New(rand.NewSource(14))
	before := state(y.Arena)
	b := y.Copy()
	if !equal(state(b), before) {
		t.Fatal("a copy tells otherwise")
	}
	spoil := func(a *arena.Arena) {
		for i, at := range y.at {
			for j, n := range y.nums[i] {
				must(0, a.Set(at, uint64(j), valueOf(r, n)))
			}
		}
		must(a.NewStruct(0))
		must(a.NewExn(1<<31-1, []api.Value{i32(5)}))
		must(a.Keep(a.Objects()[3:9]))
		must(a.NewArray(2, 30))
	}
	spoil(b)
	if !equal(state(y.Arena), before) {
		t.Error("the copy's calls are seen in the arena")
	}
	c := y.Copy()
	spoil(y.Arena)
	if !equal(state(c), before) {
		t.Error("the arena's calls are seen in its copy")
	}
	// Each makes the next object behind its own ones.
	k := canon.New()
	add(k, group(arrayOf(api.TI32)))
	x := made(9, k)
	must(x.NewArray(0, 1))
	z := x.Copy()
	must(x.NewArray(0, 7))
	if at := must(z.NewArray(0, 2)); at != 2 || z.Top() != 4 || x.Top() != 7 || must(x.Len(2)) != 7 {
		t.Errorf("the copy's next one is at %d", at)
	}
	w := made(0, k).Copy()
	if w == nil || w.Words() != 0 || w.Free() != 0 {
		t.Error("a copy of an arena without words")
	}
	if _, e := w.NewArray(0, 0); e != api.ErrFull {
		t.Errorf("NewArray: %v", e)
	}
}
