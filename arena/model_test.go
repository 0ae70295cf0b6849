package arena_test

import (
	"math/rand"
	"slices"
	"testing"

	"ratchet/api"
	"ratchet/arena"
	"ratchet/canon"
)

// thing is an object as the chapter's words tell it: no words, just its parts.
type thing struct {
	id    int // as Type tells it
	nums  []int
	parts []api.Value // as they were handed in
	size  int
}

// model is an arena as the chapter's words tell it.
type model struct {
	room   int
	things []thing
	subs   []api.SubType // of the table
}

func (m *model) top() int {
	n := 0
	for _, x := range m.things {
		n += x.size
	}
	return n
}

func (m *model) objects() []uint64 {
	var l []uint64
	n := 0
	for _, x := range m.things {
		l = append(l, uint64(n))
		n += x.size
	}
	return l
}

// lay puts a thing behind the others.
func (m *model) lay(x thing) (uint64, api.Errno) {
	at := m.top()
	if x.size > m.room-at {
		return 0, api.ErrFull
	}
	if x.parts == nil {
		for _, n := range x.nums {
			x.parts = append(x.parts, first(n))
		}
	}
	m.things = append(m.things, x)
	return uint64(at), api.OK
}

// parts tells the types of an id's parts, if it is of a kind and all of them may be.
func (m *model) parts(id, kind int) ([]int, api.Errno) {
	if id < 0 || id >= len(m.subs) {
		return nil, api.ErrNone
	}
	c := m.subs[id].Comp
	if c.Kind != kind || kind == api.CArray && len(c.Fields) != 1 {
		return nil, api.ErrKind
	}
	var l []int
	for _, f := range c.Fields {
		if widths[f.Type.Num] == 0 {
			return nil, api.ErrKind
		}
		l = append(l, f.Type.Num)
	}
	return l, api.OK
}

func (m *model) newStruct(id int) (uint64, api.Errno) {
	l, e := m.parts(id, api.CStruct)
	if e != api.OK {
		return 0, e
	}
	_, words := lain(l)
	return m.lay(thing{id: id, nums: l, size: 1 + words})
}

func (m *model) newArray(id int, n uint64) (uint64, api.Errno) {
	l, e := m.parts(id, api.CArray)
	if e != api.OK {
		return 0, e
	}
	if n > 8*api.MaxArena {
		return 0, api.ErrFull
	}
	return m.lay(thing{id: id, nums: slices.Repeat(l, int(n)), size: int(arrayWords(l[0], n))})
}

func (m *model) newExn(tag int, l []api.Value) (uint64, api.Errno) {
	if tag < 0 || tag >= 1<<31 {
		return 0, api.ErrArg
	}
	x := thing{id: -1 - tag, size: exnWords(len(l)), parts: slices.Clone(l)}
	for _, v := range l {
		if v.Type < api.TI32 || v.Type > api.TRef || !fitting(v.Type, v) {
			return 0, api.ErrFit
		}
		x.nums = append(x.nums, v.Type)
	}
	return m.lay(x)
}

func (m *model) find(at uint64) (*thing, api.Errno) {
	if i := slices.Index(m.objects(), at); i >= 0 {
		return &m.things[i], api.OK
	}
	return nil, api.ErrNone
}

func (m *model) set(at, i uint64, v api.Value) api.Errno {
	x, e := m.find(at)
	if e != api.OK {
		return e
	}
	if i >= uint64(len(x.parts)) {
		return api.ErrPart
	}
	if !fitting(x.nums[i], v) {
		return api.ErrFit
	}
	x.parts[i] = v
	return api.OK
}

func (m *model) setRefs(at uint64, l []api.Ref) api.Errno {
	x, e := m.find(at)
	if e != api.OK {
		return e
	}
	var refs []int
	for i, n := range x.nums {
		if n == api.TRef {
			refs = append(refs, i)
		}
	}
	if len(l) != len(refs) {
		return api.ErrArg
	}
	for _, r := range l {
		if !fitting(api.TRef, api.Value{Type: api.TRef, Ref: r}) {
			return api.ErrFit
		}
	}
	for j, i := range refs {
		x.parts[i].Ref = l[j]
	}
	return api.OK
}

func (m *model) keep(live []uint64) ([]uint64, api.Errno) {
	var things []thing
	for i, at := range live {
		x, e := m.find(at)
		if e != api.OK || i > 0 && live[i-1] >= at {
			return nil, api.ErrArg
		}
		things = append(things, *x)
	}
	m.things = things
	return m.objects(), api.OK
}

func (m *model) copied() *model {
	c := *m
	c.things = slices.Clone(m.things)
	for i := range c.things {
		c.things[i].parts = slices.Clone(c.things[i].parts)
	}
	return &c
}

// hold holds all that an arena tells against its model.
func (m *model) hold(t *testing.T, a *arena.Arena) {
	t.Helper()
	if a.Words() != m.room || a.Top() != m.top() || a.Free() != m.room-m.top() || !equal(a.Objects(), m.objects()) {
		t.Fatalf("%d, %d, %d, %v, not %d, %d, %v", a.Words(), a.Top(), a.Free(), a.Objects(), m.room, m.top(), m.objects())
	}
	ats := m.objects()
	for at := range uint64(m.room + 3) {
		i := slices.Index(ats, at)
		if i < 0 {
			if _, e := a.Type(at); e != api.ErrNone {
				t.Fatalf("Type(%d): %v", at, e)
			}
			continue
		}
		x := m.things[i]
		if must(a.Type(at)) != x.id || must(a.Len(at)) != uint64(len(x.parts)) || must(a.Size(at)) != x.size {
			t.Fatalf("at %d: %d, %d, %d, not %v", at, must(a.Type(at)), must(a.Len(at)), must(a.Size(at)), x)
		}
		var all []api.Value
		var refs []api.Ref
		for j, v := range x.parts {
			n := x.nums[j]
			all = append(all, told(n, v, false))
			if n == api.TRef {
				refs = append(refs, v.Ref)
			}
			if got, e := a.Get(at, uint64(j), true); e != api.OK || got != told(n, v, true) {
				t.Fatalf("part %d at %d: %v, %v, not %v", j, at, got, e, told(n, v, true))
			}
		}
		if !slices.Equal(must(a.Values(at)), all) || !slices.Equal(must(a.Refs(at)), refs) {
			t.Fatalf("at %d: %v, not %v", at, must(a.Values(at)), all)
		}
	}
}

// player makes calls on an arena and on its model.
type player struct {
	*rand.Rand
	k *canon.Table
	a *arena.Arena
	m *model
}

// address is mostly an object's.
func (p *player) address() uint64 {
	l := p.m.objects()
	if len(l) == 0 || p.Intn(8) == 0 {
		return uint64(p.Intn(p.m.room + 2))
	}
	return l[p.Intn(len(l))]
}

// value is mostly one that fits a part.
func (p *player) value(num int) api.Value {
	if p.Intn(6) == 0 {
		num = p.Intn(9)
	}
	v := valueOf(p.Rand, num)
	if p.Intn(12) == 0 {
		l := wrongRefs()
		v.Ref = l[p.Intn(len(l))]
	}
	return v
}

// live are some of the objects' addresses, at times with others between.
func (p *player) live() []uint64 {
	var l []uint64
	often := p.Intn(5)
	for _, at := range p.m.objects() {
		if p.Intn(4) < often {
			l = append(l, at)
		}
		if p.Intn(60) == 0 {
			l = append(l, p.address())
		}
	}
	return l
}

// make makes a new object, or is refused.
func (p *player) make(t *testing.T) {
	var at, want uint64
	var e, f api.Errno
	id := p.Intn(len(p.m.subs)+2) - 1
	switch p.Intn(3) {
	case 0:
		at, e = p.a.NewStruct(id)
		want, f = p.m.newStruct(id)
	case 1:
		n := uint64(p.Intn(20))
		if p.Intn(20) == 0 {
			n = bitsOf(p.Rand)
		}
		at, e = p.a.NewArray(id, n)
		want, f = p.m.newArray(id, n)
	default:
		var l []api.Value
		for range p.Intn(20) {
			l = append(l, valueOf(p.Rand, 1+p.Intn(api.TRef)))
		}
		if len(l) > 0 && p.Intn(5) == 0 {
			l[p.Intn(len(l))] = p.value(p.Intn(9))
		}
		tag := int(bitsOf(p.Rand))
		if p.Intn(3) > 0 {
			tag = p.Intn(1 << 31)
		}
		at, e = p.a.NewExn(tag, l)
		want, f = p.m.newExn(tag, l)
	}
	if at != want || e != f {
		t.Fatalf("a new object: %d, %v, not %d, %v", at, e, want, f)
	}
}

// change sets parts, or is refused.
func (p *player) change(t *testing.T) {
	at := p.address()
	x, e := p.m.find(at)
	if e != api.OK {
		x = &thing{}
	}
	var f api.Errno
	if p.Intn(3) == 0 {
		var l []api.Ref
		for _, n := range x.nums {
			if n == api.TRef {
				l = append(l, p.value(n).Ref)
			}
		}
		if p.Intn(6) == 0 {
			l = append(l, api.Ref{})
		}
		e, f = p.a.SetRefs(at, l), p.m.setRefs(at, l)
	} else {
		i, num := uint64(p.Intn(len(x.nums)+1)), p.Intn(8)
		if i < uint64(len(x.nums)) {
			num = x.nums[i]
		}
		v := p.value(num)
		e, f = p.a.Set(at, i, v), p.m.set(at, i, v)
	}
	if e != f {
		t.Fatalf("set at %d: %v, not %v", at, e, f)
	}
}

// types puts another type into the table.
func (p *player) types() {
	s := structOf()
	switch p.Intn(8) {
	case 0:
		s = odd()[p.Intn(len(odd()))]
	case 1, 2:
		s = arrayOf(nums[p.Intn(len(nums))])
	default:
		l := make([]int, p.Intn(7))
		for i := range l {
			l[i] = nums[p.Intn(len(nums))]
		}
		s = structOf(l...)
	}
	if id := add(p.k, group(s))[0]; id == len(p.m.subs) {
		p.m.subs = append(p.m.subs, s)
	}
}

// Rows of calls, each held against the chapter's words; now and then both go on with a copy.
func TestP185Rows(t *testing.T) {
	for seed := range int64(600) {
		r := rand.New(rand.NewSource(seed))
		k := canon.New()
		room := r.Intn(120)
		p := &player{r, k, made(room, k), &model{room: room}}
		for range 8 {
			p.types()
		}
		for range 120 {
			switch p.Intn(20) {
			case 0:
				p.types()
			case 1:
				old, was := p.a, p.m.copied()
				p.a = p.a.Copy()
				for range 3 {
					p.change(t)
					p.make(t)
				}
				was.hold(t, old)
			case 2, 3:
				l := p.live()
				got, e := p.a.Keep(l)
				if want, f := p.m.keep(l); e != f || !slices.Equal(got, want) {
					t.Fatalf("Keep(%v): %v, %v, not %v, %v", l, got, e, want, f)
				}
			case 4, 5, 6, 7, 8:
				p.make(t)
			default:
				p.change(t)
			}
			p.m.hold(t, p.a)
		}
	}
}

// Objects never overlap: each word behind an object's address, up to its size, is no object's, and the top is the sum of all sizes.
func TestP185NoOverlap(t *testing.T) {
	for seed := range int64(20) {
		y := fullYard(seed)
		next := uint64(0)
		for _, at := range y.Objects() {
			if at != next {
				t.Fatalf("an object at %d, not %d", at, next)
			}
			next += uint64(must(y.Size(at)))
		}
		if next != uint64(y.Top()) {
			t.Fatalf("the top is %d, not %d", y.Top(), next)
		}
	}
}

// An object takes as many words as Words tells of its type.
func TestP185SizesAreThoseOfWords(t *testing.T) {
	r := rand.New(rand.NewSource(15))
	k := canon.New()
	a := made(api.MaxArena, k)
	for range 400 {
		l := make([]int, r.Intn(12))
		for i := range l {
			l[i] = nums[r.Intn(len(nums))]
		}
		s := structOf(l...)
		at := must(a.NewStruct(add(k, group(s))[0]))
		if n, _ := arena.Words(s, 0); uint64(must(a.Size(at))) != n {
			t.Errorf("Size of %v: %d, not %d", l, must(a.Size(at)), n)
		}
		s = arrayOf(nums[r.Intn(len(nums))])
		n := uint64(r.Intn(50))
		at = must(a.NewArray(add(k, group(s))[0], n))
		if w, _ := arena.Words(s, n); uint64(must(a.Size(at))) != w {
			t.Errorf("Size of %v: %d, not %d", s, must(a.Size(at)), w)
		}
	}
}

// What a call answers hangs on its own arena's calls alone, though both have one table.
func TestP185TwoArenas(t *testing.T) {
	k := table("(struct (field i8 i8))", "(array i32)")
	a, b := made(9, k), made(20, k)
	must(a.NewStruct(0))
	if b.Top() != 0 || len(b.Objects()) != 0 {
		t.Error("an object of the other arena")
	}
	must(b.NewArray(1, 3))
	must(0, b.Set(0, 1, i32(7)))
	if must(a.Type(0)) != 0 || must(a.Get(0, 1, false)) != i32(0) || a.Free() != 7 {
		t.Error("the other arena's calls are seen")
	}
}
