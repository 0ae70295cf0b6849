package encode_test

import (
	"bytes"
	"math"
	"strings"
	"testing"

	"ratchet/api"
	"ratchet/encode"
	"ratchet/section"
)

// shows asks of what was made for its sections, and for all of them as one.
func shows(t *testing.T, x *made) {
	t.Helper()
	want := x.sections()
	before := told(x.m)
	if l, e := encode.Sections(x.m); told(l) != told(want) || e != api.OK {
		t.Errorf("Sections(%s):\n%s, %d, not\n%s", brief(x.m), brief(l), e, brief(want))
	}
	if told(x.m) != before {
		t.Errorf("Sections(%s) changes the module", brief(x.m))
	}
	writes(t, x.m, joined(want)[8:])
}

func TestP122Examples(t *testing.T) {
	writes(t, api.Module{})
	writes(t, api.Module{Types: list(group(nothing()))}, bin("01 04 01 60 00 00"))
	if l, e := encode.Sections(api.Module{}); len(l) != 0 || e != api.OK {
		t.Errorf("the module of nothing: %s, %d", brief(l), e)
	}
}

// Each section alone: with one element, with several.
func TestP122EachAlone(t *testing.T) {
	for _, l := range samples() {
		for _, s := range l {
			shows(t, newMade().lay(s))
			shows(t, newMade().lay(s, s))
			for _, other := range l {
				shows(t, newMade().lay(s, other, s))
			}
		}
		shows(t, newMade().lay(l...))
	}
}

// All sections stand in the order of their ranks, however they come into the module.
func TestP122AllTogether(t *testing.T) {
	x := newMade()
	for _, l := range samples() {
		x.lay(l...)
	}
	x.m.HasStart, x.m.HasCount, x.m.Start = true, true, 5
	shows(t, x)
	l, _ := encode.Sections(x.m)
	var ids []int
	for _, s := range l {
		ids = append(ids, s.ID)
		if s.At != 0 || s.Name != "" {
			t.Errorf("section %d: At %d, Name %q", s.ID, s.At, s.Name)
		}
	}
	if told(ids) != "[1 2 3 4 5 13 6 7 8 9 12 10 11]" {
		t.Errorf("sections: %v", ids)
	}
}

// Lists that are empty are as those that are nil: their sections are left out.
func TestP122LeftOut(t *testing.T) {
	empty := api.Module{
		Types: []api.RecType{}, Imports: []api.Import{}, Funcs: []api.Func{}, Tables: []api.Table{}, Memories: []api.Limits{}, Tags: []int{},
		Globals: []api.Global{}, Exports: []api.Export{}, Elems: []api.Elem{}, Datas: []api.Data{}, Customs: []api.Custom{},
	}
	writes(t, empty)
	empty.HasStart = true
	writes(t, empty, bin("08 01 00"))
	empty.HasCount = true
	writes(t, empty, bin("08 01 00 0c 01 00"))
	empty.Funcs = []api.Func{{Locals: []api.Local{}, Body: []api.Instr{}}}
	empty.Tables = []api.Table{{Type: api.TableType{Elem: ref(0)}, Init: []api.Instr{}}}
	empty.Globals = []api.Global{{Type: api.GlobalType{Type: num(api.TI64)}, Init: []api.Instr{}}}
	writes(t, empty, bin("03 02 01 00  04 05 01 64 00 00 00  06 04 01 7e 00 0b  08 01 00  0c 01 00  0a 04 01 02 00 0b"))
}

func TestP122Start(t *testing.T) {
	for n, digits := range map[uint32]string{0: "08 01 00", 1: "08 01 01", 127: "08 01 7f", 128: "08 02 80 01", math.MaxUint32: "08 05 ff ff ff ff 0f"} {
		writes(t, api.Module{HasStart: true, Start: n}, bin(digits))
		if n != 0 {
			fails(t, api.Module{Start: n}, api.ErrForm)
		}
	}
	writes(t, api.Module{Start: 0})
}

func TestP122Count(t *testing.T) {
	data := api.Data{Init: []byte{7}}
	writes(t, api.Module{HasCount: true}, bin("0c 01 00"))
	writes(t, api.Module{Datas: list(data)}, bin("0b 04 01 01 01 07"))
	writes(t, api.Module{HasCount: true, Datas: list(data)}, bin("0c 01 01 0b 04 01 01 01 07"))
	writes(t, api.Module{HasCount: true, Datas: many(data, 128)}, bin("0c 02 80 01 0b 82 03 80 01", strings.Repeat("01 01 07", 128)))
	// The code stands between them.
	writes(t, api.Module{HasCount: true, Datas: list(data), Funcs: list(api.Func{})}, bin("03 02 01 00 0c 01 01 0a 04 01 02 00 0b 0b 04 01 01 01 07"))
}

func TestP122Tables(t *testing.T) {
	typed := api.TableType{Elem: refNull(api.HFunc), Limits: api.Limits{Min: 1}}
	writes(t, api.Module{Tables: list(api.Table{Type: typed})}, bin("04 04 01 70 00 01"))
	writes(t, api.Module{Tables: list(api.Table{Type: typed, HasInit: true})}, bin("04 07 01 40 00 70 00 01 0b"))
	writes(t, api.Module{Tables: list(api.Table{Type: typed, HasInit: true, Init: list(function(3))})}, bin("04 09 01 40 00 70 00 01 d2 03 0b"))
	fails(t, api.Module{Tables: list(api.Table{Type: typed, Init: list(function(3))})}, api.ErrForm)
	fails(t, api.Module{Tables: list(api.Table{Type: typed}, api.Table{Type: typed, Init: list(nop())})}, api.ErrForm)
	// From the left: the first table decides.
	init, op := api.Table{Type: typed, Init: seven()}, api.Table{Type: typed, HasInit: true, Init: noOp()}
	fails(t, api.Module{Tables: list(init, op)}, api.ErrForm)
	fails(t, api.Module{Tables: list(op, init)}, api.ErrArg)
}

func TestP122Made(t *testing.T) {
	m := newMaker(1)
	for range 3000 {
		shows(t, m.module())
	}
}

// Each element that is refused, alone and among others.
func TestP122EachWrong(t *testing.T) {
	right := samples()
	for id, l := range wrongs() {
		for _, s := range l {
			for _, p := range s.pieces {
				if p.e == api.OK {
					continue
				}
				fails(t, newMade().lay(s).m, p.e)
				ahead := right[id]
				if id == section.Code {
					ahead = right[section.Function]
				}
				fails(t, newMade().lay(ahead...).lay(s).m, p.e)
				fails(t, newMade().lay(ahead...).lay(s).lay(l...).m, p.e)
			}
		}
	}
}

// Of elements of two sections that are refused the one of the first section counts, whatever else stands in the module.
func TestP122TwoWrong(t *testing.T) {
	wrong := wrongs()
	for a, id := range inOrder() {
		for _, later := range inOrder()[a:] {
			for _, s := range wrong[id] {
				for _, other := range wrong[later] {
					x := newMade().lay(s, other)
					fails(t, x.m, x.error())
					x = newMade().lay(other, s)
					fails(t, x.m, x.error())
				}
			}
		}
	}
}

func TestP122MadeWrong(t *testing.T) {
	m := newMaker(2)
	l := inOrderOf(wrongs())
	for range 3000 {
		x := m.module()
		for range m.Intn(4) {
			x.lay(pick(m, pick(m, l)))
			for _, more := range inOrderOf(samples()) {
				if m.Intn(4) == 0 {
					x.lay(pick(m, more))
				}
			}
		}
		if m.Intn(8) == 0 {
			x.m.HasStart, x.m.Start = false, 7
		}
		if m.Intn(8) == 0 {
			x.m.Customs = append(x.m.Customs, api.Custom{After: 14}, api.Custom{})
		}
		if e := x.error(); e != api.OK {
			fails(t, x.m, e)
			continue
		}
		shows(t, x)
	}
}

// A start that is not told comes behind all sections, a custom section's place ahead of all.
func TestP122FirstAndLast(t *testing.T) {
	for _, l := range wrongs() {
		for _, s := range l {
			x := newMade().lay(s)
			x.m.Start = 1
			fails(t, x.m, x.error())
			x.m.Start, x.m.Customs = 0, list(api.Custom{Name: "\xff"}, api.Custom{After: -1})
			fails(t, x.m, api.ErrForm)
		}
	}
	op := api.Module{Start: 1, Datas: list(api.Data{Mode: api.Active, Offset: noOp()})}
	fails(t, op, api.ErrArg)
	op.Customs = list(api.Custom{After: 14})
	fails(t, op, api.ErrForm)
	op.Customs = list(api.Custom{After: 13})
	fails(t, op, api.ErrArg)
}

// vast is modules of so many elements of one section as are asked for, all of the same bytes, and how many there may be.
type vast struct {
	limit int
	id    int
	of    func(n int) api.Module
	one   string
}

func limited() []vast {
	i32 := api.GlobalType{Type: num(api.TI32)}
	return []vast{
		{api.MaxTypes, section.Type, func(n int) api.Module { return api.Module{Types: many(group(nothing()), n)} }, "60 00 00"},
		{api.MaxFuncs, section.Import, func(n int) api.Module { return api.Module{Imports: make([]api.Import, n)} }, "00 00 00 00"},
		{api.MaxFuncs, section.Function, func(n int) api.Module { return api.Module{Funcs: make([]api.Func, n)} }, "00"},
		{api.MaxTables, section.Table, func(n int) api.Module {
			return api.Module{Tables: many(api.Table{Type: api.TableType{Elem: ref(0)}}, n)}
		}, "64 00 00 00"},
		{api.MaxTables, section.Memory, func(n int) api.Module { return api.Module{Memories: make([]api.Limits, n)} }, "00 00"},
		{api.MaxFuncs, section.Tag, func(n int) api.Module { return api.Module{Tags: make([]int, n)} }, "00 00"},
		{api.MaxFuncs, section.Global, func(n int) api.Module { return api.Module{Globals: many(api.Global{Type: i32}, n)} }, "7f 00 0b"},
		{api.MaxFuncs, section.Export, func(n int) api.Module { return api.Module{Exports: make([]api.Export, n)} }, "00 00 00"},
		{api.MaxFuncs, section.Element, func(n int) api.Module { return api.Module{Elems: many(api.Elem{Type: ref(api.HFunc)}, n)} }, "01 00 00"},
		{api.MaxFuncs, section.Code, func(n int) api.Module { return api.Module{Funcs: make([]api.Func, n)} }, "02 00 0b"},
		{api.MaxFuncs, section.Data, func(n int) api.Module { return api.Module{Datas: make([]api.Data, n)} }, "01 00"},
	}
}

func TestP122Limits(t *testing.T) {
	for _, c := range limited() {
		for _, n := range []int{c.limit - 1, c.limit} {
			l, e := encode.Sections(c.of(n))
			if e != api.OK {
				t.Errorf("section %d of %d: %d", c.id, n, e)
			}
			for _, s := range l {
				if s.ID == c.id && !bytes.HasSuffix(s.Data, bytes.Repeat(bin(c.one), n)) {
					t.Errorf("section %d of %d: %s", c.id, n, short(s.Data))
				}
			}
			if b, e := encode.Write(c.of(n)); len(b) < n*len(bin(c.one)) || e != api.OK {
				t.Errorf("section %d of %d: %s, %d", c.id, n, short(b), e)
			}
		}
		for _, n := range []int{c.limit + 1, c.limit + 2, 3 * c.limit} {
			fails(t, c.of(n), api.ErrLong)
		}
	}
}

// Too many elements come ahead of what they are, and behind all that is wrong in sections ahead.
func TestP122LimitsAmongErrors(t *testing.T) {
	wrong := wrongs()
	for _, c := range limited() {
		for _, id := range inOrder() {
			for _, s := range wrong[id] {
				x := newMade().lay(s)
				more := c.of(c.limit + 1)
				want := api.ErrLong
				for _, ahead := range inOrder() {
					if ahead == c.id || ahead == section.Function && len(more.Funcs) > 0 {
						break
					}
					for _, p := range x.pieces[ahead] {
						if p.e != api.OK {
							want = p.e
						}
					}
				}
				fails(t, with(more, x.m), want)
			}
		}
	}
}

// with is a module with the lists of another one ahead of its own.
func with(m, ahead api.Module) api.Module {
	m.Types = append(ahead.Types, m.Types...)
	m.Imports = append(ahead.Imports, m.Imports...)
	m.Funcs = append(ahead.Funcs, m.Funcs...)
	m.Tables = append(ahead.Tables, m.Tables...)
	m.Memories = append(ahead.Memories, m.Memories...)
	m.Tags = append(ahead.Tags, m.Tags...)
	m.Globals = append(ahead.Globals, m.Globals...)
	m.Exports = append(ahead.Exports, m.Exports...)
	m.Elems = append(ahead.Elems, m.Elems...)
	m.Datas = append(ahead.Datas, m.Datas...)
	return m
}

// All types together: behind the groups' own errors, ahead of the other sections'.
func TestP122AllTypes(t *testing.T) {
	full := group(many(nothing(), 6000)...)
	fails(t, api.Module{Types: list(full, full)}, api.ErrLong)
	fails(t, api.Module{Types: list(full, full), Imports: list(api.Import{Module: "\xff"}), Tags: list(-1)}, api.ErrLong)
	fails(t, api.Module{Types: list(full, full, group(unkind())), Imports: list(api.Import{Module: "\xff"})}, api.ErrForm)
	fails(t, api.Module{Types: list(full), Imports: list(api.Import{Module: "\xff"})}, api.ErrName)
}

// The data count has no limit: too many segments are those of the data section, behind all bodies.
func TestP122ManyDatas(t *testing.T) {
	m := api.Module{HasCount: true, Datas: make([]api.Data, api.MaxFuncs+1)}
	fails(t, m, api.ErrLong)
	m.Funcs = list(api.Func{Body: noOp()})
	fails(t, m, api.ErrArg)
	m.Funcs = list(api.Func{})
	fails(t, m, api.ErrLong)
	m.Start = 1
	fails(t, m, api.ErrLong)
}
