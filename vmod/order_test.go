package vmod_test

import (
	"fmt"
	"slices"
	"strings"
	"testing"

	"ratchet/api"
	"ratchet/section"
)

// fault is a change of the whole module, and what comes of it.
type fault struct {
	name   string
	change func(m *api.Module)
	place  api.Fault
	e      api.Errno
}

// inOrder are faults of all sections, in the order in which they are told: those of a section by number, those of one part in the order of its row. None stands in the way of those ahead of it.
func inOrder() []fault {
	bad := limits(false, 7, 3)
	return []fault{
		{"a type that is declared below what is final", func(m *api.Module) { m.Types[5].Types[0].Supers = []int{3} }, at(section.Type, 5), api.ErrFinal},
		{"a type whose Super does not match", func(m *api.Module) { m.Types[6].Types[0].Supers = []int{4} }, at(section.Type, 6), api.ErrSuper},
		{"a type of no kind", func(m *api.Module) { m.Types[3].Types[0].Comp.Kind = 4 }, at(section.Type, ofBoth), api.ErrForm},
		{"an array of two", func(m *api.Module) {
			m.Types[6].Types[0].Comp.Fields = append(m.Types[6].Types[0].Comp.Fields, api.Field{Type: val("i8")})
		}, at(section.Type, anArray), api.ErrForm},
		{"an import of no kind", func(m *api.Module) { m.Imports[3].Extern.Kind = 7 }, at(section.Import, 3), api.ErrForm},
		{"an imported tag with a result", func(m *api.Module) { m.Imports[4].Extern.Type = toI32 }, at(section.Import, 4), api.ErrTag},
		{"an imported memory's limits", func(m *api.Module) { m.Imports[5].Extern.Memory = bad }, at(section.Import, 5), api.ErrLimits},
		{"an imported function's type", func(m *api.Module) { m.Imports[6].Extern.Type = aStruct }, at(section.Import, 6), api.ErrKind},
		{"an imported global's type", func(m *api.Module) { m.Imports[7].Extern.Global.Type = val("(ref 9)") }, at(section.Import, 7), api.ErrIndex},
		{"an imported table's elements", func(m *api.Module) { m.Imports[8].Extern.Table = tableOf("i32", bad) }, at(section.Import, 8), api.ErrForm},
		{"an imported table's limits", func(m *api.Module) { m.Imports[8].Extern.Table = tableOf("(ref 9)", bad) }, at(section.Import, 8), api.ErrLimits},
		{"an imported table's type", func(m *api.Module) { m.Imports[8].Extern.Table.Elem = val("(ref 9)") }, at(section.Import, 8), api.ErrIndex},
		{"a function's type", func(m *api.Module) { m.Funcs[1].Type = anArray }, at(section.Function, 1), api.ErrKind},
		{"a function's type that there isn't", func(m *api.Module) { m.Funcs[2].Type = -1 }, at(section.Function, 2), api.ErrIndex},
		{"a table's elements", func(m *api.Module) { m.Tables[1].Type = tableOf("i64", bad) }, at(section.Table, 1), api.ErrForm},
		{"a table's limits", func(m *api.Module) { m.Tables[1].Type = tableOf("(ref 9)", bad) }, at(section.Table, 1), api.ErrLimits},
		{"a table's type", func(m *api.Module) { m.Tables[1].Type.Elem = val("(ref 9)") }, at(section.Table, 1), api.ErrIndex},
		{"a table's Init", func(m *api.Module) { m.Tables[1].Init = list(fn(3), fn(4)) }, in(section.Table, 1, 2), api.ErrLeft},
		{"a table without Init", func(m *api.Module) { m.Tables[3].HasInit = false }, at(section.Table, 3), api.ErrInit},
		{"a memory", func(m *api.Module) { m.Memories[0] = bad }, at(section.Memory, 0), api.ErrLimits},
		{"a tag's type", func(m *api.Module) { m.Tags[0] = 99 }, at(section.Tag, 0), api.ErrIndex},
		{"a tag", func(m *api.Module) { m.Tags[1] = toI32 }, at(section.Tag, 1), api.ErrTag},
		{"a global's type", func(m *api.Module) { m.Globals[2].Type.Type = val("i16") }, at(section.Global, 2), api.ErrForm},
		{"a global's Init", func(m *api.Module) { m.Globals[3].Init = list(get(7)) }, in(section.Global, 3, 0), api.ErrIndex},
		{"an export of nothing", func(m *api.Module) { m.Exports[2].At = 99 }, at(section.Export, 2), api.ErrIndex},
		{"an export of a name twice", func(m *api.Module) { m.Exports[5].Name = "t" }, at(section.Export, 5), api.ErrDouble},
		{"a start that there isn't", func(m *api.Module) { m.Start = 99 }, at(section.Start, 0), api.ErrIndex},
		{"a start with params", func(m *api.Module) { m.Start = 0 }, at(section.Start, 0), api.ErrStart},
		{"a segment's type", func(m *api.Module) { m.Elems[1].Type = val("i32") }, at(section.Element, 1), api.ErrForm},
		{"a segment's type that there isn't", func(m *api.Module) { m.Elems[1].Type = val("(ref 9)") }, at(section.Element, 1), api.ErrIndex},
		{"a segment's table", func(m *api.Module) { m.Elems[1].Table = 99 }, at(section.Element, 1), api.ErrIndex},
		{"a segment of another table", func(m *api.Module) { m.Elems[1].Table = 1 }, at(section.Element, 1), api.ErrType},
		{"a segment's offset", func(m *api.Module) { m.Elems[1].Offset = list(i32(1), add) }, in(section.Element, 1, 1), api.ErrUnder},
		{"a segment's elements", func(m *api.Module) { m.Elems[1].Init = append(m.Elems[1].Init, nil) }, in(section.Element, 1, 4), api.ErrUnder},
		{"a body", func(m *api.Module) { m.Funcs[3].Body = list(nop, nop, plain(-1)) }, in(section.Code, 3, 2), api.ErrForm},
		{"a function's locals", func(m *api.Module) { m.Funcs[4].Locals = []api.Local{run(1, "i8")} }, in(section.Code, 4, 0), api.ErrForm},
		{"a data segment's offset", func(m *api.Module) { m.Datas[1].Offset = list(get(1)) }, in(section.Data, 1, 0), api.ErrMutable},
		{"a data segment's memory", func(m *api.Module) { m.Datas[2].Memory = 99 }, at(section.Data, 2), api.ErrIndex},
	}
}

func TestVM4Each(t *testing.T) {
	for _, f := range inOrder() {
		t.Run(f.name, func(t *testing.T) { changed(t, f.change, f.place, f.e) })
	}
}

// Of two faults the one that is told first, whatever comes behind it. A fault of a part that is changed again behind is the later one's.
func TestVM4Pairs(t *testing.T) {
	all := inOrder()
	for a := range all {
		for _, b := range all[a+1:] {
			m := whole()
			b.change(&m)
			all[a].change(&m)
			// The later one could mend the earlier: then it speaks of the same part.
			if f, e := wantModule(m); f != all[a].place || e != all[a].e {
				t.Errorf("%s, and %s: the chapter's words come to %v, %d", all[a].name, b.name, f, e)
			}
			isModule(t, m, all[a].place, all[a].e)
		}
	}
	m := whole()
	for _, f := range slices.Backward(all) {
		f.change(&m)
		isModule(t, m, f.place, f.e)
	}
}

// Each section is told ahead of those behind it, in the chapter's order, be the fault ever so far behind in it.
func TestVM4Sections(t *testing.T) {
	var m api.Module
	add := []struct {
		id     int
		change func()
		e      api.Errno
	}{
		{section.Data, func() { m.Datas = append(make([]api.Data, 9), api.Data{Mode: api.Active}) }, api.ErrIndex},
		{section.Code, func() {
			m.Types = read("(func)")
			m.Funcs = append(make([]api.Func, 9), api.Func{Body: list(drop)})
		}, api.ErrUnder},
		{section.Element, func() {
			m.Elems = append(slices.Repeat([]api.Elem{{Type: val("(ref func)")}}, 9), api.Elem{})
		}, api.ErrForm},
		{section.Start, func() { m.HasStart, m.Start = true, 99 }, api.ErrIndex},
		{section.Export, func() {
			m.Exports = append(m.Exports, api.Export{Name: "a"}, api.Export{Name: "b"}, api.Export{Name: "b"})
		}, api.ErrDouble},
		{section.Global, func() {
			m.Globals = append(slices.Repeat([]api.Global{{Type: still("i32"), Init: list(i32(1))}}, 9), api.Global{Type: still("i32")})
		}, api.ErrUnder},
		{section.Tag, func() { m.Tags = []int{0, 0, 1} }, api.ErrIndex},
		{section.Memory, func() { m.Memories = []api.Limits{{}, {Min: 1 << 17}} }, api.ErrLimits},
		{section.Table, func() { m.Tables = []api.Table{{Type: tableOf("(ref func)", api.Limits{})}} }, api.ErrInit},
		{section.Function, func() { m.Funcs = append(m.Funcs, api.Func{Type: 1}) }, api.ErrIndex},
		{section.Import, func() {
			m.Imports = []api.Import{{Extern: api.Extern{Kind: api.KMemory}}, {Extern: api.Extern{Kind: api.KMemory, Memory: api.Limits{Min: 1 << 17}}}}
		}, api.ErrLimits},
		{section.Type, func() { m.Types = append(m.Types, api.RecType{Types: make([]api.SubType, 1)}) }, api.ErrForm},
	}
	ends := map[int]int{section.Data: 9, section.Code: 9, section.Element: 9, section.Start: 0, section.Export: 2, section.Global: 9, section.Tag: 2, section.Memory: 1, section.Table: 0, section.Function: 10, section.Import: 1, section.Type: 1}
	for _, a := range add {
		a.change()
		want := at(a.id, ends[a.id])
		if a.id == section.Code || a.id == section.Global {
			want.Instr = 0
		}
		isModule(t, m, want, a.e)
	}
}

// change changes something somewhere in a module, which may then be, or not.
func (c *chooser) change(m *api.Module) {
	index := func() uint32 { return c.Uint32() >> (24 + c.Intn(8)) % 13 }
	heap := c.Intn(24) - 13
	kind := func() api.ValType {
		if c.Intn(4) == 0 {
			return api.ValType{Num: c.Intn(9), Null: c.Intn(2) == 0, Heap: heap}
		}
		return c.kind()
	}
	number := func() uint64 { return c.Uint64() >> c.Intn(64) }
	bounds := func() api.Limits {
		return api.Limits{Wide: c.Intn(2) == 0, Min: number(), Max: number(), HasMax: c.Intn(2) == 0}
	}
	switch c.Intn(26) {
	case 0:
		s := &m.Types[c.Intn(len(m.Types))].Types[0]
		s.Supers = []int{c.Intn(11) - 1}
	case 1:
		s := &m.Types[c.Intn(len(m.Types))].Types[0].Comp
		s.Kind = c.Intn(5)
	case 2:
		s := &m.Types[c.Intn(len(m.Types))].Types[0].Comp
		s.Fields, s.Params = append(s.Fields, api.Field{Type: kind()}), append(s.Params, kind())
	case 3:
		m.Imports[c.Intn(len(m.Imports))].Extern.Kind = c.Intn(6)
	case 4:
		x := &m.Imports[c.Intn(len(m.Imports))].Extern
		x.Type, x.Table.Elem, x.Global.Type = c.Intn(12)-1, kind(), kind()
	case 5:
		x := &m.Imports[c.Intn(len(m.Imports))].Extern
		x.Table.Limits, x.Memory = bounds(), bounds()
	case 6:
		x := &m.Imports[c.Intn(len(m.Imports))].Extern
		x.Global.Mut = !x.Global.Mut
	case 7:
		m.Funcs[c.Intn(len(m.Funcs))].Type = c.Intn(12) - 1
	case 8:
		m.Funcs[c.Intn(len(m.Funcs))].Locals = []api.Local{{Count: uint32(c.Intn(2)), Type: kind()}}
	case 9:
		f := &m.Funcs[c.Intn(len(m.Funcs))]
		f.Body = c.spoil(f.Body)
	case 10:
		m.Funcs[c.Intn(len(m.Funcs))] = c.function()
	case 11:
		s := &m.Tables[c.Intn(len(m.Tables))]
		s.Type.Elem, s.HasInit = kind(), c.Intn(2) == 0
	case 12:
		m.Tables[c.Intn(len(m.Tables))].Type.Limits = bounds()
	case 13:
		s := &m.Tables[c.Intn(len(m.Tables))]
		s.Init = c.spoil(s.Init)
	case 14:
		m.Memories[c.Intn(2)] = bounds()
	case 15:
		m.Tags[c.Intn(2)] = c.Intn(12) - 1
	case 16:
		m.Globals[c.Intn(len(m.Globals))].Type = api.GlobalType{Type: kind(), Mut: c.Intn(2) == 0}
	case 17:
		g := &m.Globals[c.Intn(len(m.Globals))]
		g.Init = c.spoil(g.Init)
	case 18:
		x := &m.Exports[c.Intn(len(m.Exports))]
		x.Kind, x.At = c.Intn(6), index()
	case 19:
		m.Exports[c.Intn(len(m.Exports))].Name = m.Exports[c.Intn(len(m.Exports))].Name
	case 20:
		m.Start = index()
	case 21:
		s := &m.Elems[c.Intn(len(m.Elems))]
		s.Type, s.Mode = kind(), c.Intn(4)
	case 22:
		s := &m.Elems[c.Intn(len(m.Elems))]
		s.Table, s.Offset = index(), c.spoil(s.Offset)
	case 23:
		s := &m.Elems[c.Intn(len(m.Elems))]
		n := c.Intn(len(s.Init))
		s.Init[n] = c.spoil(s.Init[n])
	case 24:
		s := &m.Datas[c.Intn(len(m.Datas))]
		s.Mode, s.Memory = c.Intn(4), index()
	case 25:
		s := &m.Datas[c.Intn(len(m.Datas))]
		s.Offset = c.spoil(s.Offset)
	}
}

func TestVM4Rows(t *testing.T) {
	c, seen := newChooser(7), map[string]int{}
	for range 12000 {
		m := whole()
		for range 1 + c.Intn(3) {
			c.change(&m)
		}
		want, e := wantModule(m)
		isModule(t, m, want, e)
		seen[fmt.Sprint(want.What, "/", int(e))]++
	}
	for _, s := range strings.Fields("0/0 1/4 1/50 1/70 1/71 2/4 2/150 2/151 2/170 2/174 3/150 3/151 4/4 4/131 4/160 4/170 4/173 5/170 13/150 13/151 13/174 6/4 6/131 6/150 6/160 6/161 7/150 7/171 8/150 8/172 9/4 9/130 9/131 9/150 9/160 10/4 10/130 10/131 10/132 10/150 10/162 11/131 11/150 11/160") {
		if seen[s] == 0 {
			t.Errorf("no module of %s", s)
		}
	}
	if seen["0/0"] < 500 {
		t.Errorf("%d modules may be", seen["0/0"])
	}
}
