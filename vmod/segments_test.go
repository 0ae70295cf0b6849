package vmod_test

import (
	"math"
	"testing"

	"ratchet/api"
	"ratchet/opcode"
	"ratchet/section"
)

// elems says what Module answers of the whole module with an element segment more.
func elems(t *testing.T, s api.Elem, want api.Fault, e api.Errno) {
	t.Helper()
	changed(t, func(m *api.Module) { m.Elems = append(m.Elems, s) }, want, e)
}

// modes are those of segments, and such as there aren't, which ask for no table.
func modes() []int { return []int{api.Passive, api.Active, api.Declared, 3, -1, math.MaxInt} }

// What is asked of a segment in each mode.
func TestVM4ElemTypes(t *testing.T) {
	for _, mode := range modes() {
		for _, v := range append(noKinds(), vals("i32, i64, f32, f64")...) {
			elems(t, api.Elem{Mode: mode, Type: v}, at(section.Element, 5), api.ErrForm)
			elems(t, api.Elem{Mode: mode, Type: v, Table: 99, Offset: list(drop), Init: [][]api.Instr{nil}}, at(section.Element, 5), api.ErrForm)
		}
		for _, v := range noHeaps(noType) {
			elems(t, api.Elem{Mode: mode, Type: v}, at(section.Element, 5), api.ErrIndex)
			elems(t, api.Elem{Mode: mode, Type: v, Table: 2, Offset: list(drop), Init: [][]api.Instr{nil}}, at(section.Element, 5), api.ErrIndex)
		}
		if mode != api.Active {
			// Without elements nothing more is asked.
			for _, v := range vals("(ref func), (ref null extern), (ref 4), (ref null 8), (ref noexn)") {
				elems(t, api.Elem{Mode: mode, Type: v}, api.Fault{}, api.OK)
				elems(t, api.Elem{Mode: mode, Type: v, Table: 99, Offset: list(drop)}, api.Fault{}, api.OK)
			}
			// The offset that is none is not counted.
			elems(t, api.Elem{Mode: mode, Type: val("(ref func)"), Offset: list(i32(1)), Init: [][]api.Instr{list(fn(0)), nil}}, in(section.Element, 5, 1), api.ErrUnder)
		}
	}
}

// Of an active one the table is asked, the type, the offset, and then the elements.
func TestVM4ElemTables(t *testing.T) {
	fns := [][]api.Instr{list(fn(0))}
	for _, n := range indices(tables) {
		elems(t, api.Elem{Mode: api.Active, Type: val("(ref func)"), Table: n, Offset: list(i32(0)), Init: fns}, at(section.Element, 5), api.ErrIndex)
		elems(t, api.Elem{Mode: api.Active, Type: val("(ref any)"), Table: n, Offset: list(drop), Init: fns}, at(section.Element, 5), api.ErrIndex)
	}
	for n, wide := range []bool{false, true, false, true, true, false} {
		for _, v := range []string{"(ref func)", "(ref null func)", "(ref null extern)", "(ref extern)", "(ref null 4)", "(ref 5)", "(ref any)", "(ref none)", "(ref 0)"} {
			goes := map[string][]int{"(ref func)": {0, 2, 3, 5}, "(ref null func)": {2}, "(ref null extern)": {1}, "(ref extern)": {1}, "(ref null 4)": {4}, "(ref 5)": {4}, "(ref none)": {4}, "(ref 0)": {0, 2, 3, 5}}
			is := false
			for _, to := range goes[v] {
				is = is || to == n
			}
			s := api.Elem{Mode: api.Active, Type: val(v), Table: uint32(n), Offset: list(i32(0))}
			good, bad := list(i32(0)), list(i64(0))
			if wide {
				good, bad = bad, good
			}
			s.Offset = bad
			if !is {
				elems(t, s, at(section.Element, 5), api.ErrType)
				continue
			}
			elems(t, s, in(section.Element, 5, 1), api.ErrType)
			s.Offset = good
			elems(t, s, api.Fault{}, api.OK)
		}
	}
}

// The numbers of instructions go on from one expression to the next, the offset ahead.
func TestVM4ElemNumbers(t *testing.T) {
	long := list(i32(1), i32(2), add)
	f, two := list(fn(0)), list(fn(0), fn(1))
	for _, c := range []struct {
		mode   int
		offset []api.Instr
		init   [][]api.Instr
		at     int
		e      api.Errno
	}{
		{api.Passive, nil, [][]api.Instr{f, f, f}, 0, api.OK},
		{api.Passive, nil, [][]api.Instr{nil}, 0, api.ErrUnder},
		{api.Passive, nil, [][]api.Instr{f, nil}, 1, api.ErrUnder},
		{api.Passive, nil, [][]api.Instr{f, f, two}, 4, api.ErrLeft},
		{api.Passive, nil, [][]api.Instr{f, f, list(fn(0), nop)}, 3, api.ErrConst},
		{api.Passive, nil, [][]api.Instr{f, long, f}, 4, api.ErrType},
		{api.Passive, nil, [][]api.Instr{f, f, list(get(6))}, 2, api.ErrMutable},
		{api.Passive, nil, [][]api.Instr{f, f, list(get(2)), list(fn(9))}, 3, api.ErrIndex},
		{api.Declared, long, [][]api.Instr{f, list(get(10))}, 1, api.ErrIndex},
		{api.Active, nil, [][]api.Instr{nil}, 0, api.ErrUnder},
		{api.Active, long, [][]api.Instr{f, f}, 0, api.OK},
		{api.Active, long, [][]api.Instr{nil}, 3, api.ErrUnder},
		{api.Active, long, [][]api.Instr{f, nil}, 4, api.ErrUnder},
		{api.Active, long, [][]api.Instr{f, f, two, nil}, 7, api.ErrLeft},
		{api.Active, list(i32(1), get(1), add), [][]api.Instr{nil}, 1, api.ErrMutable},
		{api.Active, list(i32(1), get(10), add), [][]api.Instr{nil}, 1, api.ErrIndex},
		{api.Active, list(i32(1), get(5), add), [][]api.Instr{nil}, 2, api.ErrType},
		{api.Active, list(i32(1), i32(1)), [][]api.Instr{nil}, 2, api.ErrLeft},
		{api.Active, list(i32(1), i32(1), plain(opcode.I32Sub)), [][]api.Instr{f, list(block(opcode.Block, "", nop), nop)}, 4, api.ErrConst},
		{api.Active, list(x(opcode.LocalGet, 0)), nil, 0, api.ErrConst},
	} {
		want := in(section.Element, 5, c.at)
		if c.e == api.OK {
			want = api.Fault{}
		}
		elems(t, api.Elem{Mode: c.mode, Type: val("(ref func)"), Table: 2, Offset: c.offset, Init: c.init}, want, c.e)
	}
	// All globals may be named, the last one too, if they may not be set.
	elems(t, api.Elem{Type: val("(ref null any)"), Init: [][]api.Instr{list(get(9)), list(get(7)), list(get(8))}}, api.Fault{}, api.OK)
	elems(t, api.Elem{Type: val("(ref 6)"), Init: [][]api.Instr{list(get(9)), list(get(7))}}, in(section.Element, 5, 2), api.ErrType)
	many := make([][]api.Instr, api.MaxFuncs)
	for n := range many {
		many[n] = f
	}
	elems(t, api.Elem{Type: val("(ref func)"), Init: many}, api.Fault{}, api.OK)
	many[len(many)-1] = two
	elems(t, api.Elem{Type: val("(ref func)"), Init: many}, in(section.Element, 5, api.MaxFuncs+1), api.ErrLeft)
}

// datas says what Module answers of the whole module with a data segment more.
func datas(t *testing.T, s api.Data, want api.Fault, e api.Errno) {
	t.Helper()
	changed(t, func(m *api.Module) { m.Datas = append(m.Datas, s) }, want, e)
}

func TestVM4Datas(t *testing.T) {
	for _, mode := range modes() {
		if mode == api.Active {
			continue
		}
		datas(t, api.Data{Mode: mode}, api.Fault{}, api.OK)
		datas(t, api.Data{Mode: mode, Memory: 99, Offset: list(drop), Init: []byte{1}}, api.Fault{}, api.OK)
	}
	for _, n := range indices(memories) {
		datas(t, api.Data{Mode: api.Active, Memory: n, Offset: list(i32(0))}, at(section.Data, 4), api.ErrIndex)
		datas(t, api.Data{Mode: api.Active, Memory: n, Offset: list(drop)}, at(section.Data, 4), api.ErrIndex)
	}
	for n, wide := range []bool{false, true, false, true} {
		one := func(l ...api.Instr) api.Data { return api.Data{Mode: api.Active, Memory: uint32(n), Offset: l} }
		good, bad, global := i32(0), i64(0), get(4)
		if wide {
			good, bad, global = bad, good, get(5)
		}
		datas(t, one(good), api.Fault{}, api.OK)
		datas(t, one(global), api.Fault{}, api.OK)
		datas(t, one(bad), in(section.Data, 4, 1), api.ErrType)
		datas(t, one(), in(section.Data, 4, 0), api.ErrUnder)
		datas(t, one(good, good), in(section.Data, 4, 2), api.ErrLeft)
		datas(t, one(good, nop), in(section.Data, 4, 1), api.ErrConst)
		datas(t, one(good, get(10)), in(section.Data, 4, 1), api.ErrIndex)
		datas(t, one(get(1)), in(section.Data, 4, 0), api.ErrMutable)
		datas(t, one(good, plain(opcode.I32Add)), in(section.Data, 4, 1), map[bool]api.Errno{false: api.ErrUnder, true: api.ErrType}[wide])
	}
	isModule(t, api.Module{Datas: []api.Data{{}, {Mode: api.Active}}}, at(section.Data, 1), api.ErrIndex)
}

// What the numbers of two sections say of one another is not asked here.
func TestVM4Counts(t *testing.T) {
	stays(t, func(m *api.Module) {
		m.HasCount = false
		m.Funcs[0].Body = list(xy(opcode.MemoryInit, 0, 0), x(opcode.DataDrop, 3))
		m.Funcs[0].Body = list(i32(0), i32(0), i32(0), m.Funcs[0].Body[0], m.Funcs[0].Body[1])
	})
	changed(t, func(m *api.Module) { m.Funcs[0].Body = list(x(opcode.DataDrop, 4)) }, in(section.Code, 0, 0), api.ErrIndex)
}
