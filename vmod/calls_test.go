package vmod_test

import (
	"slices"
	"testing"

	"ratchet/api"
	"ratchet/opcode"
	"ratchet/vmod"
)

func TestExamples(t *testing.T) {
	one := func(text string, body ...api.Instr) api.Module {
		return api.Module{Types: read(text), Funcs: []api.Func{{Body: body}}}
	}
	isModule(t, one("(func (result i32))", i32(7)), api.Fault{}, api.OK)
	isModule(t, one("(func (result i32))"), api.Fault{What: 10}, api.ErrUnder)
	m := one("(func)")
	m.Exports = []api.Export{{Name: "a"}, {Name: "a"}}
	isModule(t, m, api.Fault{What: 7, At: 1, Instr: -1}, api.ErrDouble)
	m = one("(func (param i32))")
	m.HasStart = true
	isModule(t, m, api.Fault{What: 8, Instr: -1}, api.ErrStart)
	isModule(t, api.Module{Memories: []api.Limits{{Min: 65537}}}, api.Fault{What: 5, Instr: -1}, api.ErrLimits)
	isModule(t, api.Module{Tables: []api.Table{{Type: tableOf("(ref func)", api.Limits{})}}}, api.Fault{What: 4, Instr: -1}, api.ErrInit)
	// The document's examples of the whole have the memory, too; a module that has nothing may be.
	isModule(t, api.Module{}, api.Fault{}, api.OK)
	isModule(t, api.Module{Types: []api.RecType{}, Exports: []api.Export{}, Start: 7}, api.Fault{}, api.OK)
}

func TestWholeMayBe(t *testing.T) {
	isModule(t, whole(), api.Fault{}, api.OK)
}

func TestVM1Context(t *testing.T) {
	want := api.Ctx{
		Types:    groups(),
		Funcs:    []int{ofI32, toI32, selfFn, nothing, toI32, nothing, nothing, ofI32, ofBoth},
		Memories: []api.Limits{limits(false, 1, 2), limits(true, 3), limits(false, 0, 1<<16), limits(true, 1<<48, 1<<48)},
		Globals: []api.GlobalType{
			still("i32"), mut("i64"), still("(ref func)"), still("i64"),
			still("i32"), still("i64"), mut("(ref func)"), still("(ref null 4)"), still("(ref null any)"), still("(ref 6)"),
		},
		Tags:  []int{ofI32, nothing, ofI32, selfFn},
		Elems: vals("(ref func), (ref func), (ref null 5), (ref func), (ref null any)"),
		Datas: 4,
		Refs:  []bool{true, true, true, true, false, true, false, false, true},
		Tables: []api.TableType{
			tableOf("(ref func)", limits(false, 1, 2)), tableOf("(ref null extern)", limits(true, 7)), tableOf("(ref null func)", limits(false, 1<<32-1, 1<<32-1)),
			tableOf("(ref func)", limits(true, 0)), tableOf("(ref null 4)", limits(true, 1<<63, 1<<64-1)), tableOf("(ref func)", limits(false, 5, 5)),
		},
	}
	if got := vmod.Context(whole()); told(got) != told(want) {
		t.Errorf("it should be\n%+v\nand is\n%+v", want, got)
	}
	if got := vmod.Context(api.Module{}); told(got) != told(api.Ctx{}) {
		t.Errorf("of nothing: %+v", got)
	}
}

// Of what can't be, too, a context tells what stands there.
func TestVM1ContextOdd(t *testing.T) {
	odd := api.TableType{Elem: val("i8"), Limits: api.Limits{Min: 7, Max: 3, HasMax: true}}
	m := api.Module{
		Imports:  []api.Import{{Extern: api.Extern{Kind: 9, Type: 3}}, {Extern: api.Extern{Kind: -1}}, {Extern: api.Extern{Kind: api.KTable, Table: odd, Type: 7}}, {Extern: api.Extern{Kind: api.KTag, Type: -7}}},
		Funcs:    []api.Func{{Type: -1}},
		Memories: []api.Limits{odd.Limits},
		Elems:    []api.Elem{{Type: val("i16"), Mode: 9}},
	}
	want := api.Ctx{Funcs: []int{-1}, Tables: []api.TableType{odd}, Memories: m.Memories, Tags: []int{-7}, Elems: vals("i16"), Refs: []bool{false}}
	if got := vmod.Context(m); told(got) != told(want) {
		t.Errorf("it should be\n%+v\nand is\n%+v", want, got)
	}
}

// refs tells which of some functions are declared.
func refs(change func(m *api.Module)) []uint32 {
	m := api.Module{Types: read("(func)"), Imports: []api.Import{{Extern: api.Extern{Kind: api.KFunc}}, {Extern: api.Extern{Kind: api.KFunc}}}, Funcs: make([]api.Func, 3)}
	change(&m)
	var l []uint32
	for n, is := range vmod.Context(m).Refs {
		if is {
			l = append(l, uint32(n))
		}
	}
	return l
}

func TestVM1Declared(t *testing.T) {
	for _, c := range []struct {
		name   string
		change func(m *api.Module)
		want   []uint32
	}{
		{"nothing", func(m *api.Module) {}, nil},
		{"a body", func(m *api.Module) { m.Funcs[0].Body = list(fn(1), drop) }, nil},
		{"a table", func(m *api.Module) { m.Tables = []api.Table{{}, {HasInit: true, Init: list(fn(1))}} }, []uint32{1}},
		{"a table without Init", func(m *api.Module) { m.Tables = []api.Table{{Init: list(fn(1))}} }, nil},
		{"globals", func(m *api.Module) { m.Globals = []api.Global{{Init: list(nop, fn(4), fn(0))}, {Init: list(fn(2))}} }, []uint32{0, 2, 4}},
		{"a passive segment", func(m *api.Module) { m.Elems = []api.Elem{{Init: [][]api.Instr{nil, list(fn(3)), list(nop, fn(0))}}} }, []uint32{0, 3}},
		{"a declared segment", func(m *api.Module) {
			m.Elems = []api.Elem{{}, {Mode: api.Declared, Init: [][]api.Instr{list(fn(3))}}}
		}, []uint32{3}},
		{"an active segment", func(m *api.Module) {
			m.Elems = []api.Elem{{Mode: api.Active, Init: [][]api.Instr{list(fn(2))}, Offset: list(fn(4))}}
		}, []uint32{2, 4}},
		{"the offset of a passive segment", func(m *api.Module) { m.Elems = []api.Elem{{Offset: list(fn(4))}} }, nil},
		{"a data segment's offset", func(m *api.Module) { m.Datas = []api.Data{{Mode: api.Active, Offset: list(fn(1))}} }, nil},
		{"exports", func(m *api.Module) {
			m.Exports = []api.Export{{At: 4}, {At: 1}, {Kind: api.KTable, At: 2}, {Kind: api.KMemory, At: 2}, {Kind: api.KGlobal, At: 2}, {Kind: api.KTag, At: 2}, {Kind: 9, At: 2}, {Kind: -1, At: 2}}
		}, []uint32{1, 4}},
		{"a start", func(m *api.Module) { m.HasStart, m.Start = true, 2 }, nil},
		{"others that name one", func(m *api.Module) {
			m.Globals = []api.Global{{Init: list(x(opcode.Call, 2), get(3), x(opcode.RefNull, 1), api.Instr{Op: opcode.RefFunc, X: 4, Y: 2})}}
		}, []uint32{4}},
		{"nested ones", func(m *api.Module) {
			i := fn(1)
			i.Body, i.Else = list(fn(0)), list(fn(2))
			m.Globals = []api.Global{{Init: list(block(opcode.Loop, "", block(opcode.Block, "", fn(4)), i), nop)}}
		}, []uint32{0, 1, 2, 4}},
		{"what there isn't", func(m *api.Module) {
			for _, n := range indices(5) {
				m.Globals = append(m.Globals, api.Global{Init: list(fn(n))})
				m.Exports = append(m.Exports, api.Export{At: n})
			}
		}, nil},
	} {
		if got := refs(c.change); !slices.Equal(got, c.want) {
			t.Errorf("%s: %v, not %v", c.name, got, c.want)
		}
	}
}

func TestVM1Size(t *testing.T) {
	odd := api.Instr{Op: opcode.End, Body: list(nop), Else: list(nop, nop)}
	for _, c := range []struct {
		l    []api.Instr
		want int
	}{
		{nil, 0},
		{list(nop), 1},
		{list(nop, drop, nop), 3},
		{list(block(opcode.Block, ""), block(opcode.Loop, "", nop), nop), 4},
		{list(choice("", list(nop, nop), list(nop)), choice("", nil, nil), choice("", nil, list(block(opcode.TryTable, "", nop)))), 8},
		{list(block(opcode.If, "", block(opcode.If, "", block(opcode.If, "", nop), nop), nop), nop), 7},
		{list(odd, plain(-7), plain(opcode.Else), block(opcode.Block, "", odd)), 11},
		{[]api.Instr{{Op: opcode.If, Else: list(nop, odd)}}, 6},
	} {
		if got := vmod.Size(c.l); got != c.want {
			t.Errorf("Size(%s): %d, not %d", texts(c.l), got, c.want)
		}
	}
}

// As deep and as wide as it may be nested.
func TestVM1SizeGreat(t *testing.T) {
	deep := list(nop)
	for n := range 1<<16 - 1 {
		if n%2 == 0 {
			deep = list(block(opcode.Block, "", deep...))
		} else {
			deep = list(choice("", nil, deep))
		}
	}
	if n := vmod.Size(deep); n != 1<<16 {
		t.Errorf("deep: %d", n)
	}
	if n := vmod.Size(slices.Repeat(list(block(opcode.Loop, "", nop)), 1<<17)); n != 1<<18 {
		t.Errorf("wide: %d", n)
	}
}
