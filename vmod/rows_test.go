package vmod_test

import (
	"math"
	"testing"

	"ratchet/api"
	"ratchet/opcode"
	"ratchet/section"
)

// changed says what Module answers of the whole module behind a change.
func changed(t *testing.T, change func(m *api.Module), want api.Fault, e api.Errno) {
	t.Helper()
	m := whole()
	change(&m)
	isModule(t, m, want, e)
}

// stays says that the whole module may be behind a change, too.
func stays(t *testing.T, change func(m *api.Module)) {
	t.Helper()
	changed(t, change, api.Fault{}, api.OK)
}

// at is a place at which no instruction is to blame.
func at(section, n int) api.Fault { return api.Fault{What: section, At: n, Instr: -1} }

// in is the place of an instruction.
func in(section, n, instr int) api.Fault { return api.Fault{What: section, At: n, Instr: instr} }

// comp is a group of one type.
func comp(c api.CompType) api.RecType { return api.RecType{Types: []api.SubType{{Comp: c}}} }

func function(params, results []api.ValType) api.CompType {
	return api.CompType{Kind: api.CFunc, Params: params, Results: results}
}

func fields(kind int, l ...api.ValType) api.CompType {
	c := api.CompType{Kind: kind}
	for _, v := range l {
		c.Fields = append(c.Fields, api.Field{Type: v})
	}
	return c
}

// Types are asked how they are declared, all of them, and then what each is.
func TestVM4Types(t *testing.T) {
	for _, v := range noKinds() {
		packed := v.Num == api.T8 || v.Num == api.T16
		for _, c := range []api.CompType{
			function([]api.ValType{v}, nil), function(nil, []api.ValType{v}), function(vals("i32, i64, f32, f64, (ref null any)"), []api.ValType{val("i32"), v}),
			function([]api.ValType{val("i32"), v}, vals("i32")),
		} {
			changed(t, func(m *api.Module) { m.Types = append(m.Types, comp(c)) }, at(section.Type, noType), api.ErrForm)
		}
		for _, c := range []api.CompType{fields(api.CStruct, v), fields(api.CStruct, append(vals("i8, i16, i32, i64, f32, f64, (ref 0)"), v)...), fields(api.CArray, v)} {
			if packed {
				stays(t, func(m *api.Module) { m.Types = append(m.Types, comp(c)) })
			} else {
				changed(t, func(m *api.Module) { m.Types = append(m.Types, comp(c)) }, at(section.Type, noType), api.ErrForm)
			}
		}
	}
	for _, kind := range []int{0, -1, 4, math.MaxInt, math.MinInt} {
		changed(t, func(m *api.Module) { m.Types = append(m.Types, comp(api.CompType{Kind: kind})) }, at(section.Type, noType), api.ErrForm)
	}
	for _, n := range []int{0, 2, 3} {
		c := fields(api.CArray, vals("i32, i32, i32")[:n]...)
		changed(t, func(m *api.Module) { m.Types = append(m.Types, comp(c)) }, at(section.Type, noType), api.ErrForm)
	}
	stays(t, func(m *api.Module) { m.Types = append(m.Types, api.RecType{}, api.RecType{Explicit: true}) })
	stays(t, func(m *api.Module) { m.Types = append(m.Types, comp(fields(api.CStruct))) })
	// Lists that a kind does not have count for nothing.
	odd := api.CompType{Kind: api.CStruct, Params: vals("none"), Results: vals("i8")}
	stays(t, func(m *api.Module) { m.Types = append(m.Types, comp(odd)) })
	odd = api.CompType{Kind: api.CFunc, Fields: []api.Field{{}, {Type: val("i8")}}}
	stays(t, func(m *api.Module) { m.Types = append(m.Types, comp(odd)) })
}

func TestVM4Declarations(t *testing.T) {
	sub := func(c api.CompType, supers ...int) api.RecType {
		return api.RecType{Types: []api.SubType{{Supers: supers, Comp: c}}}
	}
	wide := fields(api.CStruct, vals("i8")...)
	wide.Fields = append(wide.Fields, api.Field{Type: val("i32"), Mut: true})
	for _, c := range []struct {
		r api.RecType
		e api.Errno
	}{
		{sub(wide, aStruct), api.OK},
		{sub(wide, noType), api.ErrUnknown},
		{sub(wide, noType+1), api.ErrUnknown},
		{sub(wide, -1), api.ErrUnknown},
		{sub(fields(api.CStruct, ref(true, noType+1))), api.ErrUnknown},
		{sub(fields(api.CStruct, ref(true, api.HNoExn-1))), api.ErrUnknown},
		{sub(fields(api.CStruct, ref(true, noType))), api.OK},
		{sub(wide, aStruct, aStruct), api.ErrArg},
		{sub(fields(api.CFunc), nothing), api.ErrFinal},
		{sub(fields(api.CStruct, vals("i8")...), aStruct), api.ErrSuper},
		{sub(fields(api.CFunc), aStruct), api.ErrSuper},
	} {
		want := at(section.Type, noType)
		if c.e == api.OK {
			want = api.Fault{}
		}
		changed(t, func(m *api.Module) { m.Types = append(m.Types, c.r) }, want, c.e)
		// A type ahead that can't be is told only where all may be declared so.
		if c.e == api.OK {
			want, c.e = at(section.Type, 3), api.ErrForm
		}
		changed(t, func(m *api.Module) {
			m.Types[3].Types[0].Comp.Kind = 7
			m.Types = append(m.Types, c.r)
		}, want, c.e)
	}
	deep := read("(sub (struct))")
	for range api.MaxDepth + 1 {
		deep = append(deep, sub(api.CompType{Kind: api.CStruct}, len(deep)-1))
	}
	isModule(t, api.Module{Types: deep[:api.MaxDepth+1]}, api.Fault{}, api.OK)
	isModule(t, api.Module{Types: deep}, at(section.Type, api.MaxDepth+1), api.ErrDepth)
	// The number is that of the type through all groups.
	changed(t, func(m *api.Module) {
		m.Types = append(m.Types, api.RecType{}, api.RecType{Types: []api.SubType{m.Types[0].Types[0], {Comp: api.CompType{Kind: 9}}}}, comp(api.CompType{}))
	}, at(section.Type, noType+1), api.ErrForm)
}

// The places of imports of each kind, and what stands there.
const (
	aGlobal, aFunc, aTable, aTag, aMemory = 0, 1, 2, 4, 5
	wideTable, wideMemory                 = 8, 9
)

func TestVM4ImportKinds(t *testing.T) {
	for _, kind := range []int{-1, 5, 6, 256, math.MaxInt, math.MinInt} {
		changed(t, func(m *api.Module) { m.Imports = append(m.Imports, api.Import{Extern: api.Extern{Kind: kind}}) }, at(section.Import, 13), api.ErrForm)
		// What is there of other kinds counts for nothing.
		changed(t, func(m *api.Module) { m.Imports[aMemory].Extern = api.Extern{Kind: kind, Global: still("i32")} }, at(section.Import, aMemory), api.ErrForm)
	}
	stays(t, func(m *api.Module) {
		for n := range m.Imports {
			x := api.Extern{Kind: m.Imports[n].Extern.Kind, Type: -7, Table: tableOf("i8", limits(false, 9, 3)), Memory: limits(false, 1<<20), Global: still("i16")}
			switch o := m.Imports[n].Extern; x.Kind {
			case api.KFunc, api.KTag:
				x.Type = o.Type
			case api.KTable:
				x.Table = o.Table
			case api.KMemory:
				x.Memory = o.Memory
			case api.KGlobal:
				x.Global = o.Global
			}
			m.Imports[n].Extern = x
		}
	})
}

// Functions' types, and tags', imported and not.
func TestVM4FunctionTypes(t *testing.T) {
	for n, e := range map[int]api.Errno{aStruct: api.ErrKind, below: api.ErrKind, anArray: api.ErrKind, self: api.ErrKind} {
		wrongType(t, n, e)
	}
	for _, n := range noTypes(noType) {
		wrongType(t, n, api.ErrIndex)
	}
	for _, n := range []int{toI32, ofBoth} {
		changed(t, func(m *api.Module) { m.Imports[aTag].Extern.Type = n }, at(section.Import, aTag), api.ErrTag)
		changed(t, func(m *api.Module) { m.Tags[1] = n }, at(section.Tag, 1), api.ErrTag)
	}
	for _, n := range []int{nothing, ofI32, selfFn} {
		stays(t, func(m *api.Module) { m.Imports[aTag].Extern.Type, m.Tags[0], m.Imports[aFunc].Extern.Type = n, n, n })
	}
}

func wrongType(t *testing.T, n int, e api.Errno) {
	t.Helper()
	changed(t, func(m *api.Module) { m.Imports[aFunc].Extern.Type = n }, at(section.Import, aFunc), e)
	changed(t, func(m *api.Module) { m.Imports[aTag].Extern.Type = n }, at(section.Import, aTag), e)
	changed(t, func(m *api.Module) { m.Tags[0] = n }, at(section.Tag, 0), e)
	changed(t, func(m *api.Module) { m.Funcs[0].Type = n }, at(section.Function, 0), e)
	changed(t, func(m *api.Module) { m.Funcs = append(m.Funcs, api.Func{Type: n, Body: list(drop)}) }, at(section.Function, 6), e)
}

// tablesAre says what is answered of a table's type, imported and not; nothing that there is has such a type.
func tablesAre(t *testing.T, v api.TableType, e api.Errno) {
	t.Helper()
	imported, own := at(section.Import, 13), at(section.Table, 4)
	if e == api.OK {
		imported, own = api.Fault{}, api.Fault{}
	}
	// Behind the others, but a table more that is imported would stand ahead of the module's own.
	m := whole()
	m = api.Module{Types: m.Types, Imports: append(m.Imports, api.Import{Extern: api.Extern{Kind: api.KTable, Table: v}})}
	isModule(t, m, imported, e)
	changed(t, func(m *api.Module) {
		init := list(null("none"))
		if v.Elem.Heap == api.HFunc {
			init = list(fn(0))
		}
		m.Tables = append(m.Tables, api.Table{Type: v, HasInit: true, Init: init})
	}, own, e)
}

func TestVM4TableTypes(t *testing.T) {
	top := uint64(1<<32 - 1)
	for _, l := range []api.Limits{limits(false, 0), limits(false, top), limits(false, 0, 0), limits(false, 0, top), limits(false, top, top), {Min: 7, Max: 3}, {Min: 7, Max: 1 << 40}} {
		tablesAre(t, api.TableType{Elem: val("(ref null 4)"), Limits: l}, api.OK)
		tablesAre(t, api.TableType{Elem: val("(ref func)"), Limits: l}, api.OK)
		l.Wide = true
		tablesAre(t, api.TableType{Elem: val("(ref null any)"), Limits: l}, api.OK)
	}
	for _, l := range []api.Limits{limits(false, 1, 0), limits(false, top, top-1), limits(false, math.MaxUint64, 0)} {
		tablesAre(t, api.TableType{Elem: val("(ref null 4)"), Limits: l}, api.ErrLimits)
		l.Wide = true
		tablesAre(t, api.TableType{Elem: val("(ref null 4)"), Limits: l}, api.ErrLimits)
	}
	for _, l := range []api.Limits{limits(false, top+1), limits(false, 0, top+1), limits(false, top+1, top+1), limits(false, 1, math.MaxUint64), limits(false, math.MaxUint64)} {
		tablesAre(t, api.TableType{Elem: val("(ref null 4)"), Limits: l}, api.ErrLimits)
		l.Wide = true
		tablesAre(t, api.TableType{Elem: val("(ref null 4)"), Limits: l}, api.OK)
	}
	bad := limits(false, 1, 0)
	for _, v := range append(noKinds(), vals("i32, i64, f32, f64")...) {
		tablesAre(t, api.TableType{Elem: v, Limits: limits(false, 1)}, api.ErrForm)
		tablesAre(t, api.TableType{Elem: v, Limits: bad}, api.ErrForm)
	}
	for _, v := range noHeaps(noType) {
		tablesAre(t, api.TableType{Elem: v, Limits: limits(true, 1)}, api.ErrIndex)
		tablesAre(t, api.TableType{Elem: v, Limits: bad}, api.ErrLimits)
	}
}

// A table with Init has a constant expression of its elements' type that names imported globals only; another one elements with a first value.
func TestVM4Tables(t *testing.T) {
	one := func(elem string, init ...api.Instr) func(m *api.Module) {
		return func(m *api.Module) {
			m.Tables[0] = api.Table{Type: tableOf(elem, limits(false, 1)), HasInit: true, Init: init}
			m.Elems[1].Mode = api.Passive
		}
	}
	for _, c := range []struct {
		elem string
		l    []api.Instr
		at   int
		e    api.Errno
	}{
		{"(ref func)", list(fn(0)), 0, api.OK}, {"(ref func)", list(get(2)), 0, api.OK}, {"(ref null func)", list(get(2)), 0, api.OK}, {"(ref 0)", list(fn(3)), 0, api.OK},
		{"(ref null 4)", list(null("4")), 0, api.OK}, {"(ref 4)", list(x(opcode.StructNewDefault, aStruct)), 0, api.OK}, {"(ref any)", list(i32(1), plain(opcode.RefI31)), 0, api.OK},
		{"(ref 4)", list(null("4")), 1, api.ErrType}, {"(ref func)", nil, 0, api.ErrUnder}, {"(ref func)", list(fn(0), fn(0)), 2, api.ErrLeft},
		{"(ref 0)", list(fn(0)), 1, api.ErrType}, {"(ref func)", list(get(1)), 0, api.ErrMutable}, {"(ref func)", list(get(4)), 0, api.ErrIndex}, {"(ref func)", list(get(6)), 0, api.ErrIndex},
		{"(ref any)", list(get(9)), 0, api.ErrIndex}, {"(ref any)", list(i32(1), get(99)), 1, api.ErrIndex}, {"(ref func)", list(nop, fn(0)), 0, api.ErrConst}, {"(ref 0)", list(fn(99)), 0, api.ErrIndex},
	} {
		want := in(section.Table, 0, c.at)
		if c.e == api.OK {
			want = api.Fault{}
		}
		changed(t, one(c.elem, c.l...), want, c.e)
	}
	for _, elem := range []string{"(ref func)", "(ref 0)", "(ref none)", "(ref extern)"} {
		for _, l := range []api.Limits{limits(false, 0), limits(true, 0, 0), limits(false, 1)} {
			changed(t, func(m *api.Module) {
				m.Tables = append(m.Tables, api.Table{Type: tableOf(elem, l)})
			}, at(section.Table, 4), api.ErrInit)
			stays(t, func(m *api.Module) {
				m.Tables = append(m.Tables, api.Table{Type: tableOf("(ref null "+elem[5:], l)})
			})
		}
	}
	// An Init without HasInit is none.
	stays(t, func(m *api.Module) {
		m.Tables = append(m.Tables, api.Table{Type: tableOf("(ref null func)", limits(false, 1)), Init: list(drop)})
	})
	changed(t, func(m *api.Module) {
		m.Tables = append(m.Tables, api.Table{Type: tableOf("(ref func)", limits(false, 1)), Init: list(fn(0))})
	}, at(section.Table, 4), api.ErrInit)
	// An imported one has no first value of its own, and is not asked for one.
	stays(t, func(m *api.Module) { m.Imports[wideTable].Extern.Table.Elem = val("(ref extern)") })
}

func TestVM4Memories(t *testing.T) {
	for wide, top := range map[bool]uint64{false: 1 << 16, true: 1 << 48} {
		for _, l := range []api.Limits{limits(wide, 0), limits(wide, top), limits(wide, 0, 0), limits(wide, 0, top), limits(wide, top, top), limits(wide, 3, 4), {Wide: wide, Min: 7, Max: 3}, {Wide: wide, Max: 1 << 60}} {
			stays(t, func(m *api.Module) { m.Memories = append(m.Memories, l) })
			stays(t, func(m *api.Module) {
				m.Imports[aMemory].Extern.Memory, m.Datas[1].Mode = l, api.Passive
			})
		}
		for _, l := range []api.Limits{limits(wide, top+1), limits(wide, 0, top+1), limits(wide, top, top+1), limits(wide, top+1, top+1), limits(wide, top, top-1), limits(wide, 1, 0), limits(wide, math.MaxUint64), limits(wide, 0, math.MaxUint64), limits(wide, math.MaxUint64, 0)} {
			changed(t, func(m *api.Module) { m.Memories = append(m.Memories, l) }, at(section.Memory, 2), api.ErrLimits)
			changed(t, func(m *api.Module) { m.Memories[0] = l }, at(section.Memory, 0), api.ErrLimits)
			changed(t, func(m *api.Module) { m.Imports[wideMemory].Extern.Memory = l }, at(section.Import, wideMemory), api.ErrLimits)
		}
	}
}

func TestVM4Globals(t *testing.T) {
	for _, v := range noKinds() {
		changed(t, func(m *api.Module) { m.Imports[aGlobal].Extern.Global.Type = v }, at(section.Import, aGlobal), api.ErrForm)
		changed(t, func(m *api.Module) { m.Globals = append(m.Globals, api.Global{Type: api.GlobalType{Type: v}}) }, at(section.Global, 6), api.ErrForm)
	}
	for _, v := range noHeaps(noType) {
		changed(t, func(m *api.Module) { m.Imports[aGlobal].Extern.Global.Type = v }, at(section.Import, aGlobal), api.ErrIndex)
		changed(t, func(m *api.Module) { m.Globals = append(m.Globals, api.Global{Type: api.GlobalType{Type: v}}) }, at(section.Global, 6), api.ErrIndex)
	}
	one := func(kind string, init ...api.Instr) func(m *api.Module) {
		return func(m *api.Module) {
			m.Globals = append(m.Globals, api.Global{Type: still(kind), Init: init}, api.Global{Type: still("i32"), Init: list(i32(1))})
		}
	}
	for _, c := range []struct {
		kind string
		l    []api.Instr
		at   int
		e    api.Errno
	}{
		{"i32", list(get(0)), 0, api.OK}, {"i32", list(get(4)), 0, api.OK}, {"i64", list(get(5), get(3), plain(opcode.I64Mul)), 0, api.OK}, {"(ref 6)", list(get(9)), 0, api.OK},
		{"i32", list(get(10)), 0, api.ErrIndex}, {"i32", list(get(11)), 0, api.ErrIndex}, {"i32", list(i32(1), get(12)), 1, api.ErrIndex}, {"(ref func)", list(get(6)), 0, api.ErrMutable}, {"i64", list(get(1)), 0, api.ErrMutable},
		{"f32", nil, 0, api.ErrUnder}, {"f32", list(i32(1)), 1, api.ErrType}, {"i32", list(i32(1), i32(2)), 2, api.ErrLeft}, {"i32", list(i32(1), i32(2), plain(opcode.I32DivS)), 2, api.ErrConst},
		{"i32", list(i32(1), block(opcode.Block, "", nop)), 1, api.ErrConst}, {"i32", list(i32(1), get(3), add), 2, api.ErrType}, {"i32", list(add), 0, api.ErrUnder}, {"i8", nil, -1, api.ErrForm},
	} {
		if c.kind == "i8" {
			changed(t, one(c.kind, c.l...), at(section.Global, 6), c.e)
			continue
		}
		want := in(section.Global, 6, c.at)
		if c.e == api.OK {
			want = api.Fault{}
		}
		changed(t, one(c.kind, c.l...), want, c.e)
	}
	// Those ahead are the module's own and the imported ones.
	for n := range 6 {
		changed(t, func(m *api.Module) { m.Globals[n].Init = list(get(uint32(4 + n))) }, in(section.Global, n, 0), api.ErrIndex)
	}
	changed(t, func(m *api.Module) { m.Globals[0].Init = list(get(5)) }, in(section.Global, 0, 0), api.ErrIndex)
}

func TestVM4Exports(t *testing.T) {
	for kind, count := range map[int]int{api.KFunc: funcs, api.KTable: tables, api.KMemory: memories, api.KGlobal: globals, api.KTag: tags, 5: 0, -1: 0, math.MaxInt: 0} {
		for n := range count {
			stays(t, func(m *api.Module) {
				m.Exports = append(m.Exports, api.Export{Name: "new", Kind: kind, At: uint32(n)})
			})
		}
		for _, n := range indices(count) {
			changed(t, func(m *api.Module) {
				m.Exports = append(m.Exports, api.Export{Name: "new", Kind: kind, At: n}, api.Export{Name: "new"})
			}, at(section.Export, 7), api.ErrIndex)
			// That it is there is asked ahead of its name.
			changed(t, func(m *api.Module) {
				m.Exports = append(m.Exports, api.Export{Name: "f", Kind: kind, At: n})
			}, at(section.Export, 7), api.ErrIndex)
		}
		if count > 0 {
			for _, name := range []string{"", "f", "e"} {
				changed(t, func(m *api.Module) {
					m.Exports = append(m.Exports, api.Export{Name: "new"}, api.Export{Name: name, Kind: kind}, api.Export{Name: "new"})
				}, at(section.Export, 8), api.ErrDouble)
			}
		}
	}
	stays(t, func(m *api.Module) {
		m.Exports = append(m.Exports, api.Export{Name: "F"}, api.Export{Name: "f "}, api.Export{Name: "\xff"}, api.Export{Name: "f\x00"})
	})
	stays(t, func(m *api.Module) { m.Exports = nil; m.Elems[3].Init = append(m.Elems[3].Init, list(fn(8))) })
}

func TestVM4Start(t *testing.T) {
	for n, e := range []api.Errno{api.ErrStart, api.ErrStart, api.ErrStart, api.OK, api.ErrStart, api.OK, api.OK, api.ErrStart, api.ErrStart} {
		want := at(section.Start, 0)
		if e == api.OK {
			want = api.Fault{}
		}
		changed(t, func(m *api.Module) { m.Start = uint32(n) }, want, e)
		stays(t, func(m *api.Module) { m.HasStart, m.Start = false, uint32(n) })
	}
	for _, n := range indices(funcs) {
		changed(t, func(m *api.Module) { m.Start = n }, at(section.Start, 0), api.ErrIndex)
		stays(t, func(m *api.Module) { m.HasStart, m.Start = false, n })
	}
	isModule(t, api.Module{HasStart: true}, at(section.Start, 0), api.ErrIndex)
	stays(t, func(m *api.Module) { m.Imports[aFunc].Extern.Type, m.Start = nothing, 0 })
}

func TestVM4Bodies(t *testing.T) {
	changed(t, func(m *api.Module) { m.Funcs[0].Body = list(nop, drop) }, in(section.Code, 0, 1), api.ErrUnder)
	changed(t, func(m *api.Module) { m.Funcs[1].Body = nil }, in(section.Code, 1, 0), api.ErrUnder)
	changed(t, func(m *api.Module) { m.Funcs[2].Body[1].Else[0] = nop }, in(section.Code, 2, 4), api.ErrUnder)
	changed(t, func(m *api.Module) { m.Funcs[2].Body[1].Else[0].X = 4 }, in(section.Code, 2, 3), api.ErrRef)
	changed(t, func(m *api.Module) { m.Funcs[5].Locals = []api.Local{run(1, "i16")} }, in(section.Code, 5, 0), api.ErrForm)
	changed(t, func(m *api.Module) { m.Funcs[5].Locals = []api.Local{run(1, "(ref 9)")} }, in(section.Code, 5, 0), api.ErrIndex)
	changed(t, func(m *api.Module) { m.Funcs = append(m.Funcs, api.Func{Type: toI32}) }, in(section.Code, 6, 0), api.ErrUnder)
	// A function that a body names must be declared elsewhere; an export is enough.
	for _, n := range []uint32{4, 6, 7} {
		f := api.Func{Body: list(fn(n), drop)}
		changed(t, func(m *api.Module) { m.Funcs = append(m.Funcs, f) }, in(section.Code, 6, 0), api.ErrRef)
		stays(t, func(m *api.Module) {
			m.Funcs, m.Exports = append(m.Funcs, f), append(m.Exports, api.Export{Name: "new", At: n})
		})
		stays(t, func(m *api.Module) { m.Funcs, m.Elems[3].Init[0] = append(m.Funcs, f), list(fn(n)) })
		stays(t, func(m *api.Module) {
			m.Funcs, m.Globals = append(m.Funcs, f), append(m.Globals, api.Global{Type: still("(ref func)"), Init: list(fn(n))})
		})
		stays(t, func(m *api.Module) {
			m.Funcs, m.Tables[1].Init = append(m.Funcs, f), list(fn(n))
			m.Elems[3].Init = append(m.Elems[3].Init, list(fn(3)))
		})
	}
	changed(t, func(m *api.Module) { m.Exports[0].At = 3 }, api.Fault{}, api.OK)
}
