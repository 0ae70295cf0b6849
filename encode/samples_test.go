package encode_test

import (
	"math"
	"strings"

	"ratchet/api"
	"ratchet/section"
)

// piece is what an element brings into a section: its shortest bytes, others that are read as the same, or the error with which it is refused.
type piece struct {
	id           int
	tight, loose string
	e            api.Errno
}

// sample is an element of one of a module's lists.
type sample struct {
	lay    func(m *api.Module)
	pieces []piece
}

// of is an element that stands in one section.
func of[T any](id int, list func(m *api.Module) *[]T, x T, tight, loose string) sample {
	return sample{func(m *api.Module) { *list(m) = append(*list(m), x) }, []piece{{id, tight, loose, api.OK}}}
}

// not is one that is refused.
func not[T any](id int, list func(m *api.Module) *[]T, x T, e api.Errno) sample {
	return sample{func(m *api.Module) { *list(m) = append(*list(m), x) }, []piece{{id, "", "", e}}}
}

func typesOf(m *api.Module) *[]api.RecType   { return &m.Types }
func importsOf(m *api.Module) *[]api.Import  { return &m.Imports }
func tablesOf(m *api.Module) *[]api.Table    { return &m.Tables }
func memoriesOf(m *api.Module) *[]api.Limits { return &m.Memories }
func tagsOf(m *api.Module) *[]int            { return &m.Tags }
func globalsOf(m *api.Module) *[]api.Global  { return &m.Globals }
func exportsOf(m *api.Module) *[]api.Export  { return &m.Exports }
func elemsOf(m *api.Module) *[]api.Elem      { return &m.Elems }
func datasOf(m *api.Module) *[]api.Data      { return &m.Datas }

// body is a function, which stands in two sections.
func body(f api.Func, number, tight, loose string) sample {
	return sample{func(m *api.Module) { m.Funcs = append(m.Funcs, f) }, []piece{
		{section.Function, number, number, api.OK}, {section.Code, tight, loose, api.OK},
	}}
}

// notBody is a function that is refused in one of its sections.
func notBody(f api.Func, id int, e api.Errno) sample {
	s := body(f, "00", "02 00 0b", "02 00 0b")
	for n := range s.pieces {
		if s.pieces[n].id == id {
			s.pieces[n].e = e
		}
	}
	return s
}

// samples are elements that are written, by the section in which they stand first.
func samples() map[int][]sample {
	array := api.SubType{Final: true, Supers: list(3), Comp: api.CompType{Kind: api.CArray, Fields: []api.Field{{Type: num(api.T8), Mut: true}}}}
	open := api.SubType{Comp: api.CompType{Kind: api.CStruct}}
	params := api.SubType{Final: true, Comp: api.CompType{Kind: api.CFunc, Params: list(num(api.TI32)), Results: list(num(api.TI64), refNull(api.HAny))}}
	return map[int][]sample{
		section.Type: {
			of(section.Type, typesOf, group(nothing()), "60 00 00", "4e 81 00 60 80 00 00"),
			of(section.Type, typesOf, group(), "4e 00", "4e 80 80 00"),
			of(section.Type, typesOf, group(open, array), "4e 02 50 00 5f 00 4f 01 03 5e 78 01", "4e 02 50 00 5f 80 00 4f 01 83 00 5e 78 01"),
			of(section.Type, typesOf, group(params), "60 01 7f 02 7e 6e", "4f 00 60 01 7f 02 7e 63 6e"),
		},
		section.Import: {
			of(section.Import, importsOf, api.Import{}, "00 00 00 00", "80 00 80 00 00 80 00"),
			of(section.Import, importsOf, api.Import{Module: "a", Name: "€", Extern: api.Extern{Type: math.MaxInt32}}, "01 61 03 e2 82 ac 00 ff ff ff ff 07", "81 00 61 03 e2 82 ac 00 ff ff ff ff 07"),
			of(section.Import, importsOf, api.Import{Extern: api.Extern{Kind: api.KTable, Table: api.TableType{Elem: refNull(api.HFunc), Limits: api.Limits{Min: 1}}}}, "00 00 01 70 00 01", "00 00 01 63 70 00 81 00"),
			of(section.Import, importsOf, api.Import{Extern: api.Extern{Kind: api.KMemory, Memory: api.Limits{Max: 2, HasMax: true}}}, "00 00 02 01 00 02", "00 00 02 01 00 82 00"),
			of(section.Import, importsOf, api.Import{Name: "g", Extern: api.Extern{Kind: api.KGlobal, Global: api.GlobalType{Type: num(api.TF64), Mut: true}}}, "00 01 67 03 7c 01", "00 81 00 67 03 7c 01"),
			of(section.Import, importsOf, api.Import{Extern: api.Extern{Kind: api.KTag, Type: 128}}, "00 00 04 00 80 01", "00 00 04 00 80 81 00"),
		},
		section.Function: {
			body(api.Func{}, "00", "02 00 0b", "83 00 80 00 0b"),
			body(api.Func{Type: 128, Body: seven()}, "80 01", "04 00 41 07 0b", "05 00 41 87 00 0b"),
			body(api.Func{Type: math.MaxInt32, Locals: []api.Local{{Count: 2, Type: num(api.TI32)}, {Type: ref(11)}}, Body: list(block(nop()), constant(0))},
				"ff ff ff ff 07", "0d 02 02 7f 00 64 0b 02 40 01 0b 41 00 0b", "8e 80 00 02 82 00 7f 00 64 0b 02 40 01 0b 41 00 0b"),
		},
		section.Table: {
			of(section.Table, tablesOf, api.Table{Type: api.TableType{Elem: refNull(api.HFunc), Limits: api.Limits{Min: 1}}}, "70 00 01", "63 70 00 81 00"),
			of(section.Table, tablesOf, api.Table{Type: api.TableType{Elem: ref(0), Limits: api.Limits{Wide: true, Min: 1, Max: 2, HasMax: true}}, HasInit: true, Init: list(function(11))},
				"40 00 64 00 05 01 02 d2 0b 0b", "40 00 64 80 00 05 01 02 d2 8b 00 0b"),
			of(section.Table, tablesOf, api.Table{Type: api.TableType{Elem: refNull(api.HAny)}, HasInit: true}, "40 00 6e 00 00 0b", "40 00 63 6e 00 00 0b"),
		},
		section.Memory: {
			of(section.Memory, memoriesOf, api.Limits{}, "00 00", "00 80 00"),
			of(section.Memory, memoriesOf, api.Limits{Wide: true, Min: math.MaxUint64}, "04 ff ff ff ff ff ff ff ff ff 01", "04 ff ff ff ff ff ff ff ff ff 01"),
			of(section.Memory, memoriesOf, api.Limits{Min: 3, Max: 11, HasMax: true}, "01 03 0b", "01 83 80 80 80 00 0b"),
		},
		section.Tag: {
			of(section.Tag, tagsOf, 0, "00 00", "00 80 00"),
			of(section.Tag, tagsOf, math.MaxInt32, "00 ff ff ff ff 07", "00 ff ff ff ff 07"),
		},
		section.Global: {
			of(section.Global, globalsOf, api.Global{Type: api.GlobalType{Type: num(api.TI32)}, Init: seven()}, "7f 00 41 07 0b", "7f 00 41 87 80 00 0b"),
			of(section.Global, globalsOf, api.Global{Type: api.GlobalType{Type: refNull(11), Mut: true}}, "63 0b 01 0b", "63 8b 00 01 0b"),
		},
		section.Export: {
			of(section.Export, exportsOf, api.Export{}, "00 00 00", "80 00 00 80 00"),
			of(section.Export, exportsOf, api.Export{Name: "é", Kind: api.KTag, At: math.MaxUint32}, "02 c3 a9 04 ff ff ff ff 0f", "82 80 00 c3 a9 04 ff ff ff ff 0f"),
		},
		section.Element: {
			of(section.Element, elemsOf, api.Elem{Mode: api.Active, Offset: seven(), Type: ref(api.HFunc), Init: funcs(3)}, "00 41 07 0b 01 03", "86 00 80 00 41 07 0b 64 70 01 d2 03 0b"),
			of(section.Element, elemsOf, api.Elem{Type: ref(api.HFunc), Init: funcs(0, 200)}, "01 00 02 00 c8 01", "05 64 70 02 d2 00 0b d2 c8 01 0b"),
			of(section.Element, elemsOf, api.Elem{Mode: api.Active, Table: 2, Type: ref(api.HFunc)}, "02 02 0b 00 00", "06 02 0b 64 70 00"),
			of(section.Element, elemsOf, api.Elem{Mode: api.Declared, Type: ref(api.HFunc), Init: funcs(7)}, "03 00 01 07", "07 64 70 01 d2 07 0b"),
			of(section.Element, elemsOf, api.Elem{Mode: api.Active, Type: refNull(api.HFunc), Init: funcs(7)}, "04 0b 01 d2 07 0b", "06 00 0b 70 01 d2 07 0b"),
			of(section.Element, elemsOf, api.Elem{Type: refNull(api.HFunc), Init: [][]api.Instr{nil}}, "05 70 01 0b", "85 00 63 70 81 00 0b"),
			of(section.Element, elemsOf, api.Elem{Mode: api.Active, Offset: seven(), Type: ref(api.HFunc), Init: [][]api.Instr{{function(3), nop()}}}, "06 00 41 07 0b 64 70 01 d2 03 01 0b", "06 80 00 41 07 0b 64 70 01 d2 03 01 0b"),
			of(section.Element, elemsOf, api.Elem{Mode: api.Declared, Type: ref(0)}, "07 64 00 00", "87 00 64 00 80 00"),
		},
		section.Data: {
			of(section.Data, datasOf, api.Data{Mode: api.Active, Offset: seven(), Init: []byte{1, 2}}, "00 41 07 0b 02 01 02", "02 00 41 07 0b 02 01 02"),
			of(section.Data, datasOf, api.Data{Init: []byte{11}}, "01 01 0b", "81 80 00 81 00 0b"),
			of(section.Data, datasOf, api.Data{Mode: api.Active, Memory: 1}, "02 01 0b 00", "82 00 81 00 0b 80 00"),
		},
	}
}

// wrongs are elements that are refused, by the section in which they are: with each error that may be, and with two of which the left one counts.
func wrongs() map[int][]sample {
	long := strings.Repeat("a", api.MaxNames+1)
	packed := api.GlobalType{Type: num(api.T8)}
	plain := api.TableType{Elem: refNull(api.HFunc)}
	return map[int][]sample{
		section.Type: {
			not(section.Type, typesOf, group(unkind()), api.ErrForm),
			not(section.Type, typesOf, group(nothing(), unkind()), api.ErrForm),
			not(section.Type, typesOf, group(api.SubType{Supers: many(1, api.MaxParams+1)}), api.ErrLong),
		},
		section.Import: {
			not(section.Import, importsOf, api.Import{Extern: api.Extern{Kind: 5}}, api.ErrForm),
			not(section.Import, importsOf, api.Import{Extern: api.Extern{Type: -1}}, api.ErrForm),
			not(section.Import, importsOf, api.Import{Module: "\xff", Name: long}, api.ErrName),
			not(section.Import, importsOf, api.Import{Module: long, Name: "\xff", Extern: api.Extern{Kind: 5}}, api.ErrLong),
			not(section.Import, importsOf, api.Import{Extern: api.Extern{Memory: api.Limits{Min: 1}}}, api.ErrForm),
		},
		section.Function: {
			notBody(api.Func{Type: -1}, section.Function, api.ErrForm),
			notBody(api.Func{Type: math.MinInt}, section.Function, api.ErrForm),
			notBody(api.Func{Type: math.MaxInt32 + 1}, section.Function, api.ErrForm),
			notBody(api.Func{Type: math.MaxUint32 + 1}, section.Function, api.ErrForm),
			notBody(api.Func{Type: math.MaxInt}, section.Function, api.ErrForm),
		},
		section.Table: {
			not(section.Table, tablesOf, api.Table{Type: api.TableType{Elem: num(api.TI32)}}, api.ErrForm),
			not(section.Table, tablesOf, api.Table{Type: plain, Init: seven()}, api.ErrForm),
			not(section.Table, tablesOf, api.Table{Type: plain, Init: noOp()}, api.ErrForm),
			not(section.Table, tablesOf, api.Table{Type: plain, HasInit: true, Init: noOp()}, api.ErrArg),
			not(section.Table, tablesOf, api.Table{Type: plain, HasInit: true, Init: tooDeep()}, api.ErrLong),
			not(section.Table, tablesOf, api.Table{HasInit: true, Init: noOp()}, api.ErrForm),
		},
		section.Memory: {
			not(section.Memory, memoriesOf, api.Limits{Max: 1}, api.ErrForm),
			not(section.Memory, memoriesOf, api.Limits{Min: 1 << 32}, api.ErrForm),
		},
		section.Tag: {
			not(section.Tag, tagsOf, -1, api.ErrForm),
			not(section.Tag, tagsOf, math.MaxInt32+1, api.ErrForm),
		},
		section.Global: {
			not(section.Global, globalsOf, api.Global{Type: packed, Init: noOp()}, api.ErrForm),
			not(section.Global, globalsOf, api.Global{Type: packed, Init: tooDeep()}, api.ErrForm),
			not(section.Global, globalsOf, api.Global{Type: api.GlobalType{Type: num(api.TI32)}, Init: noOp()}, api.ErrArg),
			not(section.Global, globalsOf, api.Global{Type: api.GlobalType{Type: num(api.TI32)}, Init: tooDeep()}, api.ErrLong),
			not(section.Global, globalsOf, api.Global{Type: api.GlobalType{Type: num(api.TI32)}, Init: noForm()}, api.ErrForm),
		},
		section.Export: {
			not(section.Export, exportsOf, api.Export{Kind: -1}, api.ErrForm),
			not(section.Export, exportsOf, api.Export{Name: "\xc0\x80", Kind: 5}, api.ErrName),
			not(section.Export, exportsOf, api.Export{Name: long, Kind: 5}, api.ErrLong),
		},
		section.Element: {
			not(section.Element, elemsOf, api.Elem{Type: ref(api.HFunc), Mode: 3}, api.ErrForm),
			not(section.Element, elemsOf, api.Elem{Type: ref(api.HFunc), Table: 1, Init: [][]api.Instr{noOp()}}, api.ErrForm),
			not(section.Element, elemsOf, api.Elem{Type: ref(api.HFunc), Mode: api.Active, Offset: noOp(), Init: [][]api.Instr{noForm()}}, api.ErrArg),
			not(section.Element, elemsOf, api.Elem{Type: ref(api.HFunc), Init: many(noOp(), api.MaxFuncs+1)}, api.ErrLong),
			not(section.Element, elemsOf, api.Elem{Type: num(api.TI32), Init: many(noOp(), api.MaxFuncs+1)}, api.ErrForm),
		},
		section.Code: {
			notBody(api.Func{Locals: list(api.Local{}), Body: noOp()}, section.Code, api.ErrForm),
			notBody(api.Func{Locals: list(api.Local{Count: api.MaxLocals + 1}), Body: noOp()}, section.Code, api.ErrLong),
			notBody(api.Func{Body: noOp()}, section.Code, api.ErrArg),
			notBody(api.Func{Body: noForm()}, section.Code, api.ErrForm),
			notBody(api.Func{Body: tooDeep()}, section.Code, api.ErrLong),
		},
		section.Data: {
			not(section.Data, datasOf, api.Data{Mode: api.Declared}, api.ErrForm),
			not(section.Data, datasOf, api.Data{Mode: -1, Offset: noOp()}, api.ErrForm),
			not(section.Data, datasOf, api.Data{Memory: 1}, api.ErrForm),
			not(section.Data, datasOf, api.Data{Mode: api.Active, Offset: noOp()}, api.ErrArg),
			not(section.Data, datasOf, api.Data{Mode: api.Active, Offset: tooDeep()}, api.ErrLong),
		},
	}
}
