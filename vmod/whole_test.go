package vmod_test

import (
	"ratchet/api"
	"ratchet/opcode"
)

// The types of the whole module.
const (
	nothing = iota // (func)
	toI32          // (func (result i32))
	ofI32          // (func (param i32))
	ofBoth         // (func (param i32 i64) (result f32))
	aStruct        // (sub (struct ..))
	below          // (sub 4 (struct ..))
	anArray        // (array (mut i16))
	self           // a group of two: (struct (field (ref null 8)))
	selfFn         // (func (param (ref null 7)))
	noType         // there is none
)

// What the whole module has of each kind, imported ones counted too.
const (
	funcs    = 9
	tables   = 6
	memories = 4
	globals  = 10
	tags     = 4
)

func groups() []api.RecType {
	return read(
		"(func)", "(func (result i32))", "(func (param i32))", "(func (param i32 i64) (result f32))",
		"(sub (struct (field i8) (field (mut i32))))", "(sub 4 (struct (field i8) (field (mut i32)) (field f64)))",
		"(array (mut i16))", "(rec (struct (field (ref null 8))) (func (param (ref null 7))))",
	)
}

func limits(wide bool, l ...uint64) api.Limits {
	out := api.Limits{Wide: wide, Min: l[0]}
	if len(l) > 1 {
		out.Max, out.HasMax = l[1], true
	}
	return out
}

func tableOf(text string, l api.Limits) api.TableType {
	return api.TableType{Elem: val(text), Limits: l}
}

func still(text string) api.GlobalType { return api.GlobalType{Type: val(text)} }
func mut(text string) api.GlobalType   { return api.GlobalType{Type: val(text), Mut: true} }

// imports stand ahead of all that the module has itself.
func imports() []api.Import {
	l := []api.Extern{
		{Kind: api.KGlobal, Global: still("i32")},
		{Kind: api.KFunc, Type: ofI32},
		{Kind: api.KTable, Table: tableOf("(ref func)", limits(false, 1, 2))},
		{Kind: api.KGlobal, Global: mut("i64")},
		{Kind: api.KTag, Type: ofI32},
		{Kind: api.KMemory, Memory: limits(false, 1, 2)},
		{Kind: api.KFunc, Type: toI32},
		{Kind: api.KGlobal, Global: still("(ref func)")},
		{Kind: api.KTable, Table: tableOf("(ref null extern)", limits(true, 7))},
		{Kind: api.KMemory, Memory: limits(true, 3)},
		{Kind: api.KFunc, Type: selfFn},
		{Kind: api.KTag, Type: nothing},
		{Kind: api.KGlobal, Global: still("i64")},
	}
	var out []api.Import
	for n, e := range l {
		out = append(out, api.Import{Module: "m", Name: string(rune('a' + n)), Extern: e})
	}
	return out
}

// whole is a module that has something of all, and may be.
func whole() api.Module {
	return api.Module{
		Types:    groups(),
		Imports:  imports(),
		Funcs:    wholeFuncs(),
		Tables:   wholeTables(),
		Memories: []api.Limits{limits(false, 0, 1<<16), limits(true, 1<<48, 1<<48)},
		Tags:     []int{ofI32, selfFn},
		Globals:  wholeGlobals(),
		Exports: []api.Export{
			{Name: "", Kind: api.KFunc, At: 8}, {Name: "f", Kind: api.KFunc, At: 1}, {Name: "again", Kind: api.KFunc, At: 1}, {Name: "t", Kind: api.KTable, At: tables - 1},
			{Name: "m", Kind: api.KMemory, At: memories - 1}, {Name: "g", Kind: api.KGlobal, At: globals - 1}, {Name: "e", Kind: api.KTag, At: tags - 1},
		},
		HasStart: true,
		Start:    3,
		Elems:    wholeElems(),
		HasCount: true,
		Datas: []api.Data{
			{Init: []byte{1, 2}},
			{Mode: api.Active, Memory: 0, Offset: list(i32(1), get(0), add)},
			{Mode: api.Active, Memory: 3, Offset: list(get(5))},
			{Mode: api.Active, Memory: 1, Offset: list(get(3))},
		},
		Customs: []api.Custom{{Name: "name", Bytes: []byte{7}}},
	}
}

// These are the functions from 3 on. No ref.func outside of bodies names 4, 6 and 7, and they are not exported.
func wholeFuncs() []api.Func {
	return []api.Func{
		{Type: nothing, Body: list(nop, block(opcode.Block, "", i32(1), drop), nop)},
		{Type: toI32, Locals: []api.Local{{Count: 2, Type: val("i64")}, {Count: 0, Type: val("f32")}, {Count: 1, Type: val("(ref 4)")}}, Body: list(i32(7))},
		{Type: nothing, Body: list(i32(0), choice("i32", list(i32(1)), list(fn(3), drop, i32(2))), drop)},
		{Type: nothing},
		{Type: ofI32, Body: list(i32(1), block(opcode.If, "", nop), x(opcode.Call, 6))},
		{Type: ofBoth, Body: list(unreachable)},
	}
}

func wholeTables() []api.Table {
	return []api.Table{
		{Type: tableOf("(ref null func)", limits(false, 1<<32-1, 1<<32-1))},
		{Type: tableOf("(ref func)", limits(true, 0)), HasInit: true, Init: list(fn(3))},
		{Type: tableOf("(ref null 4)", limits(true, 1<<63, 1<<64-1)), HasInit: true, Init: list(null("none"))},
		{Type: tableOf("(ref func)", limits(false, 5, 5)), HasInit: true, Init: list(get(2))},
	}
}

func wholeGlobals() []api.Global {
	return []api.Global{
		{Type: still("i32"), Init: list(i32(1), get(0), add)},
		{Type: still("i64"), Init: list(get(3))},
		{Type: mut("(ref func)"), Init: list(fn(1))},
		{Type: still("(ref null 4)"), Init: list(x(opcode.StructNewDefault, below))},
		{Type: still("(ref null any)"), Init: list(get(7))},
		{Type: still("(ref 6)"), Init: list(i32(1), i32(2), x(opcode.ArrayNew, anArray))},
	}
}

func wholeElems() []api.Elem {
	return []api.Elem{
		{Type: val("(ref func)"), Init: [][]api.Instr{list(fn(5)), list(get(2))}},
		{Type: val("(ref func)"), Mode: api.Active, Table: 2, Offset: list(i32(1), get(4), add), Init: [][]api.Instr{list(fn(0))}},
		{Type: val("(ref null 5)"), Mode: api.Active, Table: 4, Offset: list(i64(2)), Init: [][]api.Instr{list(null("none")), list(x(opcode.StructNewDefault, below))}},
		{Type: val("(ref func)"), Mode: api.Declared, Init: [][]api.Instr{list(fn(2))}},
		{Type: val("(ref null any)"), Init: [][]api.Instr{list(get(8)), list(i32(1), plain(opcode.RefI31)), list(i32(3), i32(4), api.Instr{Op: opcode.ArrayNewFixed, X: anArray, N: 2})}},
	}
}
