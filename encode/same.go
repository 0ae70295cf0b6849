package encode

import (
	"bytes"
	"slices"

	"ratchet/api"
	"ratchet/code"
	"ratchet/types"
)

// Same tells whether two modules are the same in all that counts.
func Same(a, b api.Module) bool {
	return a.HasStart == b.HasStart &&
		a.Start == b.Start &&
		a.HasCount == b.HasCount &&
		slices.Equal(a.Memories, b.Memories) &&
		slices.Equal(a.Tags, b.Tags) &&
		slices.Equal(a.Exports, b.Exports) &&
		slices.EqualFunc(a.Types, b.Types, sameGroup) &&
		slices.EqualFunc(a.Imports, b.Imports, sameImport) &&
		slices.EqualFunc(a.Funcs, b.Funcs, sameFunc) &&
		slices.EqualFunc(a.Tables, b.Tables, sameTable) &&
		slices.EqualFunc(a.Globals, b.Globals, sameGlobal) &&
		slices.EqualFunc(a.Elems, b.Elems, sameElem) &&
		slices.EqualFunc(a.Datas, b.Datas, sameData) &&
		slices.EqualFunc(a.Customs, b.Customs, sameCustom)
}

// sameGroup does not ask how a group of one type was written.
func sameGroup(a, b api.RecType) bool {
	return (a.Explicit == b.Explicit || len(a.Types) == 1) && slices.EqualFunc(a.Types, b.Types, sameSub)
}

func sameSub(a, b api.SubType) bool {
	return a.Final == b.Final && slices.Equal(a.Supers, b.Supers) && sameComp(a.Comp, b.Comp)
}

// sameComp asks for all lists, those too that the kind does not have: they have no binary form, but they are there.
func sameComp(a, b api.CompType) bool {
	return a.Kind == b.Kind &&
		slices.EqualFunc(a.Params, b.Params, types.Same) &&
		slices.EqualFunc(a.Results, b.Results, types.Same) &&
		slices.EqualFunc(a.Fields, b.Fields, sameField)
}

func sameField(a, b api.Field) bool { return a.Mut == b.Mut && types.Same(a.Type, b.Type) }

func sameImport(a, b api.Import) bool {
	return a.Module == b.Module && a.Name == b.Name && sameExtern(a.Extern, b.Extern)
}

// sameExtern asks for what the kind has alone.
func sameExtern(a, b api.Extern) bool {
	if a.Kind != b.Kind {
		return false
	}
	switch a.Kind {
	case api.KFunc, api.KTag:
		return a.Type == b.Type
	case api.KTable:
		return sameTableType(a.Table, b.Table)
	case api.KMemory:
		return a.Memory == b.Memory
	case api.KGlobal:
		return sameGlobalType(a.Global, b.Global)
	}
	return true
}

func sameTableType(a, b api.TableType) bool {
	return a.Limits == b.Limits && types.Same(a.Elem, b.Elem)
}

func sameGlobalType(a, b api.GlobalType) bool { return a.Mut == b.Mut && types.Same(a.Type, b.Type) }

func sameFunc(a, b api.Func) bool {
	return a.Type == b.Type && slices.EqualFunc(a.Locals, b.Locals, sameLocal) && code.Same(a.Body, b.Body)
}

func sameLocal(a, b api.Local) bool { return a.Count == b.Count && types.Same(a.Type, b.Type) }

func sameTable(a, b api.Table) bool {
	return a.HasInit == b.HasInit && sameTableType(a.Type, b.Type) && code.Same(a.Init, b.Init)
}

func sameGlobal(a, b api.Global) bool {
	return sameGlobalType(a.Type, b.Type) && code.Same(a.Init, b.Init)
}

func sameElem(a, b api.Elem) bool {
	return a.Mode == b.Mode &&
		a.Table == b.Table &&
		types.Same(a.Type, b.Type) &&
		code.Same(a.Offset, b.Offset) &&
		slices.EqualFunc(a.Init, b.Init, code.Same)
}

func sameData(a, b api.Data) bool {
	return a.Mode == b.Mode &&
		a.Memory == b.Memory &&
		code.Same(a.Offset, b.Offset) &&
		bytes.Equal(a.Init, b.Init)
}

// sameCustom does not ask behind what they stand.
func sameCustom(a, b api.Custom) bool { return a.Name == b.Name && bytes.Equal(a.Bytes, b.Bytes) }
