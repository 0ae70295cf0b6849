package entry_test

import (
	"encoding/hex"
	"fmt"
	"strings"
	"testing"

	"ratchet/api"
	"ratchet/entry"
)

// bin is bytes by their digits of base 16, with blanks wherever.
func bin(digits string) []byte {
	b, err := hex.DecodeString(strings.ReplaceAll(digits, " ", ""))
	if err != nil {
		panic(err)
	}
	return b
}

// told is a value as a text in which nil and empty lists are the same.
func told(x any) string { return fmt.Sprintf("%#v", plain(x)) }

// plain has no empty list that is not nil.
func plain(x any) any {
	switch v := x.(type) {
	case []api.ValType:
		return append([]api.ValType(nil), v...)
	case api.CompType:
		v.Params = append([]api.ValType(nil), v.Params...)
		v.Results = append([]api.ValType(nil), v.Results...)
		v.Fields = append([]api.Field(nil), v.Fields...)
		return v
	case api.SubType:
		v.Supers = append([]int(nil), v.Supers...)
		v.Comp = plain(v.Comp).(api.CompType)
		return v
	case api.RecType:
		var l []api.SubType
		for _, s := range v.Types {
			l = append(l, plain(s).(api.SubType))
		}
		v.Types = l
		return v
	}
	return x
}

// reading is a call that reads.
type reading struct {
	name string
	read func(b []byte, at int) (any, int, api.Errno)
	zero string // what it tells beside an error
}

func reader[T any](name string, read func(b []byte, at int) (T, int, api.Errno)) reading {
	var zero T
	return reading{name, func(b []byte, at int) (any, int, api.Errno) { return read(b, at) }, told(zero)}
}

// readings are all calls that read, by their names.
func readings() map[string]reading {
	all := map[string]reading{}
	for _, r := range []reading{
		reader("HeapType", entry.HeapType),
		reader("RefType", entry.RefType),
		reader("ValType", entry.ValType),
		reader("ValTypes", entry.ValTypes),
		reader("BlockType", entry.BlockType),
		reader("Field", entry.Field),
		reader("CompType", entry.CompType),
		reader("SubType", entry.SubType),
		reader("RecType", entry.RecType),
		reader("Limits", entry.Limits),
		reader("TableType", entry.TableType),
		reader("GlobalType", entry.GlobalType),
		reader("Tag", entry.Tag),
		reader("Import", entry.Import),
		reader("Export", entry.Export),
	} {
		all[r.name] = r
	}
	return all
}

// writing is a call that writes.
type writing func(x any) ([]byte, api.Errno)

func writer[T any](write func(x T) ([]byte, api.Errno)) writing {
	return func(x any) ([]byte, api.Errno) { return write(x.(T)) }
}

// writings are the calls that write what the call of that name reads.
func writings() map[string]writing {
	return map[string]writing{
		"HeapType":   writer(entry.PutHeapType),
		"ValType":    writer(entry.PutValType),
		"BlockType":  writer(entry.PutBlockType),
		"RecType":    writer(entry.PutRecType),
		"Limits":     writer(entry.PutLimits),
		"TableType":  writer(entry.PutTableType),
		"GlobalType": writer(entry.PutGlobalType),
		"Tag":        writer(entry.PutTag),
		"Import":     writer(entry.PutImport),
		"Export":     writer(entry.PutExport),
	}
}

// written is what the bytes of a value are written as, whichever call writes it: those without a call of their own stand within a group, or stand for a value type.
func written(name string, x any) ([]byte, api.Errno) {
	switch v := x.(type) {
	case api.SubType:
		return entry.PutRecType(api.RecType{Types: []api.SubType{v}})
	case api.CompType:
		return entry.PutRecType(api.RecType{Types: []api.SubType{{Final: true, Comp: v}}})
	case api.Field:
		b, e := entry.PutRecType(api.RecType{Types: []api.SubType{{Final: true, Comp: api.CompType{Kind: api.CArray, Fields: []api.Field{v}}}}})
		return behind(b, 1), e
	case []api.ValType:
		b, e := entry.PutRecType(api.RecType{Types: []api.SubType{{Final: true, Comp: api.CompType{Kind: api.CFunc, Results: v}}}})
		return behind(b, 2), e
	case api.ValType:
		return entry.PutValType(v)
	}
	return writings()[name](x)
}

func behind(b []byte, n int) []byte { return b[min(n, len(b)):] }

// shows asks a call that reads for a value and the place behind it.
func (r reading) shows(t *testing.T, b []byte, at int, want any, next int) {
	t.Helper()
	x, place, e := r.read(b, at)
	if told(x) != told(want) || place != next || e != api.OK {
		t.Errorf("%s(%s, %d): %s, %d, %d, not %s, %d", r.name, short(b), at, told(x), place, e, told(want), next)
	}
}

// refuses asks it for an error and its place.
func (r reading) refuses(t *testing.T, b []byte, at, place int, e api.Errno) {
	t.Helper()
	x, gotPlace, got := r.read(b, at)
	if told(x) != r.zero || gotPlace != place || got != e {
		t.Errorf("%s(%s, %d): %.200s, %d, %d, not %d, %d", r.name, short(b), at, told(x), gotPlace, got, place, e)
	}
}

// reads asks for a value at the bytes' beginning, and between others.
func (r reading) reads(t *testing.T, b []byte, want any) {
	t.Helper()
	r.shows(t, b, 0, want, len(b))
	for _, c := range []byte{0, 0x40, 0x7b, 0xff} {
		r.shows(t, between(b, c), 3, want, 3+len(b))
	}
}

// gives asks for an error at the bytes' beginning, and between others; what ends too early is looked at with others ahead alone.
func (r reading) gives(t *testing.T, b []byte, place int, e api.Errno) {
	t.Helper()
	r.refuses(t, b, 0, place, e)
	for _, c := range []byte{0, 0x40, 0x7b, 0xff} {
		around := between(b, c)
		r.refuses(t, around[:3+len(b)], 3, 3+place, e)
		if e != api.ErrShort {
			r.refuses(t, around, 3, 3+place, e)
		}
	}
}

// between is bytes with three others ahead and as many behind.
func between(b []byte, c byte) []byte {
	out := append([]byte{c, c, c}, b...)
	return append(out, c, c, c)
}

func short(b []byte) string {
	if len(b) > 40 {
		return fmt.Sprintf("%x .. of %d bytes", b[:40], len(b))
	}
	return fmt.Sprintf("%x", b)
}

func num(n int) api.ValType     { return api.ValType{Num: n} }
func ref(h int) api.ValType     { return api.ValType{Num: api.TRef, Heap: h} }
func refNull(h int) api.ValType { return api.ValType{Num: api.TRef, Null: true, Heap: h} }

// alone is a group of one type.
func alone(s api.SubType) api.RecType { return api.RecType{Types: []api.SubType{s}} }

func final(c api.CompType, supers ...int) api.SubType {
	return api.SubType{Final: true, Supers: supers, Comp: c}
}

func open(c api.CompType, supers ...int) api.SubType { return api.SubType{Supers: supers, Comp: c} }

func function(params, results []api.ValType) api.CompType {
	return api.CompType{Kind: api.CFunc, Params: params, Results: results}
}

func structure(l ...api.Field) api.CompType { return api.CompType{Kind: api.CStruct, Fields: l} }

func array(f api.Field) api.CompType {
	return api.CompType{Kind: api.CArray, Fields: []api.Field{f}}
}

func fixed(v api.ValType) api.Field { return api.Field{Type: v} }
func mut(v api.ValType) api.Field   { return api.Field{Type: v, Mut: true} }

// numCodes, packedCodes and heapCodes are the chapter's bytes of types.
func numCodes() map[byte]int {
	return map[byte]int{0x7f: api.TI32, 0x7e: api.TI64, 0x7d: api.TF32, 0x7c: api.TF64}
}

func packedCodes() map[byte]int { return map[byte]int{0x78: api.T8, 0x77: api.T16} }

func heapCodes() map[byte]int {
	return map[byte]int{
		0x73: api.HNoFunc, 0x72: api.HNoExtern, 0x71: api.HNone, 0x70: api.HFunc, 0x6f: api.HExtern, 0x6e: api.HAny,
		0x6d: api.HEq, 0x6c: api.HI31, 0x6b: api.HStruct, 0x6a: api.HArray, 0x69: api.HExn, 0x74: api.HNoExn,
	}
}
