package entry

import (
	"math"

	"ratchet/api"
)

// maxType is the greatest number that a defined type may have.
const maxType = math.MaxInt32

// Bytes that stand for one thing each.
const (
	noResult  = 0x40 // of a block
	groupCode = 0x4e
	finalCode = 0x4f
	openCode  = 0x50
)

// Bits of the byte with which limits begin.
const (
	maxBit  = 1
	wideBit = 4
)

// Kinds of things that have a byte of their own.
const (
	nothing   = iota
	number    // a number type: its Num
	vector    // the vector type
	packed    // a packed type: its Num
	abstract  // an abstract heap type: its Heap
	reference // what stands ahead of a heap type: withNull or withoutNull
	composite // a composite type: its Kind
)

// Whether null is one of a reference type.
const (
	withoutNull = iota
	withNull
)

// codes are the bytes, each with the kind of what it stands for, and which of that kind it is.
var codes = [...]struct {
	code byte
	kind int
	what int
}{
	{0x7f, number, api.TI32},
	{0x7e, number, api.TI64},
	{0x7d, number, api.TF32},
	{0x7c, number, api.TF64},
	{0x7b, vector, 0},
	{0x78, packed, api.T8},
	{0x77, packed, api.T16},
	{0x74, abstract, api.HNoExn},
	{0x73, abstract, api.HNoFunc},
	{0x72, abstract, api.HNoExtern},
	{0x71, abstract, api.HNone},
	{0x70, abstract, api.HFunc},
	{0x6f, abstract, api.HExtern},
	{0x6e, abstract, api.HAny},
	{0x6d, abstract, api.HEq},
	{0x6c, abstract, api.HI31},
	{0x6b, abstract, api.HStruct},
	{0x6a, abstract, api.HArray},
	{0x69, abstract, api.HExn},
	{0x64, reference, withoutNull},
	{0x63, reference, withNull},
	{0x60, composite, api.CFunc},
	{0x5f, composite, api.CStruct},
	{0x5e, composite, api.CArray},
}

// meaning tells the kind of what a byte stands for, and which of that kind it is.
func meaning(code byte) (kind, what int) {
	for _, row := range codes {
		if row.code == code {
			return row.kind, row.what
		}
	}
	return nothing, 0
}

// codeOf tells the byte of a thing, if it has one.
func codeOf(kind, what int) (byte, bool) {
	for _, row := range codes {
		if row.kind == kind && row.what == what {
			return row.code, true
		}
	}
	return 0, false
}

// fault is what cursors and writers panic with: an error, and its place.
type fault struct {
	at int
	e  api.Errno
}

func giveUp(at int, e api.Errno) { panic(fault{at, e}) }
