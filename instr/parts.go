package instr

import (
	"ratchet/api"
	"ratchet/opcode"
)

// First bytes behind which an opcode goes on, by a number.
const (
	objectPrefix = 0xfb
	rangePrefix  = 0xfc
	vectorPrefix = 0xfd
)

// maxNumber is the greatest number behind a prefix for which Instr.Op has room: greater ones would run into the next prefix.
const maxNumber = 0xff

// memoryBit, beside an alignment, says that a memory is told.
const (
	memoryBit = 0x40
	maxAlign  = memoryBit - 1
)

// Kinds of clauses; those up to catchRef have a tag.
const (
	catchTag = iota
	catchRef
	catchAll
	catchAllRef
	clauseKinds
)

// Flags of a br_on_cast: which of its references may be null.
const (
	firstNull = 1 << iota
	secondNull
	flagsEnd
)

// reference is a reference type.
func reference(null bool, heap int) api.ValType {
	return api.ValType{Num: api.TRef, Null: null, Heap: heap}
}

// nullByName tells whether null is one of the type that a test or a cast speaks of.
func nullByName(op int) bool { return op == opcode.RefTestNull || op == opcode.RefCastNull }
