package vnum

import (
	"ratchet/api"
	"ratchet/opcode"
	"ratchet/stack"
)

// step is an instruction at one place of a function's code.
type step struct {
	x api.Ctx
	c *stack.Checker
	i api.Instr
}

// steps tells what each instruction asks and does, by its group.
func steps() map[int]func(*step) api.Errno {
	return map[int]func(*step) api.Errno{
		opcode.Drop:       (*step).drop,
		opcode.Select:     (*step).choose,
		opcode.SelectT:    (*step).chooseOf,
		opcode.LocalGet:   (*step).localGet,
		opcode.LocalSet:   (*step).localSet,
		opcode.LocalTee:   (*step).localTee,
		opcode.GlobalGet:  (*step).globalGet,
		opcode.GlobalSet:  (*step).globalSet,
		opcode.TableGet:   (*step).tableGet,
		opcode.TableSet:   (*step).tableSet,
		opcode.I32Load:    (*step).load,
		opcode.I32Store:   (*step).store,
		opcode.MemorySize: (*step).memorySize,
		opcode.MemoryGrow: (*step).memoryGrow,
		opcode.I32Const:   (*step).operator,
		opcode.MemoryInit: (*step).memoryInit,
		opcode.DataDrop:   (*step).dataDrop,
		opcode.MemoryCopy: (*step).memoryCopy,
		opcode.MemoryFill: (*step).memoryFill,
		opcode.TableInit:  (*step).tableInit,
		opcode.ElemDrop:   (*step).elemDrop,
		opcode.TableCopy:  (*step).tableCopy,
		opcode.TableGrow:  (*step).tableGrow,
		opcode.TableSize:  (*step).tableSize,
		opcode.TableFill:  (*step).tableFill,
	}
}

// group tells the opcode by which an instruction's step stands among the others: the first of those that differ in nothing but types and widths.
func group(op int) int {
	switch {
	case opcode.I32Load <= op && op < opcode.I32Store:
		return opcode.I32Load
	case opcode.I32Store <= op && op <= opcode.I64Store32:
		return opcode.I32Store
	case opcode.I32TruncSatF32S <= op && op <= opcode.I64TruncSatF64U:
		// They stand behind a prefix, but are operators as the others.
		fallthrough
	case opcode.I32Const <= op && op <= opcode.I64Extend32S:
		return opcode.I32Const
	}
	return op
}

// list tells types as a list, as the checker takes them.
func list(l ...api.ValType) []api.ValType { return l }
