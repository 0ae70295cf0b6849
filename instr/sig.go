package instr

import (
	"slices"

	"ratchet/api"
	"ratchet/opcode"
)

// sigs are what operators take, so many of one type, and the type of their answer; each from an opcode on, up to the next one's.
var sigs = [...]struct {
	first, takes, many, gives int
}{
	{opcode.I32Const, api.TNone, 0, api.TI32},
	{opcode.I64Const, api.TNone, 0, api.TI64},
	{opcode.F32Const, api.TNone, 0, api.TF32},
	{opcode.F64Const, api.TNone, 0, api.TF64},
	{opcode.I32Eqz, api.TI32, 1, api.TI32},
	{opcode.I32Eq, api.TI32, 2, api.TI32},
	{opcode.I64Eqz, api.TI64, 1, api.TI32},
	{opcode.I64Eq, api.TI64, 2, api.TI32},
	{opcode.F32Eq, api.TF32, 2, api.TI32},
	{opcode.F64Eq, api.TF64, 2, api.TI32},
	{opcode.I32Clz, api.TI32, 1, api.TI32},
	{opcode.I32Add, api.TI32, 2, api.TI32},
	{opcode.I64Clz, api.TI64, 1, api.TI64},
	{opcode.I64Add, api.TI64, 2, api.TI64},
	{opcode.F32Abs, api.TF32, 1, api.TF32},
	{opcode.F32Add, api.TF32, 2, api.TF32},
	{opcode.F64Abs, api.TF64, 1, api.TF64},
	{opcode.F64Add, api.TF64, 2, api.TF64},
	{opcode.I32WrapI64, api.TI64, 1, api.TI32},
	{opcode.I32TruncF32S, api.TF32, 1, api.TI32},
	{opcode.I32TruncF64S, api.TF64, 1, api.TI32},
	{opcode.I64ExtendI32S, api.TI32, 1, api.TI64},
	{opcode.I64TruncF32S, api.TF32, 1, api.TI64},
	{opcode.I64TruncF64S, api.TF64, 1, api.TI64},
	{opcode.F32ConvertI32S, api.TI32, 1, api.TF32},
	{opcode.F32ConvertI64S, api.TI64, 1, api.TF32},
	{opcode.F32DemoteF64, api.TF64, 1, api.TF32},
	{opcode.F64ConvertI32S, api.TI32, 1, api.TF64},
	{opcode.F64ConvertI64S, api.TI64, 1, api.TF64},
	{opcode.F64PromoteF32, api.TF32, 1, api.TF64},
	{opcode.I32ReinterpretF32, api.TF32, 1, api.TI32},
	{opcode.I64ReinterpretF64, api.TF64, 1, api.TI64},
	{opcode.F32ReinterpretI32, api.TI32, 1, api.TF32},
	{opcode.F64ReinterpretI64, api.TI64, 1, api.TF64},
	{opcode.I32Extend8S, api.TI32, 1, api.TI32},
	{opcode.I64Extend8S, api.TI64, 1, api.TI64},
	{opcode.I32TruncSatF32S, api.TF32, 1, api.TI32},
	{opcode.I32TruncSatF64S, api.TF64, 1, api.TI32},
	{opcode.I64TruncSatF32S, api.TF32, 1, api.TI64},
	{opcode.I64TruncSatF64S, api.TF64, 1, api.TI64},
}

// isOperator tells whether what an opcode takes and answers hangs on nothing but the opcode.
func isOperator(op int) bool {
	return opcode.I32Const <= op && op <= opcode.I64Extend32S || opcode.I32TruncSatF32S <= op && op <= opcode.I64TruncSatF64U
}

// sigOf is what an operator takes, and what it answers: the last row that does not begin behind it.
func sigOf(op int) (takes, gives []api.ValType) {
	last := 0
	for n, s := range sigs {
		if s.first <= op {
			last = n
		}
	}
	s := sigs[last]
	return slices.Repeat([]api.ValType{{Num: s.takes}}, s.many), []api.ValType{{Num: s.gives}}
}

// accesses are what loads and then stores move, from I32Load on: the type, its bytes in memory, whether its sign fills the others.
var accesses = [...]struct {
	num, bytes int
	signed     bool
}{
	{api.TI32, 4, false},
	{api.TI64, 8, false},
	{api.TF32, 4, false},
	{api.TF64, 8, false},
	{api.TI32, 1, true},
	{api.TI32, 1, false},
	{api.TI32, 2, true},
	{api.TI32, 2, false},
	{api.TI64, 1, true},
	{api.TI64, 1, false},
	{api.TI64, 2, true},
	{api.TI64, 2, false},
	{api.TI64, 4, true},
	{api.TI64, 4, false},
	{api.TI32, 4, false},
	{api.TI64, 8, false},
	{api.TF32, 4, false},
	{api.TF64, 8, false},
	{api.TI32, 1, false},
	{api.TI32, 2, false},
	{api.TI64, 1, false},
	{api.TI64, 2, false},
	{api.TI64, 4, false},
}
