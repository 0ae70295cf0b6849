package instr

import "ratchet/opcode"

// form is what stands behind an opcode. Forms stand in the order of their words, behind that of what is no instruction.
type form int

const (
	noForm form = iota
	plainForm
	blockForm
	tryForm
	xForm
	xyForm
	tableForm
	selectForm
	memForm
	i32Form
	i64Form
	f32Form
	f64Form
	heapForm
	castForm
	branchForm
	countForm
)

const formWords = "- block try x xy table select mem i32 i64 f32 f64 heap cast br_cast xn"

// word is a form's word.
func (f form) word() string {
	if f == noForm {
		return ""
	}
	return cut(formWords)[f-1]
}

// field is an immediate, or what can't be read but together.
type field int

const (
	blockField field = iota
	catchesField
	xField
	yField
	labelsField
	typesField
	memField
	i32Field
	i64Field
	f32Field
	f64Field
	heapField
	castField
	branchField // flags ahead of X, and the types behind it of which they speak
	countField
	fieldCount
)

// formFields are the fields of each form, in the order of their bytes.
var formFields = [...][]field{
	noForm:     {},
	plainForm:  {},
	blockForm:  {blockField},
	tryForm:    {blockField, catchesField},
	xForm:      {xField},
	xyForm:     {xField, yField},
	tableForm:  {labelsField, xField},
	selectForm: {typesField},
	memForm:    {memField},
	i32Form:    {i32Field},
	i64Form:    {i64Field},
	f32Form:    {f32Field},
	f64Form:    {f64Field},
	heapForm:   {heapField},
	castForm:   {castField},
	branchForm: {branchField},
	countForm:  {xField, countField},
}

// formOf is the form of an opcode; noForm, if it is none. Reading asks it for each instruction, so it is no search through names.
func formOf(op int) form {
	switch op {
	case opcode.Unreachable, opcode.Nop, opcode.Else, opcode.ThrowRef, opcode.End, opcode.Return, opcode.Drop, opcode.Select,
		opcode.RefIsNull, opcode.RefEq, opcode.RefAsNonNull, opcode.ArrayLen:
		return plainForm
	case opcode.Block, opcode.Loop, opcode.If:
		return blockForm
	case opcode.TryTable:
		return tryForm
	case opcode.Throw, opcode.Br, opcode.BrIf, opcode.Call, opcode.ReturnCall, opcode.CallRef, opcode.ReturnCallRef,
		opcode.MemorySize, opcode.MemoryGrow, opcode.RefFunc, opcode.BrOnNull, opcode.BrOnNonNull,
		opcode.StructNew, opcode.StructNewDefault, opcode.ArrayNew, opcode.ArrayNewDefault, opcode.ArrayFill,
		opcode.DataDrop, opcode.MemoryFill, opcode.ElemDrop, opcode.TableGrow, opcode.TableSize, opcode.TableFill:
		return xForm
	case opcode.CallIndirect, opcode.ReturnCallIndirect, opcode.ArrayNewData, opcode.ArrayNewElem,
		opcode.ArrayCopy, opcode.ArrayInitData, opcode.ArrayInitElem,
		opcode.MemoryInit, opcode.MemoryCopy, opcode.TableInit, opcode.TableCopy:
		return xyForm
	case opcode.BrTable:
		return tableForm
	case opcode.SelectT:
		return selectForm
	case opcode.RefNull:
		return heapForm
	case opcode.BrOnCast, opcode.BrOnCastFail:
		return branchForm
	case opcode.ArrayNewFixed:
		return countForm
	}
	return formInRun(op)
}

// formInRun is the form of an opcode among those that follow one another with one form.
func formInRun(op int) form {
	switch {
	case opcode.LocalGet <= op && op <= opcode.TableSet:
		return xForm
	case opcode.I32Load <= op && op <= opcode.I64Store32:
		return memForm
	case opcode.I32Const <= op && op <= opcode.F64Const:
		return i32Form + form(op-opcode.I32Const)
	case opcode.I32Eqz <= op && op <= opcode.I64Extend32S:
		return plainForm
	case opcode.StructGet <= op && op <= opcode.StructSet:
		return xyForm
	case opcode.ArrayGet <= op && op <= opcode.ArraySet:
		return xForm
	case opcode.RefTest <= op && op <= opcode.RefCastNull:
		return castForm
	case opcode.AnyConvertExtern <= op && op <= opcode.I31GetU:
		return plainForm
	case opcode.I32TruncSatF32S <= op && op <= opcode.I64TruncSatF64U:
		return plainForm
	}
	return noForm
}
