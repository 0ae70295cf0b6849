package module

import (
	"ratchet/api"
	"ratchet/entry"
	"ratchet/opcode"
	"ratchet/section"
)

// allBits are those that an element segment may begin with.
const allBits = section.NotActive | section.ToldOrOnly | section.Expressions

// elementSegment reads an element segment. Each kind has the parts of the one below it in the switch, too.
func (r *reader) elementSegment() api.Elem {
	start := r.at
	bits := r.number()
	if bits > allBits {
		giveUp(start, api.ErrForm)
	}
	var s api.Elem
	switch bits &^ section.Expressions {
	case section.ToldOrOnly:
		s.Table = r.number()
		fallthrough
	case 0:
		s.Mode = api.Active
		s.Offset = r.expression()
	case section.NotActive | section.ToldOrOnly:
		s.Mode = api.Declared
	case section.NotActive:
		s.Mode = api.Passive
	}
	s.Type = r.typeOfElements(bits)
	s.Init = elements(&r.cursor, api.MaxFuncs, r.elementReader(bits))
	return s
}

// typeOfElements reads the elements' type, where the segment tells it.
func (r *reader) typeOfElements(bits uint32) api.ValType {
	isTold := bits&(section.NotActive|section.ToldOrOnly) != 0
	if bits&section.Expressions == 0 {
		if isTold {
			r.zero()
		}
		return api.ValType{Num: api.TRef, Heap: api.HFunc}
	}
	if isTold {
		return one(&r.cursor, entry.RefType)
	}
	return api.ValType{Num: api.TRef, Null: true, Heap: api.HFunc}
}

// elementReader is what reads one element.
func (r *reader) elementReader(bits uint32) func() []api.Instr {
	if bits&section.Expressions != 0 {
		return r.expression
	}
	return r.function
}

// function reads a function's number, which stands for an expression.
func (r *reader) function() []api.Instr {
	return []api.Instr{{Op: opcode.RefFunc, X: r.number()}}
}

// dataSegment reads a data segment. Each kind has all parts of those below it in the switch.
func (r *reader) dataSegment() api.Data {
	start := r.at
	var s api.Data
	switch r.number() {
	case section.ToldOrOnly:
		s.Memory = r.number()
		fallthrough
	case 0:
		s.Mode = api.Active
		s.Offset = r.expression()
		fallthrough
	case section.NotActive:
		s.Init = r.bytes()
	default:
		giveUp(start, api.ErrForm)
	}
	return s
}
