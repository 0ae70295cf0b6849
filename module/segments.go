package module

import (
	"ratchet/api"
	"ratchet/entry"
	"ratchet/opcode"
)

// Bits of the number with which an element segment begins.
const (
	notActive   = 1
	toldOrOnly  = 2 // of an active one its table is told, another one is only declared
	expressions = 4
	allBits     = notActive | toldOrOnly | expressions
)

// elementSegment reads an element segment. Each kind has the parts of the one below it in the switch, too.
func (r *reader) elementSegment() api.Elem {
	start := r.at
	bits := r.number()
	if bits > allBits {
		giveUp(start, api.ErrForm)
	}
	var s api.Elem
	switch bits &^ expressions {
	case toldOrOnly:
		s.Table = r.number()
		fallthrough
	case 0:
		s.Mode = api.Active
		s.Offset = r.expression()
	case notActive | toldOrOnly:
		s.Mode = api.Declared
	case notActive:
		s.Mode = api.Passive
	}
	s.Type = r.typeOfElements(bits)
	s.Init = elements(&r.cursor, api.MaxFuncs, r.elementReader(bits))
	return s
}

// typeOfElements reads the elements' type, where the segment tells it.
func (r *reader) typeOfElements(bits uint32) api.ValType {
	isTold := bits&(notActive|toldOrOnly) != 0
	if bits&expressions == 0 {
		if isTold {
			r.zero()
		}
		return api.ValType{Num: api.TRef, Heap: api.HFunc}
	}
	if isTold {
		return one(&r.cursor, entry.RefType)
	}
	return api.ValType{Num: api.TRef, Null: true, Heap: api.HFunc}
}

// elementReader is what reads one element.
func (r *reader) elementReader(bits uint32) func() []api.Instr {
	if bits&expressions != 0 {
		return r.expression
	}
	return r.function
}

// function reads a function's number, which stands for an expression.
func (r *reader) function() []api.Instr {
	return []api.Instr{{Op: opcode.RefFunc, X: r.number()}}
}

// dataSegment reads a data segment. Each kind has all parts of those below it in the switch.
func (r *reader) dataSegment() api.Data {
	start := r.at
	var s api.Data
	switch r.number() {
	case 2:
		s.Memory = r.number()
		fallthrough
	case 0:
		s.Mode = api.Active
		s.Offset = r.expression()
		fallthrough
	case 1:
		s.Init = r.bytes()
	default:
		giveUp(start, api.ErrForm)
	}
	return s
}
