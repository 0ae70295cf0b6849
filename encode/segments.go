package encode

import (
	"ratchet/api"
	"ratchet/code"
	"ratchet/entry"
	"ratchet/leb"
	"ratchet/opcode"
	"ratchet/section"
)

// mayAim tells whether where a segment goes is told only of an active one.
func mayAim(mode int, index uint32, offset []api.Instr) bool {
	return mode == api.Active || index == 0 && len(offset) == 0
}

// elementParts are an element segment's parts, from the left.
func elementParts(s api.Elem) []part {
	bits := elementBits(s)
	l := []part{number(bits)}
	switch bits &^ section.Expressions {
	case section.ToldOrOnly:
		l = append(l, index(s.Table))
		fallthrough
	case 0:
		l = append(l, expression(s.Offset))
	}
	if bits&(section.NotActive|section.ToldOrOnly) != 0 {
		l = append(l, elementType(bits, s.Type))
	}
	return append(l, elements(bits, s.Init))
}

// elementBits tell the shortest form that a segment has.
func elementBits(s api.Elem) uint64 {
	bits := uint64(0)
	usual := api.ValType{Num: api.TRef, Heap: api.HFunc}
	if s.Type != usual || !areFunctions(s.Init) {
		bits = section.Expressions
		usual.Null = true
	}
	switch s.Mode {
	case api.Declared:
		bits |= section.ToldOrOnly
		fallthrough
	case api.Passive:
		bits |= section.NotActive
	case api.Active:
		if s.Table != 0 || s.Type != usual {
			bits |= section.ToldOrOnly
		}
	}
	return bits
}

// areFunctions tells whether each element is just one ref.func. One that code can't write is none, so that its error is told.
func areFunctions(l [][]api.Instr) bool {
	for _, x := range l {
		if len(x) != 1 || x[0].Op != opcode.RefFunc {
			return false
		}
		if _, e := code.PutExpr(x); e != api.OK {
			return false
		}
	}
	return true
}

// elementType writes what the elements are: a 0 stands for functions.
func elementType(bits uint64, t api.ValType) part {
	if bits&section.Expressions == 0 {
		return number(0)
	}
	return func() ([]byte, api.Errno) {
		if t.Num != api.TRef {
			return nil, api.ErrForm
		}
		return entry.PutValType(t)
	}
}

// elements writes the elements: as expressions, or by their functions' numbers.
func elements(bits uint64, l [][]api.Instr) part {
	write := code.PutExpr
	if bits&section.Expressions == 0 {
		write = func(x []api.Instr) ([]byte, api.Errno) { return leb.PutU(uint64(x[0].X)), api.OK }
	}
	return func() ([]byte, api.Errno) { return vector(api.MaxFuncs, l, write) }
}

// dataParts are a data segment's parts, from the left.
func dataParts(s api.Data) []part {
	content := func() ([]byte, api.Errno) { return withSize(s.Init), api.OK }
	switch {
	case s.Mode == api.Passive:
		return []part{number(section.NotActive), content}
	case s.Memory == 0:
		return []part{number(0), expression(s.Offset), content}
	}
	return []part{number(section.ToldOrOnly), index(s.Memory), expression(s.Offset), content}
}
