package vnum

import (
	"ratchet/api"
	"ratchet/instr"
	"ratchet/scope"
	"ratchet/types"
)

func (s *step) drop() api.Errno {
	_, e := s.c.Pop()
	return e
}

// choose checks a select that tells no type: it goes by what the operands are, so that they must be popped ahead of being asked.
func (s *step) choose() api.Errno {
	height := s.c.Height()
	var a, b api.ValType
	test, e := s.c.PopType(scope.I32())
	if e == api.OK {
		b, e = s.c.Pop()
	}
	if e == api.OK {
		a, e = s.c.Pop()
	}
	if e == api.OK && !alike(a, b) {
		e = api.ErrSelect
	}
	if e != api.OK {
		// Where it is not reached, some that were popped were not there: only as many as are missing go back.
		gone := height - s.c.Height()
		s.c.Pushes(list(a, b, test)[3-gone:])
		return e
	}
	if a.Num == api.TNone {
		a = b
	}
	return s.c.Push(a)
}

// alike tells whether a select that tells no type may choose between two operands.
func alike(a, b api.ValType) bool {
	if a.Num == api.TRef || b.Num == api.TRef {
		return false
	}
	return a.Num == api.TNone || b.Num == api.TNone || types.Same(a, b)
}

// chooseOf checks a select that tells its type.
func (s *step) chooseOf() api.Errno {
	if len(s.i.Types) != 1 {
		return api.ErrArity
	}
	v := s.i.Types[0]
	if !scope.Known(s.x.Types, v) {
		return api.ErrIndex
	}
	return s.c.Swap(list(v, v, scope.I32()), list(v))
}

// operator checks what takes and gives types that hang on its opcode alone.
func (s *step) operator() api.Errno {
	in, out, e := instr.Sig(s.i.Op)
	if e != api.OK {
		return e
	}
	return s.c.Swap(in, out)
}
