package vnum

import (
	"math"

	"ratchet/api"
	"ratchet/instr"
	"ratchet/scope"
)

// access tells the types of the address and of what is loaded or stored there, if the instruction may speak of such a place.
func (s *step) access() (addr, v api.ValType, e api.Errno) {
	m, e := scope.At(s.x.Memories, s.i.Mem.Mem)
	if e != api.OK {
		return addr, v, e
	}
	v, size, _, _, e := instr.Width(s.i.Op)
	switch {
	case e != api.OK:
		return addr, v, e
	case uint64(size)>>s.i.Mem.Align == 0:
		return addr, v, api.ErrAlign
	case !m.Wide && s.i.Mem.Offset > math.MaxUint32:
		return addr, v, api.ErrOffset
	}
	return Addr(m), v, api.OK
}

func (s *step) load() api.Errno {
	addr, v, e := s.access()
	if e != api.OK {
		return e
	}
	return s.c.Swap(list(addr), list(v))
}

func (s *step) store() api.Errno {
	addr, v, e := s.access()
	if e != api.OK {
		return e
	}
	return s.c.Pops(list(addr, v))
}

func (s *step) memorySize() api.Errno {
	m, e := scope.At(s.x.Memories, s.i.X)
	if e != api.OK {
		return e
	}
	return s.c.Push(Addr(m))
}

func (s *step) memoryGrow() api.Errno {
	m, e := scope.At(s.x.Memories, s.i.X)
	if e != api.OK {
		return e
	}
	return s.c.Swap(list(Addr(m)), list(Addr(m)))
}

func (s *step) memoryFill() api.Errno {
	m, e := scope.At(s.x.Memories, s.i.X)
	if e != api.OK {
		return e
	}
	return s.c.Pops(list(Addr(m), scope.I32(), Addr(m)))
}

func (s *step) memoryCopy() api.Errno {
	to, e := scope.At(s.x.Memories, s.i.X)
	if e != api.OK {
		return e
	}
	from, e := scope.At(s.x.Memories, s.i.Y)
	if e != api.OK {
		return e
	}
	return s.c.Pops(list(Addr(to), Addr(from), Least(to, from)))
}

func (s *step) memoryInit() api.Errno {
	if e := s.data(); e != api.OK {
		return e
	}
	m, e := scope.At(s.x.Memories, s.i.Y)
	if e != api.OK {
		return e
	}
	return s.c.Pops(list(Addr(m), scope.I32(), scope.I32()))
}

func (s *step) dataDrop() api.Errno { return s.data() }

// data asks for the data segment that an instruction names.
func (s *step) data() api.Errno { return scope.Below(s.i.X, s.x.Datas) }
