package vnum

import (
	"ratchet/api"
	"ratchet/scope"
	"ratchet/sub"
)

func (s *step) tableGet() api.Errno {
	t, e := scope.At(s.x.Tables, s.i.X)
	if e != api.OK {
		return e
	}
	return s.c.Swap(list(Addr(t.Limits)), list(t.Elem))
}

func (s *step) tableSet() api.Errno {
	t, e := scope.At(s.x.Tables, s.i.X)
	if e != api.OK {
		return e
	}
	return s.c.Pops(list(Addr(t.Limits), t.Elem))
}

func (s *step) tableSize() api.Errno {
	t, e := scope.At(s.x.Tables, s.i.X)
	if e != api.OK {
		return e
	}
	return s.c.Push(Addr(t.Limits))
}

func (s *step) tableGrow() api.Errno {
	t, e := scope.At(s.x.Tables, s.i.X)
	if e != api.OK {
		return e
	}
	return s.c.Swap(list(t.Elem, Addr(t.Limits)), list(Addr(t.Limits)))
}

func (s *step) tableFill() api.Errno {
	t, e := scope.At(s.x.Tables, s.i.X)
	if e != api.OK {
		return e
	}
	return s.c.Pops(list(Addr(t.Limits), t.Elem, Addr(t.Limits)))
}

func (s *step) tableCopy() api.Errno {
	to, e := scope.At(s.x.Tables, s.i.X)
	if e != api.OK {
		return e
	}
	from, e := scope.At(s.x.Tables, s.i.Y)
	switch {
	case e != api.OK:
		return e
	case !sub.Val(s.x.Types, from.Elem, to.Elem):
		return api.ErrType
	}
	return s.c.Pops(list(Addr(to.Limits), Addr(from.Limits), Least(to.Limits, from.Limits)))
}

func (s *step) tableInit() api.Errno {
	v, e := scope.At(s.x.Elems, s.i.X)
	if e != api.OK {
		return e
	}
	t, e := scope.At(s.x.Tables, s.i.Y)
	switch {
	case e != api.OK:
		return e
	case !sub.Val(s.x.Types, v, t.Elem):
		return api.ErrType
	}
	return s.c.Pops(list(Addr(t.Limits), scope.I32(), scope.I32()))
}

func (s *step) elemDrop() api.Errno {
	_, e := scope.At(s.x.Elems, s.i.X)
	return e
}
