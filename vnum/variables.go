package vnum

import (
	"ratchet/api"
	"ratchet/scope"
)

// named tells the error of a local that there isn't as that of all other indices.
func named(v api.ValType, e api.Errno) (api.ValType, api.Errno) {
	if e == api.ErrArg {
		e = api.ErrIndex
	}
	return v, e
}

func (s *step) localGet() api.Errno {
	v, e := named(s.c.Get(s.i.X))
	if e != api.OK {
		return e
	}
	return s.c.Push(v)
}

func (s *step) localSet() api.Errno {
	v, e := named(s.c.Local(s.i.X))
	if e != api.OK {
		return e
	}
	if _, e = s.c.PopType(v); e != api.OK {
		return e
	}
	_, e = s.c.Set(s.i.X)
	return e
}

func (s *step) localTee() api.Errno {
	v, e := named(s.c.Local(s.i.X))
	if e != api.OK {
		return e
	}
	if e = s.c.Swap(list(v), list(v)); e != api.OK {
		return e
	}
	_, e = s.c.Set(s.i.X)
	return e
}

func (s *step) globalGet() api.Errno {
	g, e := scope.At(s.x.Globals, s.i.X)
	if e != api.OK {
		return e
	}
	return s.c.Push(g.Type)
}

func (s *step) globalSet() api.Errno {
	g, e := scope.At(s.x.Globals, s.i.X)
	switch {
	case e != api.OK:
		return e
	case !g.Mut:
		return api.ErrMut
	}
	_, e = s.c.PopType(g.Type)
	return e
}
