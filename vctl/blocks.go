package vctl

import (
	"ratchet/api"
	"ratchet/scope"
)

// Kinds of clauses: those that name a tag stand ahead, of either sort one that gives the exception behind one that does not.
const (
	catch = iota
	catchRef
	catchAll
	catchAllRef
)

func (s *step) block() api.Errno {
	in, out, e := BlockType(s.x, s.i.Block)
	if e != api.OK {
		return e
	}
	return s.c.Enter(s.i.Op, in, out)
}

func (s *step) choice() api.Errno {
	in, out, e := BlockType(s.x, s.i.Block)
	if e != api.OK {
		return e
	}
	if e = s.popType(scope.I32()); e != api.OK {
		return e
	}
	return s.c.Enter(s.i.Op, in, out)
}

func (s *step) guarded() api.Errno {
	in, out, e := BlockType(s.x, s.i.Block)
	if e != api.OK {
		return e
	}
	for _, k := range s.i.Catches {
		if e = s.clause(k); e != api.OK {
			return e
		}
	}
	return s.c.Enter(s.i.Op, in, out)
}

// clause checks one of a try_table's clauses, whose label is one of the blocks around it.
func (s *step) clause(k api.Catch) api.Errno {
	if k.Kind < catch || catchAllRef < k.Kind {
		return api.ErrForm
	}
	if _, e := scope.At(s.x.Tags, k.Tag); e != api.OK && named(k) {
		return e
	}
	l, e := s.c.Label(k.Label)
	if e != api.OK {
		return e
	}
	out, e := s.gives(k)
	switch {
	case e != api.OK:
		return e
	case !match(s.x.Types, out, l):
		return api.ErrType
	}
	return api.OK
}

// named tells whether a clause names a tag.
func named(k api.Catch) bool { return k.Kind == catch || k.Kind == catchRef }

// gives tells what a clause takes along to its label.
func (s *step) gives(k api.Catch) (out []api.ValType, e api.Errno) {
	if named(k) {
		if out, e = s.tag(k.Tag); e != api.OK {
			return nil, e
		}
	}
	if k.Kind == catchRef || k.Kind == catchAllRef {
		out = append(out, exn(false))
	}
	return out, api.OK
}
