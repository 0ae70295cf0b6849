package vctl

import (
	"slices"

	"ratchet/api"
	"ratchet/scope"
	"ratchet/sub"
)

func (s *step) unreachable() api.Errno { return s.c.Unreachable() }

func (s *step) nop() api.Errno { return api.OK }

// ends takes operands away, behind which nothing is reached.
func (s *step) ends(in []api.ValType) api.Errno {
	if e := s.c.Pops(in); e != api.OK {
		return e
	}
	// Unreachable is refused only where there is no frame; Pops has taken nothing away there.
	return s.c.Unreachable()
}

// tag tells what a tag's exceptions carry.
func (s *step) tag(n uint32) ([]api.ValType, api.Errno) {
	t, e := scope.At(s.x.Tags, n)
	if e != api.OK {
		return nil, e
	}
	in, _, e := FuncType(s.x, t)
	return in, e
}

func (s *step) throw() api.Errno {
	in, e := s.tag(s.i.X)
	if e != api.OK {
		return e
	}
	return s.ends(in)
}

func (s *step) throwRef() api.Errno { return s.ends(list(exn(true))) }

// exn is the type of a reference to an exception.
func exn(null bool) api.ValType { return api.ValType{Num: api.TRef, Null: null, Heap: api.HExn} }

func (s *step) giveBack() api.Errno { return s.ends(s.c.Results()) }

func (s *step) br() api.Errno {
	l, e := s.c.Label(s.i.X)
	if e != api.OK {
		return e
	}
	return s.ends(l)
}

func (s *step) brIf() api.Errno {
	l, e := s.c.Label(s.i.X)
	if e != api.OK {
		return e
	}
	if e = s.popType(scope.I32()); e != api.OK {
		return e
	}
	return s.c.Swap(l, l)
}

func (s *step) brTable() api.Errno {
	labels, e := s.labels()
	if e != api.OK {
		return e
	}
	for _, l := range labels {
		if len(l) != len(labels[0]) {
			return api.ErrArity
		}
	}
	if e = s.popType(scope.I32()); e != api.OK {
		return e
	}
	for _, l := range labels {
		if e = could(s.c, l); e != api.OK {
			return e
		}
	}
	return s.c.Unreachable()
}

// labels tells the types of each label of a br_table, those of X behind the others. A label that was told is not told again: one may stand there thousands of times.
func (s *step) labels() ([][]api.ValType, api.Errno) {
	var out [][]api.ValType
	told := map[uint32]struct{}{}
	for _, n := range slices.Concat(s.i.Labels, []uint32{s.i.X}) {
		if _, ok := told[n]; ok {
			continue
		}
		told[n] = struct{}{}
		l, e := s.c.Label(n)
		if e != api.OK {
			return nil, e
		}
		out = append(out, l)
	}
	return out, api.OK
}

func (s *step) brOnNull() api.Errno {
	l, e := s.c.Label(s.i.X)
	if e != api.OK {
		return e
	}
	v, e := s.popRef()
	if e != api.OK {
		return e
	}
	if e = s.c.Swap(l, l); e != api.OK {
		return e
	}
	v.Null = false
	return s.c.Push(v)
}

func (s *step) brOnNonNull() api.Errno {
	l, e := s.c.Label(s.i.X)
	if e != api.OK {
		return e
	}
	last := len(l) - 1
	if last < 0 || !isRef(l[last]) {
		return api.ErrType
	}
	v, e := s.popRef()
	if e != api.OK {
		return e
	}
	v.Null = false
	if v.Num != api.TNone && !sub.Val(s.x.Types, v, l[last]) {
		return api.ErrType
	}
	return s.c.Swap(l[:last], l[:last])
}

// popRef takes the last operand away, which must be a reference, or any type.
func (s *step) popRef() (api.ValType, api.Errno) {
	v, e := s.pop()
	if e == api.OK && !isRef(v) && v.Num != api.TNone {
		e = api.ErrType
	}
	return v, e
}
