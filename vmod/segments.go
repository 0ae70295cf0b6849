package vmod

import (
	"ratchet/api"
	"ratchet/scope"
	"ratchet/sub"
)

func (k *checking) elem(n int) error {
	s := k.m.Elems[n]
	if s.Type.Num != api.TRef {
		return api.ErrForm
	}
	if e := known(k.x, s.Type); e != api.OK {
		return e
	}
	if s.Mode != api.Active {
		return k.elements(s, 0)
	}
	t, e := scope.At(k.x.Tables, s.Table)
	switch {
	case e != api.OK:
		return e
	case !sub.Val(k.x.Types, s.Type, t.Elem):
		return api.ErrType
	}
	if err := k.anywhere(s.Offset, scope.Addr(t.Limits)); err != nil {
		return err
	}
	return k.elements(s, Size(s.Offset))
}

// elements tells the first fault of a segment's elements, whose instructions are counted on behind others.
func (k *checking) elements(s api.Elem, others int) error {
	for _, l := range s.Init {
		if err := behind(others, k.anywhere(l, s.Type)); err != nil {
			return err
		}
		others += Size(l)
	}
	return nil
}

func (k *checking) data(n int) error {
	s := k.m.Datas[n]
	if s.Mode != api.Active {
		return nil
	}
	l, e := scope.At(k.x.Memories, s.Memory)
	if e != api.OK {
		return e
	}
	return k.anywhere(s.Offset, scope.Addr(l))
}

// anywhere tells the first fault of an expression that may name all globals.
func (k *checking) anywhere(l []api.Instr, v api.ValType) error {
	return expression(k.x, l, v, len(k.x.Globals))
}
