package vctl

import (
	"ratchet/api"
	"ratchet/scope"
	"ratchet/sub"
)

func (s *step) call() api.Errno               { return s.swap(s.direct()) }
func (s *step) callIndirect() api.Errno       { return s.swap(s.indirect()) }
func (s *step) callRef() api.Errno            { return s.swap(s.referred()) }
func (s *step) returnCall() api.Errno         { return s.tail(s.direct()) }
func (s *step) returnCallIndirect() api.Errno { return s.tail(s.indirect()) }
func (s *step) returnCallRef() api.Errno      { return s.tail(s.referred()) }

// direct tells what a call of a function by its number takes and gives.
func (s *step) direct() (in, out []api.ValType, e api.Errno) {
	n, e := scope.At(s.x.Funcs, s.i.X)
	if e != api.OK {
		return nil, nil, e
	}
	return FuncType(s.x, n)
}

// indirect tells what a call of a table's element takes and gives; the last operand that it takes says which element.
func (s *step) indirect() (in, out []api.ValType, e api.Errno) {
	t, e := scope.At(s.x.Tables, s.i.Y)
	switch {
	case e != api.OK:
		return nil, nil, e
	case !sub.Val(s.x.Types, t.Elem, api.ValType{Num: api.TRef, Null: true, Heap: api.HFunc}):
		return nil, nil, api.ErrType
	}
	return s.typed(scope.Addr(t.Limits))
}

// referred tells what a call of a reference takes and gives; the reference is the last operand that it takes.
func (s *step) referred() (in, out []api.ValType, e api.Errno) {
	return s.typed(api.ValType{Num: api.TRef, Null: true, Heap: int(s.i.X)})
}

// typed tells what a call by a type's number takes and gives, where the operand that says what is called lies on the others.
func (s *step) typed(last api.ValType) (in, out []api.ValType, e api.Errno) {
	in, out, e = FuncType(s.x, int(s.i.X))
	if e != api.OK {
		return nil, nil, e
	}
	return append(in, last), out, api.OK
}

// swap does a call, if nothing speaks against it so far.
func (s *step) swap(in, out []api.ValType, e api.Errno) api.Errno {
	if e != api.OK {
		return e
	}
	return s.c.Swap(in, out)
}

// tail does a call whose results are those of the function in which it stands, if nothing speaks against it so far.
func (s *step) tail(in, out []api.ValType, e api.Errno) api.Errno {
	switch {
	case e != api.OK:
		return e
	case !match(s.x.Types, out, s.c.Results()):
		return api.ErrType
	}
	return s.ends(in)
}
