package encode

import (
	"ratchet/api"
	"ratchet/code"
	"ratchet/leb"
)

// part writes something that stands in a row with others.
type part func() ([]byte, api.Errno)

// all writes each of a list, up to what can't be written: then there are no bytes.
func all[T any](l []T, write func(T) ([]byte, api.Errno)) ([]byte, api.Errno) {
	var (
		out, b []byte
		e      api.Errno
	)
	for _, x := range l {
		if b, e = write(x); e != api.OK {
			goto refused
		}
		out = append(out, b...)
	}
	return out, api.OK
refused:
	return nil, e
}

// vector writes how many elements there are, and these. That number stands left of them, so that its limit comes ahead of their errors.
func vector[T any](limit int, l []T, write func(T) ([]byte, api.Errno)) ([]byte, api.Errno) {
	if len(l) > limit {
		return nil, api.ErrLong
	}
	elements := func() ([]byte, api.Errno) { return all(l, write) }
	return inTurn(number(uint64(len(l))), elements)
}

func inTurn(l ...part) ([]byte, api.Errno) {
	return all(l, func(write part) ([]byte, api.Errno) { return write() })
}

func number(n uint64) part {
	return func() ([]byte, api.Errno) { return leb.PutU(n), api.OK }
}

func index(n uint32) part { return number(uint64(n)) }

func expression(l []api.Instr) part {
	return func() ([]byte, api.Errno) { return code.PutExpr(l) }
}

// withSize is bytes behind how many they are.
func withSize(b []byte) []byte { return append(leb.PutU(uint64(len(b))), b...) }
