package vmod

import (
	"errors"
	"strconv"

	"ratchet/api"
)

// stepFault is an instruction that may not stand where it does. It wraps why.
type stepFault struct {
	number int
	why    error
}

func (f stepFault) Error() string {
	return "instruction " + strconv.Itoa(f.number) + ": " + f.why.Error()
}

func (f stepFault) Unwrap() error { return f.why }

// partFault is a part of a module that may not be. It wraps why: where an instruction is to blame, a stepFault.
type partFault struct {
	section, at int
	why         error
}

func (f partFault) Error() string {
	return "section " + strconv.Itoa(f.section) + ", " + strconv.Itoa(f.at) + ": " + f.why.Error()
}

func (f partFault) Unwrap() error { return f.why }

// because makes an error of a number, of OK none.
func because(e api.Errno) error {
	if e == api.OK {
		return nil
	}
	return e
}

// reason tells the number of what goes wrong at last.
func reason(err error) api.Errno {
	e := api.OK
	errors.As(err, &e)
	return e
}

// toldStep tells an instruction's number, and what speaks against it.
func toldStep(err error) (int, api.Errno) {
	var f stepFault
	errors.As(err, &f)
	return f.number, reason(err)
}

// toldPart tells where a module's fault lies, and what it is.
func toldPart(err error) (api.Fault, api.Errno) {
	var p partFault
	if !errors.As(err, &p) {
		return api.Fault{}, api.OK
	}
	place := api.Fault{What: p.section, At: p.at, Instr: -1}
	var s stepFault
	if errors.As(err, &s) {
		place.Instr = s.number
	}
	return place, reason(err)
}

// behind counts an instruction's number on behind so many others.
func behind(others int, err error) error {
	var f stepFault
	if errors.As(err, &f) {
		f.number += others
		return f
	}
	return err
}
