package stack

import (
	"ratchet/api"
	"ratchet/opcode"
	"ratchet/types"
)

// frame is a block that has not been left.
type frame struct {
	op      int
	in, out []api.ValType
	height  int  // how many operands there were at its beginning
	fresh   int  // how many locals had been set by then, beside those that were set at first
	dead    bool // its rest is not reached
}

// copied tells a frame with lists of its own: callers may change what they hand in, and what they are answered.
func (f frame) copied() frame {
	f.in, f.out = copied(f.in), copied(f.out)
	return f
}

// label tells the types that a branch to the frame takes along.
func (f frame) label() []api.ValType {
	if f.op == opcode.Loop {
		return f.in
	}
	return f.out
}

// local is a local's type, and whether it is set.
type local struct {
	kind api.ValType
	set  bool
}

// localsOf tells a function's locals as they are at its beginning.
func localsOf(params, locals []api.ValType) []local {
	out := make([]local, 0, len(params)+len(locals))
	for _, v := range params {
		out = append(out, local{kind: v, set: true})
	}
	for _, v := range locals {
		out = append(out, local{kind: v, set: types.Default(v)})
	}
	return out
}

// groupsOf tells groups whose lists are all of their own.
func groupsOf(l []api.RecType) []api.RecType {
	out := copied(l)
	for g := range out {
		out[g].Types = copied(out[g].Types)
		for n := range out[g].Types {
			s := &out[g].Types[n]
			s.Supers = copied(s.Supers)
			s.Comp.Params, s.Comp.Results = copied(s.Comp.Params), copied(s.Comp.Results)
			s.Comp.Fields = copied(s.Comp.Fields)
		}
	}
	return out
}
