package vmod

import (
	"iter"

	"ratchet/api"
	"ratchet/opcode"
)

// declared tells of each of so many functions whether code may name it by ref.func.
func declared(m api.Module, count int) []bool {
	refs := make([]bool, count)
	name := func(n uint32) {
		if uint64(n) < uint64(count) {
			refs[n] = true
		}
	}
	for l := range declaring(m) {
		for i := range instructions(l) {
			if i.Op == opcode.RefFunc {
				name(i.X)
			}
		}
	}
	for _, x := range m.Exports {
		if x.Kind == api.KFunc {
			name(x.At)
		}
	}
	return refs
}

// declaring goes over the expressions in which naming a function is enough for it to be declared.
func declaring(m api.Module) iter.Seq[[]api.Instr] {
	return func(yield func([]api.Instr) bool) {
		for _, t := range m.Tables {
			if t.HasInit && !yield(t.Init) {
				return
			}
		}
		for _, g := range m.Globals {
			if !yield(g.Init) {
				return
			}
		}
		for _, s := range m.Elems {
			for _, l := range expressionsOf(s) {
				if !yield(l) {
					return
				}
			}
		}
	}
}

// expressionsOf tells a segment's expressions, the offset ahead, if it has one.
func expressionsOf(s api.Elem) [][]api.Instr {
	if s.Mode != api.Active {
		return s.Init
	}
	return append([][]api.Instr{s.Offset}, s.Init...)
}
