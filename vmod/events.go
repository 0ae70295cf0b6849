package vmod

import (
	"iter"

	"ratchet/api"
	"ratchet/nesting"
)

// What may come next in a body.
const (
	begins = iota // an instruction
	turns         // the second part of the last block that is open
	closes        // the end of that block, or of the body
)

// event is what comes next in a body.
type event struct {
	kind   int
	instr  api.Instr // that begins
	number int       // of the instruction that begins, else of the one that begins next
}

// part is a list of instructions that is gone through.
type part struct {
	left      []api.Instr // that have not begun yet
	second    []api.Instr // what stands behind the list in the same block
	hasSecond bool
}

// events goes over what comes in a body, up to its end: each instruction ahead of those that stand in it, whether they may stand there or not.
func events(l []api.Instr) iter.Seq[event] {
	return func(yield func(event) bool) {
		number := 0
		open := []part{{left: l}}
	parts:
		for len(open) > 0 {
			p := &open[len(open)-1]
			for len(p.left) > 0 {
				i := p.left[0]
				p.left = p.left[1:]
				if !yield(event{begins, i, number}) {
					return
				}
				number++
				if hasParts(i) {
					open = append(open, part{i.Body, i.Else, i.HasElse || len(i.Else) > 0})
					continue parts
				}
			}
			kind := closes
			if p.hasSecond {
				kind = turns
				*p = part{left: p.second}
			} else {
				open = open[:len(open)-1]
			}
			if !yield(event{kind: kind, number: number}) {
				return
			}
		}
	}
}

// hasParts tells whether an instruction is a block, or has others in it where it may not.
func hasParts(i api.Instr) bool { return nesting.Has(i.Op) || !nesting.Fits(i) }

// instructions goes over all that stands in a list, nested ones too.
func instructions(l []api.Instr) iter.Seq[api.Instr] {
	return func(yield func(api.Instr) bool) {
		for e := range events(l) {
			if e.kind == begins && !yield(e.instr) {
				return
			}
		}
	}
}
