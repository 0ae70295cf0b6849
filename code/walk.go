package code

import (
	"iter"

	"ratchet/api"
	"ratchet/nesting"
	"ratchet/opcode"
)

// stretch is what is left of a list that is gone through.
type stretch struct {
	left  []api.Instr
	depth int  // how many blocks it stands in
	mark  bool // it is an else or end that its block brings, and that stands in no list
}

// walk goes over instructions, each ahead of those that stand in it, which within puts behind the lists that are open, the first one last.
func walk(l []api.Instr, within func(open []stretch, i api.Instr, s stretch) []stretch) iter.Seq2[api.Instr, stretch] {
	return func(yield func(api.Instr, stretch) bool) {
		open := []stretch{{left: l}}
		for len(open) > 0 {
			last := len(open) - 1
			s := open[last]
			if len(s.left) == 0 {
				open = open[:last]
				continue
			}
			i := s.left[0]
			open[last].left = s.left[1:]
			if !yield(i, s) {
				return
			}
			open = within(open, i, s)
		}
	}
}

// everyOne goes over all that stands in a list, whether it may stand there or not.
func everyOne(l []api.Instr) iter.Seq2[api.Instr, stretch] {
	return walk(l, func(open []stretch, i api.Instr, s stretch) []stretch {
		if nesting.Has(i.Op) {
			s.depth++
		}
		return append(open, stretch{left: i.Else, depth: s.depth}, stretch{left: i.Body, depth: s.depth})
	})
}

// asWritten goes over what is written of a list: elses and ends too, and only blocks have others in them.
func asWritten(l []api.Instr) iter.Seq2[api.Instr, stretch] {
	turn := stretch{left: []api.Instr{{Op: opcode.Else}}, mark: true}
	end := stretch{left: []api.Instr{{Op: opcode.End}}, mark: true}
	return walk(l, func(open []stretch, i api.Instr, s stretch) []stretch {
		if !nesting.Has(i.Op) {
			return open
		}
		open = append(open, end)
		if i.HasElse {
			open = append(open, stretch{left: i.Else}, turn)
		}
		return append(open, stretch{left: i.Body})
	})
}

// size is how much instructions come to.
type size struct {
	count int // of them all
	depth int // of blocks within one another
}

// add takes an instruction that stands in so many blocks.
func (s *size) add(i api.Instr, depth int) {
	if i.Op != opcode.Else && i.Op != opcode.End {
		s.count++
	}
	if nesting.Has(i.Op) {
		s.depth = max(s.depth, depth+1)
	}
}

func (s size) overLimits() bool { return s.count > api.MaxBody || s.depth > api.MaxNest }

func sizeOf(l []api.Instr) size {
	var all size
	for i, s := range everyOne(l) {
		all.add(i, s.depth)
	}
	return all
}

// overLimits looks no further than to the first that passes a limit.
func overLimits(l []api.Instr) bool {
	var all size
	for i, s := range everyOne(l) {
		if all.add(i, s.depth); all.overLimits() {
			return true
		}
	}
	return false
}
