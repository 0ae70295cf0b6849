package code

import (
	"ratchet/api"
	"ratchet/nesting"
	"ratchet/opcode"
)

// bare is an instruction without those in it.
func bare(i api.Instr) api.Instr {
	i.Body, i.Else, i.HasElse = nil, nil, false
	return i
}

// block is one whose end has not come yet.
type block struct {
	head api.Instr   // its first part too, if there is an else
	part []api.Instr // the part that is not at its end
}

// nester puts instructions that come one behind the other into their blocks.
type nester struct {
	open []block // from the outermost on; the first is no block, but what the whole stands in
}

func newNester() *nester { return &nester{make([]block, 1)} }

func (n *nester) depth() int { return len(n.open) - 1 }

func (n *nester) innermost() *block { return &n.open[n.depth()] }

// add takes the next instruction, an else or end too, that stands at a place.
func (n *nester) add(i api.Instr, at int) {
	switch {
	case i.Op == opcode.Else:
		n.turn(at)
	case i.Op == opcode.End:
		n.shut(at)
	case nesting.Has(i.Op):
		n.open = append(n.open, block{head: i})
	default:
		n.put(i)
	}
}

func (n *nester) put(i api.Instr) {
	b := n.innermost()
	b.part = append(b.part, i)
}

// turn goes on to an if's second part.
func (n *nester) turn(at int) {
	b := n.innermost()
	if b.head.Op != opcode.If || b.head.HasElse {
		giveUp(at, api.ErrForm)
	}
	b.head.Body, b.head.HasElse, b.part = joined(b.part), true, nil
}

// shut makes the innermost block an instruction of the one around it.
func (n *nester) shut(at int) {
	if n.depth() == 0 {
		giveUp(at, api.ErrForm)
	}
	b := *n.innermost()
	n.open = n.open[:n.depth()]
	if b.head.HasElse {
		b.head.Else = joined(b.part)
	} else {
		b.head.Body = joined(b.part)
	}
	n.put(b.head)
}

func (n *nester) whole() []api.Instr { return joined(n.innermost().part) }

// joined is a part that is at its end, without the room that it grew in: what anybody appends to it goes elsewhere.
func joined(part []api.Instr) []api.Instr { return part[:len(part):len(part)] }

// nested reads a flat list. Empty lists in it may have room, so they are not handed on.
func nested(l []api.Instr) []api.Instr {
	n := newNester()
	for at, i := range l {
		if len(i.Body) > 0 || len(i.Else) > 0 || i.HasElse {
			giveUp(at, api.ErrForm)
		}
		n.add(bare(i), at)
	}
	if n.depth() > 0 {
		giveUp(len(l), api.ErrForm)
	}
	return n.whole()
}
