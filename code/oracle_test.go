package code_test

import (
	"ratchet/api"
	"ratchet/instr"
)

// grammar reads expressions by the chapter's words, part within part by calls of itself.
type grammar struct {
	b     []byte
	at    int
	count int
	place int
	e     api.Errno
}

func (g *grammar) fault(at int, e api.Errno) {
	g.place, g.e = at, e
}

// part reads instructions that stand in so many blocks, and what ends them.
func (g *grammar) part(depth int, mayElse bool) ([]api.Instr, int) {
	var l []api.Instr
	for {
		start := g.at
		i, next, e := instr.Read(g.b, start)
		if e != api.OK {
			g.fault(next, e)
			return nil, 0
		}
		g.at = next
		switch {
		case i.Op == 0x0b || i.Op == 0x05 && mayElse:
			return l, i.Op
		case i.Op == 0x05:
			g.fault(start, api.ErrForm)
			return nil, 0
		}
		g.count++
		isBlock := instr.Form(i.Op) == "block" || instr.Form(i.Op) == "try"
		if isBlock && depth >= 256 || g.count > 1<<18 {
			g.fault(start, api.ErrLong)
			return nil, 0
		}
		if isBlock {
			last := 0
			i.Body, last = g.part(depth+1, i.Op == 0x04)
			if g.e == api.OK && last == 0x05 {
				i.HasElse = true
				i.Else, _ = g.part(depth+1, false)
			}
		}
		if g.e != api.OK {
			return nil, 0
		}
		l = append(l, i)
	}
}

// byGrammar is what Expr should tell.
func byGrammar(b []byte, at int) ([]api.Instr, int, api.Errno) {
	g := &grammar{b: b, at: at}
	l, _ := g.part(0, false)
	if g.e != api.OK {
		return nil, g.place, g.e
	}
	return l, g.at, api.OK
}
