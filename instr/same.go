package instr

import (
	"slices"

	"ratchet/api"
	"ratchet/opcode"
	"ratchet/types"
)

// pair is two instructions that are held against each other.
type pair struct{ a, b api.Instr }

// fieldsSame are the methods that hold each field against the other one's.
func fieldsSame() [fieldCount]func(pair) bool {
	return [...]func(pair) bool{
		blockField:   pair.block,
		catchesField: pair.catches,
		xField:       pair.x,
		yField:       pair.y,
		labelsField:  pair.labels,
		typesField:   pair.types,
		memField:     pair.mem,
		i32Field:     pair.number,
		i64Field:     pair.number,
		f32Field:     pair.number,
		f64Field:     pair.number,
		heapField:    pair.types,
		castField:    pair.types,
		branchField:  pair.branch,
		countField:   pair.number,
	}
}

// heads tells whether all but the bodies is the same.
func (p pair) heads() bool {
	if p.a.Op != p.b.Op {
		return false
	}
	sames := fieldsSame()
	for _, f := range formFields[formOf(p.a.Op)] {
		if !sames[f](p) {
			return false
		}
	}
	return p.a.Op != opcode.If || p.a.HasElse == p.b.HasElse
}

func (p pair) block() bool {
	return p.a.Block.Type == p.b.Block.Type && types.Same(p.a.Block.Result, p.b.Block.Result)
}

func (p pair) catches() bool { return slices.Equal(p.a.Catches, p.b.Catches) }

func (p pair) x() bool { return p.a.X == p.b.X }

func (p pair) y() bool { return p.a.Y == p.b.Y }

func (p pair) labels() bool { return slices.Equal(p.a.Labels, p.b.Labels) }

func (p pair) types() bool { return slices.EqualFunc(p.a.Types, p.b.Types, types.Same) }

func (p pair) mem() bool { return p.a.Mem == p.b.Mem }

func (p pair) number() bool { return p.a.N == p.b.N }

func (p pair) branch() bool { return p.x() && p.types() }

// bodies are the lists of instructions that an instruction of that opcode has.
func bodies(i api.Instr) [][]api.Instr {
	switch i.Op {
	case opcode.Block, opcode.Loop, opcode.TryTable:
		return [][]api.Instr{i.Body}
	case opcode.If:
		return [][]api.Instr{i.Body, i.Else}
	}
	return nil
}

// same holds instructions against each other. Those within stand on a list, since calls within calls would go as deep as blocks do.
func same(a, b api.Instr) bool {
	open := []pair{{a, b}}
	for len(open) > 0 {
		p := open[len(open)-1]
		open = open[:len(open)-1]
		if !p.heads() {
			return false
		}
		others := bodies(p.b)
		for n, body := range bodies(p.a) {
			if len(body) != len(others[n]) {
				return false
			}
			for place, i := range body {
				open = append(open, pair{i, others[n][place]})
			}
		}
	}
	return true
}
