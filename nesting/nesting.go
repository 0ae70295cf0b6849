// Package nesting tells which instructions may have others in them, for the layers that read, write and check code.
package nesting

import (
	"ratchet/api"
	"ratchet/opcode"
)

// Has tells whether instructions up to an end stand behind one of that opcode.
func Has(op int) bool {
	switch op {
	case opcode.Block, opcode.Loop, opcode.If, opcode.TryTable:
		return true
	}
	return false
}

// Fits tells whether an instruction has no parts but those that one of its opcode may have.
func Fits(i api.Instr) bool {
	if i.Op == opcode.If {
		return i.HasElse || len(i.Else) == 0
	}
	return len(i.Else) == 0 && !i.HasElse && (len(i.Body) == 0 || Has(i.Op))
}
