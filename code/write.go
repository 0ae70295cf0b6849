package code

import (
	"ratchet/api"
	"ratchet/entry"
	"ratchet/instr"
	"ratchet/leb"
	"ratchet/nesting"
	"ratchet/opcode"
)

// misfit tells whether an instruction has parts that its opcode does not, or is a mark that no instruction is.
func misfit(i api.Instr) bool {
	return i.Op == opcode.Else || i.Op == opcode.End || !nesting.Fits(i)
}

func putExpression(l []api.Instr) ([]byte, api.Errno) {
	var out []byte
	for i, s := range asWritten(l) {
		if !s.mark && misfit(i) {
			return nil, api.ErrForm
		}
		b, e := instr.Write(i)
		if e != api.OK {
			return nil, e
		}
		out = append(out, b...)
	}
	return append(out, opcode.End), api.OK
}

func putLocals(l []api.Local) ([]byte, api.Errno) {
	out := leb.PutU(uint64(len(l)))
	for _, run := range l {
		b, e := entry.PutValType(run.Type)
		if e != api.OK {
			return nil, e
		}
		out = append(append(out, leb.PutU(uint64(run.Count))...), b...)
	}
	return out, api.OK
}

// total is how many locals there are, if they pass no limit. It is looked at run by run, since all together could be more than a number holds.
func total(l []api.Local) (int, bool) {
	left := uint32(api.MaxLocals)
	for _, run := range l {
		if run.Count > left {
			return 0, false
		}
		left -= run.Count
	}
	return int(api.MaxLocals - left), true
}
