package module

import (
	"ratchet/api"
	"ratchet/code"
	"ratchet/entry"
	"ratchet/opcode"
	"ratchet/section"
)

// groupByte stands ahead of how many types a group has.
const groupByte = 0x4e

// reader reads section by section. What a section says of another one is kept, until all are read.
type reader struct {
	cursor
	m         api.Module
	types     int      // of all groups so far
	functions []uint32 // their types' numbers
	count     uint32   // of data segments
}

// whole reads all sections, and holds their numbers against each other.
func whole(b []byte, sections []api.Section) api.Module {
	r := &reader{}
	contents := r.contents()
	last := section.Custom
	for _, s := range sections {
		if s.ID == section.Custom {
			r.m.Customs = append(r.m.Customs, api.Custom{Name: s.Name, Bytes: s.Data, After: last})
			continue
		}
		last = s.ID
		// The bytes are cut behind the section, so that its end is where they end, and places are those of the whole.
		r.cursor = cursor{b[:s.At+len(s.Data)], s.At}
		contents[s.ID]()
		r.end()
	}
	if !r.agrees() {
		giveUp(len(b), api.ErrCount)
	}
	for n, t := range r.functions {
		r.m.Funcs[n].Type = int(t)
	}
	return r.m
}

// contents are what reads each section, by its id.
func (r *reader) contents() [section.Tag + 1]func() {
	return [...]func(){
		section.Type:     r.groups,
		section.Import:   r.imports,
		section.Function: r.typesOfFunctions,
		section.Table:    r.tables,
		section.Memory:   r.memories,
		section.Global:   r.globals,
		section.Export:   r.exports,
		section.Start:    r.start,
		section.Element:  r.elementSegments,
		section.Code:     r.bodies,
		section.Data:     r.dataSegments,
		section.Count:    r.dataCount,
		section.Tag:      r.tags,
	}
}

func (r *reader) groups() { r.m.Types = elements(&r.cursor, api.MaxTypes, r.group) }

func (r *reader) imports() { r.m.Imports = each(&r.cursor, api.MaxFuncs, entry.Import) }

func (r *reader) typesOfFunctions() {
	r.functions = elements(&r.cursor, api.MaxFuncs, func() uint32 { return r.atMost(section.MaxType) })
}

func (r *reader) tables() { r.m.Tables = elements(&r.cursor, api.MaxTables, r.table) }

func (r *reader) memories() { r.m.Memories = each(&r.cursor, api.MaxTables, entry.Limits) }

func (r *reader) globals() { r.m.Globals = elements(&r.cursor, api.MaxFuncs, r.global) }

func (r *reader) exports() { r.m.Exports = each(&r.cursor, api.MaxFuncs, entry.Export) }

func (r *reader) start() { r.m.HasStart, r.m.Start = true, r.number() }

func (r *reader) elementSegments() { r.m.Elems = elements(&r.cursor, api.MaxFuncs, r.elementSegment) }

func (r *reader) bodies() { r.m.Funcs = elements(&r.cursor, api.MaxFuncs, r.body) }

func (r *reader) dataSegments() { r.m.Datas = elements(&r.cursor, api.MaxFuncs, r.dataSegment) }

func (r *reader) dataCount() { r.m.HasCount, r.count = true, r.number() }

func (r *reader) tags() { r.m.Tags = each(&r.cursor, api.MaxFuncs, entry.Tag) }

// group reads a group with which there may be no more types than the limit says. That stands left of the group's types, so a fault of theirs comes behind it.
func (r *reader) group() api.RecType {
	at, n := r.sizeOfGroup()
	g, place, e := entry.RecType(r.b, r.at)
	if e != api.OK && place <= at {
		giveUp(place, e)
	}
	if n > api.MaxTypes-r.types {
		giveUp(at, api.ErrLong)
	}
	if e != api.OK {
		giveUp(place, e)
	}
	r.at = place
	r.types += n
	return g
}

// sizeOfGroup tells where a group says how many types it has, and how many. One type alone says so by its first byte.
func (r *reader) sizeOfGroup() (int, int) {
	if !r.begins(groupByte) {
		return r.at, 1
	}
	// A number that can't be read is 0: it is entry's to tell.
	n, _, _ := u32(r.b, r.at+1)
	return r.at + 1, int(n)
}

func (r *reader) table() api.Table {
	if !r.begins(section.WithInit) {
		return api.Table{Type: one(&r.cursor, entry.TableType)}
	}
	r.at++
	r.zero()
	t := one(&r.cursor, entry.TableType)
	return api.Table{Type: t, HasInit: true, Init: r.expression()}
}

func (r *reader) global() api.Global {
	t := one(&r.cursor, entry.GlobalType)
	return api.Global{Type: t, Init: r.expression()}
}

func (r *reader) expression() []api.Instr { return one(&r.cursor, code.Expr) }

// body reads a function's body, which ends just where its size says; its type stands in another section.
func (r *reader) body() api.Func {
	c := r.part()
	f := api.Func{Locals: one(c, code.Locals)}
	f.Body = one(c, code.Expr)
	c.end()
	return f
}

// agrees tells whether the sections' numbers go together.
func (r *reader) agrees() bool {
	if len(r.functions) != len(r.m.Funcs) {
		return false
	}
	if r.m.HasCount {
		return uint64(r.count) == uint64(len(r.m.Datas))
	}
	return !needsCount(r.m.Funcs)
}

// needsCount tells whether a body has an instruction that names a data segment.
func needsCount(l []api.Func) bool {
	ops := [...]int{opcode.MemoryInit, opcode.DataDrop, opcode.ArrayNewData, opcode.ArrayInitData}
	for _, f := range l {
		for _, op := range ops {
			if code.Uses(f.Body, op) {
				return true
			}
		}
	}
	return false
}
