package encode

import (
	"bytes"

	"ratchet/api"
	"ratchet/entry"
	"ratchet/frame"
	"ratchet/leb"
	"ratchet/section"
)

// contents are those of one section. Where they are not told the section is left out.
type contents struct {
	id    int
	told  bool
	write part
}

// contentsOf are the contents of all sections but custom ones, by their ranks.
func contentsOf(m api.Module) []contents {
	return []contents{
		{section.Type, len(m.Types) > 0, func() ([]byte, api.Errno) { return Type(m.Types) }},
		listed(section.Import, api.MaxFuncs, m.Imports, entry.PutImport),
		listed(section.Function, api.MaxFuncs, m.Funcs, putTypeNumber),
		listed(section.Table, api.MaxTables, m.Tables, putTable),
		listed(section.Memory, api.MaxTables, m.Memories, entry.PutLimits),
		listed(section.Tag, api.MaxFuncs, m.Tags, entry.PutTag),
		listed(section.Global, api.MaxFuncs, m.Globals, putGlobal),
		listed(section.Export, api.MaxFuncs, m.Exports, entry.PutExport),
		{section.Start, m.HasStart, index(m.Start)},
		listed(section.Element, api.MaxFuncs, m.Elems, Elem),
		{section.Count, m.HasCount, number(uint64(len(m.Datas)))},
		listed(section.Code, api.MaxFuncs, m.Funcs, Func),
		listed(section.Data, api.MaxFuncs, m.Datas, Data),
	}
}

// listed are the contents of a section that is one vector.
func listed[T any](id, limit int, l []T, write func(T) ([]byte, api.Errno)) contents {
	return contents{id, len(l) > 0, func() ([]byte, api.Errno) { return vector(limit, l, write) }}
}

// putTypeNumber writes what a function has in the section of functions.
func putTypeNumber(f api.Func) ([]byte, api.Errno) {
	if f.Type < 0 || f.Type > section.MaxType {
		return nil, api.ErrForm
	}
	return leb.PutU(uint64(f.Type)), api.OK
}

func putTable(t api.Table) ([]byte, api.Errno) {
	typed := func() ([]byte, api.Errno) { return entry.PutTableType(t.Type) }
	if t.HasInit {
		return inTurn(number(section.WithInit), number(0), typed, expression(t.Init))
	}
	if len(t.Init) > 0 {
		return nil, api.ErrForm
	}
	return typed()
}

func putGlobal(g api.Global) ([]byte, api.Errno) {
	typed := func() ([]byte, api.Errno) { return entry.PutGlobalType(g.Type) }
	return inTurn(typed, expression(g.Init))
}

// havePlaces tells whether each custom section stands behind something that may be a section.
func havePlaces(l []api.Custom) bool {
	for _, c := range l {
		if frame.Rank(c.After) < 0 {
			return false
		}
	}
	return true
}

// withCustoms is sections with custom ones between them. Those at one place stay in their order, whatever they were to stand behind: not all sections are written.
func withCustoms(l []api.Section, customs []api.Custom) []api.Section {
	at := make([][]api.Section, len(l)+1)
	for _, c := range customs {
		n := notAbove(l, frame.Rank(c.After))
		at[n] = append(at[n], api.Section{ID: section.Custom, Name: c.Name, Data: bytes.Clone(c.Bytes)})
	}
	out := at[0]
	for n, s := range l {
		out = append(append(out, s), at[n+1]...)
	}
	return out
}

// notAbove tells how many sections have a rank that is not above that one.
func notAbove(l []api.Section, rank int) int {
	n := 0
	for n < len(l) && frame.Rank(l[n].ID) <= rank {
		n++
	}
	return n
}
