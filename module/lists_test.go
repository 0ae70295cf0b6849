package module_test

import (
	"bytes"
	"fmt"
	"slices"
	"strings"
	"testing"

	"ratchet/api"
	"ratchet/leb"
	"ratchet/module"
)

// Custom sections stand anywhere, in their order, and say behind which one they came.
func TestMO2Customs(t *testing.T) {
	shows(t, mod(note("")), api.Module{Customs: []api.Custom{{}}})
	shows(t, mod(note("a", 1, 2)), api.Module{Customs: []api.Custom{{Name: "a", Bytes: []byte{1, 2}}}})
	shows(t, mod(bin("00 86 00 81 00 61 ff fd 0b")), api.Module{Customs: []api.Custom{{Name: "a", Bytes: []byte{0xff, 0xfd, 0x0b}}}})
	shows(t, mod(note("a", 1), note("b", 2), note("a", 3)), api.Module{Customs: []api.Custom{
		{Name: "a", Bytes: []byte{1}}, {Name: "b", Bytes: []byte{2}}, {Name: "a", Bytes: []byte{3}},
	}})
	b := append(head(), note("", 0xff)...)
	want := api.Module{HasStart: true, HasCount: true, Customs: []api.Custom{{Bytes: []byte{0xff}}}}
	for _, id := range inOrder() {
		b = append(b, sec(id, bin("00"))...)
		for n := range 2 {
			contents := []byte{byte(id), byte(n), 0x80}
			b = append(b, note("é", contents...)...)
			want.Customs = append(want.Customs, api.Custom{Name: "é", Bytes: contents, After: id})
		}
	}
	shows(t, b, want)
	// One section is passed over: the id is that of the last one that is there.
	shows(t, mod(sec(memories, bin("00")), sec(tags, bin("00")), note("x"), sec(globals, bin("00")), note("y"), sec(datas, bin("00")), note("z")), api.Module{
		Customs: []api.Custom{{Name: "x", After: tags}, {Name: "y", After: globals}, {Name: "z", After: datas}},
	})
}

// What is not told is zero.
func TestMO2NotThere(t *testing.T) {
	m := reads(t, head())
	if m.HasStart || m.HasCount || m.Start != 0 || told(m) != told(api.Module{}) {
		t.Errorf("a module of nothing: %+v", m)
	}
	m = reads(t, mod(sec(datas, bin("01 01 00"))))
	if m.HasCount || len(m.Datas) != 1 {
		t.Errorf("a data segment: %+v", m)
	}
}

// Each body has the type that stands at its place in the section of functions.
func TestMO2TypesOfBodies(t *testing.T) {
	var numbers, code []byte
	for n := range 300 {
		numbers = append(numbers, leb.PutU(uint64(n*7919%1000))...)
		code = append(code, bin("04 00 41")...)
		code = append(code, byte(n%64), 0x0b)
	}
	m := reads(t, mod(sec(functions, leb.PutU(300), numbers), sec(bodies, leb.PutU(300), code)))
	for n, f := range m.Funcs {
		if f.Type != n*7919%1000 || len(f.Body) != 1 || f.Body[0].N != uint64(n%64) || len(f.Locals) != 0 {
			t.Errorf("function %d: %+v", n, f)
		}
	}
	if len(m.Funcs) != 300 {
		t.Errorf("%d functions", len(m.Funcs))
	}
}

// mixed is a module with imports of all kinds, in no order, ahead of its own.
func mixed() api.Module {
	limits := func(n uint64) api.Limits { return api.Limits{Min: n} }
	table := func(n int) api.TableType { return api.TableType{Elem: ref(n), Limits: limits(uint64(n))} }
	global := func(n int) api.GlobalType { return api.GlobalType{Type: ref(n), Mut: n%2 == 1} }
	extern := func(x api.Extern) api.Import { return api.Import{Module: "m", Name: "n", Extern: x} }
	return api.Module{
		Imports: []api.Import{
			extern(api.Extern{Kind: api.KTag, Type: 1}), extern(api.Extern{Kind: api.KMemory, Memory: limits(1)}),
			extern(api.Extern{Kind: api.KFunc, Type: 2}), extern(api.Extern{Kind: api.KTable, Table: table(1)}),
			extern(api.Extern{Kind: api.KGlobal, Global: global(1)}), extern(api.Extern{Kind: api.KFunc, Type: 3}),
			extern(api.Extern{Kind: api.KTag, Type: 4}), extern(api.Extern{Kind: api.KGlobal, Global: global(2)}),
			extern(api.Extern{Kind: api.KTable, Table: table(2)}), extern(api.Extern{Kind: api.KMemory, Memory: limits(2)}),
		},
		Funcs:    []api.Func{{Type: 9}, {Type: 8}},
		Tables:   []api.Table{{Type: table(9), HasInit: true}, {Type: table(8)}},
		Memories: []api.Limits{limits(9), limits(8)},
		Tags:     []int{9, 8},
		Globals:  []api.Global{{Type: global(9)}, {Type: global(8)}},
	}
}

func TestMO3Lists(t *testing.T) {
	m := mixed()
	before := told(m)
	if l := module.Funcs(m); !slices.Equal(l, []int{2, 3, 9, 8}) {
		t.Errorf("Funcs: %v", l)
	}
	if l := module.Tags(m); !slices.Equal(l, []int{1, 4, 9, 8}) {
		t.Errorf("Tags: %v", l)
	}
	for n, want := range []int{1, 2, 9, 8} {
		if l := module.Tables(m); len(l) != 4 || l[n].Elem != ref(want) || l[n].Limits.Min != uint64(want) {
			t.Errorf("Tables: %v", l)
		}
		if l := module.Memories(m); len(l) != 4 || l[n] != (api.Limits{Min: uint64(want)}) {
			t.Errorf("Memories: %v", l)
		}
		if l := module.Globals(m); len(l) != 4 || l[n] != (api.GlobalType{Type: ref(want), Mut: want%2 == 1}) {
			t.Errorf("Globals: %v", l)
		}
	}
	if told(m) != before {
		t.Error("a list changes the module")
	}
}

// counts are how many of each the lists tell.
func counts(m api.Module) [6]int {
	return [...]int{len(module.Types(m)), len(module.Funcs(m)), len(module.Tables(m)), len(module.Memories(m)), len(module.Globals(m)), len(module.Tags(m))}
}

func TestMO3OneKind(t *testing.T) {
	if got := counts(api.Module{}); got != [6]int{} {
		t.Errorf("of nothing: %v", got)
	}
	for kind, place := range map[int]int{api.KFunc: 1, api.KTable: 2, api.KMemory: 3, api.KGlobal: 4, api.KTag: 5} {
		m := api.Module{Imports: []api.Import{{Extern: api.Extern{Kind: kind}}}}
		var want [6]int
		want[place] = 1
		if got := counts(m); got != want {
			t.Errorf("an import of kind %d: %v", kind, got)
		}
	}
	// A kind that is none is nobody's.
	for _, kind := range []int{-1, 5, 6, 1 << 40, -1 << 40} {
		m := api.Module{Imports: []api.Import{{Extern: api.Extern{Kind: kind, Type: 3}}}}
		if got := counts(m); got != [6]int{} {
			t.Errorf("an import of kind %d: %v", kind, got)
		}
	}
	for n, m := range []api.Module{
		{Types: list(nothing())}, {Funcs: make([]api.Func, 1)}, {Tables: make([]api.Table, 1)}, {Memories: make([]api.Limits, 1)},
		{Globals: make([]api.Global, 1)}, {Tags: make([]int, 1)},
	} {
		var want [6]int
		want[n] = 1
		if got := counts(m); got != want {
			t.Errorf("one of its own: %v, not %v", got, want)
		}
	}
	// Numbers are told as they stand, whatever they are.
	m := api.Module{Imports: []api.Import{{Extern: api.Extern{Type: -7}}}, Funcs: []api.Func{{Type: 1 << 40}}, Tags: []int{-1}}
	if l := module.Funcs(m); !slices.Equal(l, []int{-7, 1 << 40}) {
		t.Errorf("Funcs: %v", l)
	}
	if l := module.Tags(m); !slices.Equal(l, []int{-1}) {
		t.Errorf("Tags: %v", l)
	}
}

func TestMO3Types(t *testing.T) {
	of := func(kinds ...int) api.RecType {
		g := api.RecType{}
		for _, k := range kinds {
			g.Types = append(g.Types, api.SubType{Comp: api.CompType{Kind: k}})
		}
		return g
	}
	for _, c := range []struct {
		groups []api.RecType
		want   string
	}{
		{nil, ""},
		{[]api.RecType{of()}, ""},
		{[]api.RecType{of(1)}, "1"},
		{[]api.RecType{of(1, 2, 3)}, "1 2 3"},
		{[]api.RecType{of(3), of(), of(2, 1), of(7), of()}, "3 2 1 7"},
	} {
		var got []string
		for _, s := range module.Types(api.Module{Types: c.groups}) {
			got = append(got, fmt.Sprint(s.Comp.Kind))
		}
		if strings.Join(got, " ") != c.want {
			t.Errorf("Types(%v): %v", c.groups, got)
		}
	}
	m := reads(t, mod(sec(types, bin("03 60 01 7f 00 4e 02 5f 00 50 01 00 5e 78 01 4f 00 60 00 01 64 02"))))
	want := []api.SubType{
		{Final: true, Comp: api.CompType{Kind: api.CFunc, Params: list(num(api.TI32))}}, {Final: true, Comp: api.CompType{Kind: api.CStruct}},
		{Supers: []int{0}, Comp: api.CompType{Kind: api.CArray, Fields: []api.Field{{Type: num(api.T8), Mut: true}}}},
		{Final: true, Comp: api.CompType{Kind: api.CFunc, Results: list(ref(2))}},
	}
	if got := module.Types(m); fmt.Sprintf("%+v", got) != fmt.Sprintf("%+v", want) {
		t.Errorf("Types: %+v", got)
	}
}

// What is appended to a list, or put into it, is nobody else's.
func TestP4ListsAreNew(t *testing.T) {
	m := mixed()
	m.Types = []api.RecType{nothing(), nothing()}
	before := told(m)
	ts, fs, tags := module.Types(m), module.Funcs(m), module.Tags(m)
	ts[0].Final, fs[0], fs[3], tags[3] = false, 70, 70, 70
	module.Tables(m)[3].Limits.Min = 70
	module.Memories(m)[3].Min = 70
	module.Globals(m)[3].Mut = true
	only := api.Module{Memories: []api.Limits{{Min: 1}}, Tags: []int{1}}
	module.Memories(only)[0].Min, module.Tags(only)[0] = 70, 70
	if told(m) != before || only.Memories[0].Min != 1 || only.Tags[0] != 1 {
		t.Error("a list is the module's own")
	}
}

// Bytes of segments and custom sections are new memory, and share none among themselves.
func TestP4BytesAreNew(t *testing.T) {
	b := mod(note("a", 1, 2, 3), sec(datas, bin("02 01 03 04 05 06 01 02 07 08")), note("b", 9))
	m := reads(t, b)
	before := told(m)
	again := reads(t, b)
	for n := range b {
		b[n] = 0xee
	}
	if told(m) != before {
		t.Error("the module keeps the bytes")
	}
	for n := range again.Customs {
		again.Customs[n].Bytes = append(again.Customs[n].Bytes, 0xee)
	}
	for n := range again.Datas {
		_ = append(again.Datas[n].Init, 0xee, 0xee, 0xee)
		again.Datas[n].Init[0] = 0xdd
	}
	if told(m) != before || again.Datas[1].Init[1] != 8 {
		t.Error("two modules share bytes")
	}
}

// names is a module with a custom section of names.
func names(contents ...byte) api.Module {
	return api.Module{Customs: []api.Custom{{Name: "name", Bytes: contents}}}
}

// calls asks for a module's name, also of what is read.
func calls(t *testing.T, contents []byte, want string) {
	t.Helper()
	before := bytes.Clone(contents)
	for _, m := range []api.Module{names(contents...), reads(t, mod(note("name", contents...))), reads(t, mod(sec(types, bin("00")), note("nam"), note("name", contents...), note("name", bin("00 02 01 7a")...)))} {
		if s, ok := module.Name(m); s != want || !ok {
			t.Errorf("Name(%s): %q, %v, not %q", short(contents), s, ok, want)
		}
	}
	if !bytes.Equal(contents, before) {
		t.Errorf("Name(%s) changes the bytes", short(before))
	}
}

// callsNothing asks for none: a further section of that name is not asked.
func callsNothing(t *testing.T, contents []byte) {
	t.Helper()
	for _, m := range []api.Module{names(contents...), reads(t, mod(note("name", contents...))), reads(t, mod(note("name", contents...), note("name", bin("00 02 01 7a")...)))} {
		if s, ok := module.Name(m); s != "" || ok {
			t.Errorf("Name(%s): %q, %v", short(contents), s, ok)
		}
	}
}

func TestMO3Name(t *testing.T) {
	calls(t, bin("00 02 01 71"), "q")
	calls(t, bin("00 01 00"), "")
	calls(t, bin("00 03 02 c3 a9"), "é")
	calls(t, bin("00 82 80 80 80 00 01 71"), "q")
	calls(t, bin("00 06 81 80 80 80 00 71"), "q")
	calls(t, bin("00 02 01 71 ff ff"), "q")
	calls(t, bin("00 02 01 71 00 02 01 72"), "q")
	calls(t, bin("00 02 01 00"), "\x00")
	long := strings.Repeat("x", api.MaxNames)
	part := func(s string) []byte {
		name := append(leb.PutU(uint64(len(s))), s...)
		return join([]byte{0}, leb.PutU(uint64(len(name))), name)
	}
	calls(t, part(long), long)
	callsNothing(t, part(long+"x"))
	if s, ok := module.Name(api.Module{}); s != "" || ok {
		t.Errorf("Name of nothing: %q, %v", s, ok)
	}
	for _, name := range []string{"", "Name", "nam", "names", "name ", "\x00name"} {
		m := api.Module{Customs: []api.Custom{{Name: name, Bytes: bin("00 02 01 71")}}}
		if s, ok := module.Name(m); s != "" || ok {
			t.Errorf("Name of %q: %q, %v", name, s, ok)
		}
		m.Customs = append(m.Customs, names(bin("00 02 01 72")...).Customs...)
		if s, ok := module.Name(m); s != "r" || !ok {
			t.Errorf("Name behind %q: %q, %v", name, s, ok)
		}
	}
}

func TestMO3NameWrong(t *testing.T) {
	for _, digits := range []string{
		"01 02 01 71", "02", "ff", "80 00 02 01 71", // no part 0 ahead
		"01 00 00 02 01 71",
		"00 00", "00 00 01 71", // a part without a name
		"00 01 01 71", "00 02 02 71", "00 02 02 71 72", "00 01 80", // a name that ends behind its part
		"00 03 01 71 72", "00 02 00 71", "00 02 00 00", // something behind the name
		"00 02 01 ff", "00 03 02 c3 28", "00 04 03 ed a0 80", "00 03 02 e2 82", // no UTF-8
		"00 80 80 80 80 10 01 71", "00 ff ff ff ff 0f 01 71", "00 80 80 80 80 08 01 71", // a size that is none, or more than there is
		"00 06 80 80 80 80 10 00",
	} {
		callsNothing(t, bin(digits))
	}
	for _, digits := range []string{"00 02 01 71", "00 86 80 00 05 c3 a9 71 72 73", "00 07 86 00 61 62 63 64 65"} {
		b := bin(digits)
		for n := range b {
			callsNothing(t, b[:n])
		}
	}
	callsNothing(t, nil)
}
