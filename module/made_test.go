package module_test

import (
	"bytes"
	"math"
	"math/rand"

	"ratchet/api"
	"ratchet/leb"
)

// wrong is bytes that can't stand where a part does, with the fault and its place from the part's beginning on.
type wrong struct {
	b  []byte
	at int
	e  api.Errno
}

// size is where a body says how long it is, and in how many bytes.
type size struct{ at, width int }

// part is where something stands in a section's contents, and what can't stand there.
type part struct {
	at     int
	within size // the body that it stands in; of another part none
	wrongs []wrong
}

// section is a section that was made.
type section struct {
	id       int
	name     string
	contents []byte
	parts    []part
}

// maker makes modules beside their sections, in bytes that may be longer than need be.
type maker struct {
	*rand.Rand
	b         []byte
	parts     []part
	within    size
	withCount bool
}

func newMaker(seed int64) *maker { return &maker{Rand: rand.New(rand.NewSource(seed))} }

// stands marks what can't stand where the next bytes do.
func (m *maker) stands(l ...[]wrong) {
	p := part{at: len(m.b), within: m.within}
	for _, w := range l {
		p.wrongs = append(p.wrongs, w...)
	}
	m.parts = append(m.parts, p)
}

// form is that each of these rows of bytes is malformed from its beginning on.
func form(l ...string) []wrong {
	var out []wrong
	for _, digits := range l {
		out = append(out, wrong{bin(digits), 0, api.ErrForm})
	}
	return out
}

func notU32() []wrong {
	return []wrong{{bin("80 80 80 80 10"), 4, api.ErrForm}, {bin("ff ff ff ff ff"), 4, api.ErrForm}}
}

// over is each number above a limit.
func over(limit uint64) []wrong {
	return []wrong{{leb.PutU(limit + 1), 0, api.ErrLong}, {longer(leb.PutU(limit+1), 5), 0, api.ErrLong}, {leb.PutU(math.MaxUint32), 0, api.ErrLong}}
}

// u32 writes a number in its shortest bytes, or in more.
func (m *maker) u32(n uint32) uint32 {
	b := leb.PutU(uint64(n))
	if m.Intn(3) == 0 {
		b = longer(b, len(b)+m.Intn(6-len(b)))
	}
	m.b = append(m.b, b...)
	return n
}

// index makes the number of something.
func (m *maker) index() uint32 {
	m.stands(notU32())
	return m.u32([]uint32{0, 1, 2, 11, 127, 128, 9999, 1 << 31, math.MaxUint32}[m.Intn(9)])
}

func (m *maker) typeNumber() int {
	m.stands(notU32(), over(math.MaxInt32))
	return int(m.u32([]uint32{0, 1, 127, 128, 9999, math.MaxInt32}[m.Intn(6)]))
}

// number makes how many elements follow.
func (m *maker) number(limit uint64) int {
	m.stands(notU32(), over(limit))
	return int(m.u32(uint32(m.Intn(4))))
}

// sample is something beside its bytes.
type sample[T any] struct {
	digits string
	is     T
}

// put makes one of these.
func put[T any](m *maker, l []sample[T]) T {
	s := l[m.Intn(len(l))]
	m.b = append(m.b, bin(s.digits)...)
	return s.is
}

// vector makes so many elements as are told ahead of them.
func vector[T any](m *maker, limit uint64, one func() T) []T {
	var l []T
	for range m.number(limit) {
		l = append(l, one())
	}
	return l
}

func (m *maker) group() api.RecType {
	m.stands(form("00", "61", "7b"), []wrong{{bin("4e ff ff ff ff 0f"), 1, api.ErrLong}, {bin("60 01 7b"), 2, api.ErrSimd}, {bin("4e 02 5f 00 00"), 4, api.ErrForm}})
	return put(m, []sample[api.RecType]{
		{"60 80 00 00", nothing()},
		{"4e 00", api.RecType{Explicit: true}},
		{"4e 82 00 50 00 5f 00 4f 01 03 5e 78 01", api.RecType{Explicit: true, Types: []api.SubType{
			{Comp: api.CompType{Kind: api.CStruct}}, {Final: true, Supers: []int{3}, Comp: api.CompType{Kind: api.CArray, Fields: []api.Field{{Type: num(api.T8), Mut: true}}}},
		}}},
		{"60 01 7f 02 7e 63 6e", api.RecType{Types: []api.SubType{{Final: true, Comp: api.CompType{Kind: api.CFunc, Params: list(num(api.TI32)), Results: list(num(api.TI64), refNull(api.HAny))}}}}},
	})
}

func tableTypes() []sample[api.TableType] {
	return []sample[api.TableType]{
		{"70 00 81 00", api.TableType{Elem: refNull(api.HFunc), Limits: api.Limits{Min: 1}}},
		{"64 00 05 01 02", api.TableType{Elem: ref(0), Limits: api.Limits{Wide: true, Min: 1, Max: 2, HasMax: true}}},
	}
}

func globalTypes() []sample[api.GlobalType] {
	return []sample[api.GlobalType]{
		{"7f 00", api.GlobalType{Type: num(api.TI32)}}, {"64 0b 01", api.GlobalType{Type: ref(11), Mut: true}},
	}
}

func limits() []sample[api.Limits] {
	return []sample[api.Limits]{
		{"00 00", api.Limits{}}, {"04 80 80 80 80 10", api.Limits{Wide: true, Min: 1 << 32}}, {"01 80 00 0b", api.Limits{Max: 11, HasMax: true}},
	}
}

func (m *maker) limits() api.Limits {
	m.stands(form("02", "80"))
	return put(m, limits())
}

func (m *maker) globalType() api.GlobalType {
	m.stands(form("00", "78"), []wrong{{bin("7b"), 0, api.ErrSimd}, {bin("7f 02"), 1, api.ErrForm}})
	return put(m, globalTypes())
}

func (m *maker) tag() int {
	m.stands(form("01", "80"))
	m.b = append(m.b, 0)
	return m.typeNumber()
}

func wrongNames() []wrong {
	return append(append(over(api.MaxNames), notU32()...), wrong{bin("01 ff"), 1, api.ErrName}, wrong{bin("02 e2 82"), 3, api.ErrName})
}

func (m *maker) name() string {
	m.stands(wrongNames())
	return put(m, []sample[string]{{"00", ""}, {"81 00 61", "a"}, {"03 e2 82 ac", "€"}, {"04 6e 61 6d 65", "name"}})
}

func (m *maker) kind() int {
	m.stands(form("05", "80"))
	k := m.Intn(5)
	m.b = append(m.b, byte(k))
	return k
}

func (m *maker) importOf() api.Import {
	i := api.Import{Module: m.name(), Name: m.name()}
	i.Extern.Kind = m.kind()
	switch i.Extern.Kind {
	case api.KFunc:
		i.Extern.Type = m.typeNumber()
	case api.KTable:
		i.Extern.Table = m.tableType()
	case api.KMemory:
		i.Extern.Memory = m.limits()
	case api.KGlobal:
		i.Extern.Global = m.globalType()
	default:
		i.Extern.Type = m.tag()
	}
	return i
}

func (m *maker) export() api.Export {
	return api.Export{Name: m.name(), Kind: m.kind(), At: m.index()}
}

func (m *maker) tableType() api.TableType {
	m.stands(form("00", "7f", "7b"), []wrong{{bin("63 7f"), 1, api.ErrForm}, {bin("70 02"), 1, api.ErrForm}})
	return put(m, tableTypes())
}

func (m *maker) table() api.Table {
	if m.Intn(2) == 0 {
		m.stands([]wrong{{bin("40 01"), 1, api.ErrForm}, {bin("40 80 00"), 1, api.ErrForm}})
		return api.Table{Type: m.tableType()}
	}
	m.b = append(m.b, 0x40)
	m.stands(form("01", "40", "70", "80"))
	m.b = append(m.b, 0)
	return api.Table{Type: m.tableType(), HasInit: true, Init: m.expression()}
}

func block(op int, l ...api.Instr) api.Instr {
	return api.Instr{Op: op, Block: api.Block{Type: -1}, Body: l}
}

func (m *maker) expression() []api.Instr {
	m.stands(form("05", "06", "ff"), []wrong{{bin("fd 0b"), 0, api.ErrSimd}, {bin("02 7b"), 1, api.ErrSimd}, {bin("41 80 80 80 80 10"), 5, api.ErrForm}, {bin("01 01 05"), 2, api.ErrForm}})
	return put(m, []sample[[]api.Instr]{
		{"0b", nil},
		{"41 87 00 0b", list(constant(7))},
		{"d2 8b 00 0b", funcs(11)[0]},
		{"02 40 03 40 0b 01 0b 41 0b 0b", list(block(2, block(3), api.Instr{Op: 1}), constant(11))},
	})
}

// body makes a body; it says how long it is in at least two bytes, so that there is room for another size.
func (m *maker) body() api.Func {
	m.stands(notU32())
	at, width := len(m.b), 2+m.Intn(4)
	m.b = append(m.b, make([]byte, width)...)
	m.within = size{at, width}
	f := api.Func{Locals: vector(m, api.MaxLocals, func() api.Local {
		m.stands(notU32(), over(api.MaxLocals))
		n := m.u32(uint32(m.Intn(200)))
		m.stands(form("00", "78"), []wrong{{bin("7b"), 0, api.ErrSimd}})
		return api.Local{Count: n, Type: put(m, []sample[api.ValType]{{"7f", num(api.TI32)}, {"64 0b", ref(11)}})}
	})}
	if m.withCount && m.Intn(2) == 0 {
		f.Body = put(m, []sample[[]api.Instr]{
			{"fc 88 00 0b 00 0b", list(api.Instr{Op: 0xfc08, X: 11})},
			{"02 40 fc 09 05 0b 0b", list(block(2, api.Instr{Op: 0xfc09, X: 5}))},
		})
	} else {
		f.Body = m.expression()
	}
	m.within.fit(m.b)
	m.stands([]wrong{{[]byte{0}, 0, api.ErrMore}, {bin("0b ff"), 0, api.ErrMore}})
	m.within = size{}
	return f
}

// fit puts the size of a body that ends with the bytes.
func (s size) fit(b []byte) {
	copy(b[s.at:], longer(leb.PutU(uint64(len(b)-s.at-s.width)), s.width))
}

func (m *maker) elem() api.Elem {
	m.stands(form("08", "88 00", "ff ff ff ff 0f"), notU32())
	n := m.u32(uint32(m.Intn(8)))
	e := api.Elem{Mode: []int{api.Active, api.Passive, api.Active, api.Declared}[n%4]}
	if n == 2 || n == 6 {
		e.Table = m.index()
	}
	if e.Mode == api.Active {
		e.Offset = m.expression()
	}
	switch n {
	case 1, 2, 3:
		m.stands(form("01", "70", "80"))
		m.b = append(m.b, 0)
		fallthrough
	case 0:
		e.Type = ref(api.HFunc)
	case 4:
		e.Type = refNull(api.HFunc)
	default:
		m.stands(form("00", "7f", "7b"), []wrong{{bin("64 7b"), 1, api.ErrForm}})
		e.Type = put(m, []sample[api.ValType]{{"70", refNull(api.HFunc)}, {"64 70", ref(api.HFunc)}, {"63 80 00", refNull(0)}})
	}
	e.Init = vector(m, api.MaxFuncs, func() []api.Instr {
		if n < 4 {
			return funcs(m.index())[0]
		}
		return m.expression()
	})
	return e
}

func (m *maker) data() api.Data {
	m.stands(form("03", "83 00", "ff ff ff ff 0f"), notU32())
	n := m.u32(uint32(m.Intn(3)))
	d := api.Data{Mode: []int{api.Active, api.Passive, api.Active}[n]}
	if n == 2 {
		d.Memory = m.index()
	}
	if n != 1 {
		d.Offset = m.expression()
	}
	m.stands(notU32())
	d.Init = m.junk()
	m.u32(uint32(len(d.Init)))
	m.b = append(m.b, d.Init...)
	return d
}

// junk is bytes that may stand anywhere, and mean nothing.
func (m *maker) junk() []byte {
	out := make([]byte, m.Intn(8))
	m.Read(out)
	return out
}

// contents makes those of a section.
func (m *maker) contents(id int, x *api.Module) {
	switch id {
	case types:
		x.Types = vector(m, api.MaxTypes, m.group)
	case imports:
		x.Imports = vector(m, api.MaxFuncs, m.importOf)
	case functions:
		x.Funcs = vector(m, api.MaxFuncs, func() api.Func { return api.Func{Type: m.typeNumber()} })
	case tables:
		x.Tables = vector(m, api.MaxTables, m.table)
	case memories:
		x.Memories = vector(m, api.MaxTables, m.limits)
	case tags:
		x.Tags = vector(m, api.MaxFuncs, m.tag)
	case globals:
		x.Globals = vector(m, api.MaxFuncs, func() api.Global { return api.Global{Type: m.globalType(), Init: m.expression()} })
	case exports:
		x.Exports = vector(m, api.MaxFuncs, m.export)
	case start:
		x.HasStart, x.Start = true, m.index()
	case elements:
		x.Elems = vector(m, api.MaxFuncs, m.elem)
	case bodies:
		m.stands(notU32(), over(api.MaxFuncs))
		m.u32(uint32(len(x.Funcs)))
		for n := range x.Funcs {
			f := m.body()
			x.Funcs[n].Locals, x.Funcs[n].Body = f.Locals, f.Body
		}
	case datas:
		x.Datas = vector(m, api.MaxFuncs, m.data)
	}
}

// made makes a module, and its sections. Custom ones stand between the others.
func (m *maker) made() (api.Module, []section) {
	var x api.Module
	var l []section
	last := 0
	m.withCount = m.Intn(2) == 0
	counted := -1
	for _, id := range append([]int{custom}, inOrder()...) {
		for id != custom && m.Intn(4) == 0 {
			c := api.Custom{Name: []string{"", "a", "name", "€"}[m.Intn(4)], Bytes: m.junk(), After: last}
			x.Customs = append(x.Customs, c)
			l = append(l, section{id: custom, name: c.Name, contents: c.Bytes})
		}
		if id == custom || id == count && !m.withCount || m.leftOut(id, x) {
			continue
		}
		m.b, m.parts = nil, nil
		if id == count {
			x.HasCount, counted = true, len(l)
		}
		m.contents(id, &x)
		l = append(l, section{id: id, contents: m.b, parts: m.parts})
		last = id
	}
	if counted >= 0 {
		m.b, m.parts = nil, nil
		m.stands(notU32())
		m.u32(uint32(len(x.Datas)))
		l[counted].contents, l[counted].parts = m.b, m.parts
	}
	return x, l
}

// leftOut is by chance, but where a number asks for the section.
func (m *maker) leftOut(id int, x api.Module) bool {
	switch {
	case id == bodies && len(x.Funcs) > 0:
		return false
	case id == count:
		return false
	}
	return m.Intn(4) == 0
}

// laid is the bytes of sections, and where the contents of one of them begin.
func (m *maker) laid(l []section, n int) ([]byte, int) {
	m.b = head()
	at := 0
	for k, s := range l {
		contents := s.contents
		if s.id == custom {
			contents = join(leb.PutU(uint64(len(s.name))), []byte(s.name), contents)
		}
		m.b = append(m.b, byte(s.id))
		m.u32(uint32(len(contents)))
		if k == n {
			at = len(m.b)
		}
		m.b = append(m.b, contents...)
	}
	return m.b, at
}

// with is sections of which one has other contents.
func with(l []section, n int, contents []byte) []section {
	out := append([]section(nil), l...)
	out[n].contents = contents
	return out
}

// instead is a section's contents up to a part, what can't stand there, and anything behind; a body that it stands in ends there.
func (m *maker) instead(s section, p part, w wrong) []byte {
	out := join(s.contents[:p.at], w.b, m.junk())
	if p.within.width > 0 {
		p.within.fit(out)
	}
	return out
}

// upTo is a section's contents up to a part, where a body that it stands in ends, too.
func upTo(s section, p part) []byte {
	out := bytes.Clone(s.contents[:p.at])
	if p.within.width > 0 {
		p.within.fit(out)
	}
	return out
}
