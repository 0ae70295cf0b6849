package entry_test

import (
	"bytes"
	"math"
	"math/rand"
	"strings"

	"ratchet/api"
	"ratchet/leb"
)

// wrong is bytes that can't stand where a part does, with the fault and its place from the part's beginning on.
type wrong struct {
	b  []byte
	at int
	e  api.Errno
}

// part is where something stands in bytes that were made, and what can't stand there.
type part struct {
	at     int
	wrongs []wrong
}

// maker makes what can be read, beside its bytes: those that may be longer than need be, and the shortest ones.
type maker struct {
	*rand.Rand
	loose, tight []byte
	parts        []part
}

func newMaker(seed int64) *maker { return &maker{Rand: rand.New(rand.NewSource(seed))} }

func (m *maker) begin() { m.loose, m.tight, m.parts = nil, nil, nil }

// stands marks what can't stand where the next bytes do.
func (m *maker) stands(l ...[]wrong) {
	p := part{at: len(m.loose)}
	for _, w := range l {
		p.wrongs = append(p.wrongs, w...)
	}
	m.parts = append(m.parts, p)
}

func (m *maker) both(b ...byte) {
	m.loose = append(m.loose, b...)
	m.tight = append(m.tight, b...)
}

// sized writes a number that is not below 0, in at most so many bytes.
func (m *maker) sized(shortest []byte, most int) {
	size := len(shortest)
	if m.Intn(3) == 0 {
		size += m.Intn(most - size + 1)
	}
	m.loose = append(m.loose, longer(shortest, size)...)
	m.tight = append(m.tight, shortest...)
}

// form is that each of these bytes is malformed.
func form(l ...byte) []wrong {
	var out []wrong
	for _, c := range l {
		out = append(out, wrong{[]byte{c}, 0, api.ErrForm})
	}
	return out
}

func simd() []wrong { return []wrong{{[]byte{0x7b}, 0, api.ErrSimd}} }

// notU32 is what no u32 is; notS33 and notU64 likewise.
func notU32() []wrong {
	return []wrong{{bin("80 80 80 80 10"), 4, api.ErrForm}, {bin("ff ff ff ff ff"), 4, api.ErrForm}}
}

func notS33() []wrong {
	return []wrong{{bin("80 80 80 80 50"), 4, api.ErrForm}, {bin("80 80 80 80 10"), 4, api.ErrForm}, {bin("ff ff ff ff ff"), 4, api.ErrForm}}
}

func notU64() []wrong {
	return []wrong{{bin("80 80 80 80 80 80 80 80 80 02"), 9, api.ErrForm}, {bin("ff ff ff ff ff ff ff ff ff ff"), 9, api.ErrForm}}
}

// over is each number above a limit.
func over(limit uint64) []wrong {
	return []wrong{{leb.PutU(limit + 1), 0, api.ErrLong}, {longer(leb.PutU(limit+1), 5), 0, api.ErrLong}, {leb.PutU(math.MaxUint32), 0, api.ErrLong}}
}

func below0() []wrong {
	return []wrong{{bin("ff 7f"), 0, api.ErrForm}, {bin("f0 7f"), 0, api.ErrForm}, {bin("80 80 80 80 70"), 0, api.ErrForm}}
}

// number makes a type's number.
func (m *maker) number() int {
	return []int{0, 1, 2, 63, 64, 127, 128, 8191, 8192, 9999, 1 << 20, math.MaxInt32}[m.Intn(12)]
}

// signed makes a type's number where bytes of types may stand too.
func (m *maker) signed() int {
	n := m.number()
	m.sized(leb.PutS(int64(n)), 5)
	return n
}

func (m *maker) index() int {
	m.stands(over(math.MaxInt32), notU32())
	n := m.number()
	m.sized(leb.PutU(uint64(n)), 5)
	return n
}

// count makes how many parts follow.
func (m *maker) count(limit uint64) int {
	m.stands(over(limit), notU32())
	n := m.Intn(4)
	m.sized(leb.PutU(uint64(n)), 5)
	return n
}

func (m *maker) flag() bool {
	m.stands(form(2, 3, 0x7f, 0x80, 0xff))
	n := m.Intn(2)
	m.both(byte(n))
	return n == 1
}

// abstract makes an abstract heap type, beside its byte.
func (m *maker) abstract() (int, byte) {
	all := []byte{0x69, 0x6a, 0x6b, 0x6c, 0x6d, 0x6e, 0x6f, 0x70, 0x71, 0x72, 0x73, 0x74}
	code := all[m.Intn(len(all))]
	return heapCodes()[code], code
}

func (m *maker) heapFaults() []wrong {
	return append(append(append(form(0x7b, 0x7f, 0x78, 0x40, 0x63, 0x64, 0x68, 0x75), below0()...), over(math.MaxInt32)...), notS33()...)
}

func (m *maker) heapType() int {
	m.stands(m.heapFaults())
	if m.Intn(2) == 0 {
		return m.signed()
	}
	h, code := m.abstract()
	m.both(code)
	return h
}

// ref makes a reference type, behind the mark of what can't stand there.
func (m *maker) ref() api.ValType {
	h, code := m.abstract()
	switch m.Intn(4) {
	case 0:
		m.both(code)
		return refNull(h)
	case 1:
		m.loose = append(m.loose, 0x63)
		m.stands(m.heapFaults())
		m.loose = append(m.loose, code)
		m.tight = append(m.tight, code)
		return refNull(h)
	case 2:
		m.both(0x63)
		m.stands(m.heapFaults())
		return refNull(m.signed())
	}
	m.both(0x64)
	return ref(m.heapType())
}

func (m *maker) refType() api.ValType {
	m.stands(form(0, 0x40, 0x60, 0x77, 0x78, 0x7b, 0x7c, 0x7f, 0x80, 0xff))
	return m.ref()
}

// value makes a value type, behind the mark of what can't stand there.
func (m *maker) value() api.ValType {
	if m.Intn(2) == 0 {
		return m.ref()
	}
	code := []byte{0x7c, 0x7d, 0x7e, 0x7f}[m.Intn(4)]
	m.both(code)
	return num(numCodes()[code])
}

func (m *maker) valType() api.ValType {
	m.stands(form(0, 0x40, 0x60, 0x62, 0x65, 0x68, 0x75, 0x76, 0x77, 0x78, 0x79, 0x7a, 0x80, 0xff), simd())
	return m.value()
}

func (m *maker) valTypes() []api.ValType {
	var l []api.ValType
	for range m.count(api.MaxParams) {
		l = append(l, m.valType())
	}
	return l
}

func (m *maker) blockType() api.Block {
	m.stands(form(0x41, 0x62, 0x68, 0x75, 0x77, 0x78, 0x7a), simd(), below0(), over(math.MaxInt32), notS33())
	switch m.Intn(3) {
	case 0:
		m.both(0x40)
		return api.Block{Type: -1}
	case 1:
		return api.Block{Type: m.signed()}
	}
	return api.Block{Type: -1, Result: m.value()}
}

func (m *maker) field() api.Field {
	m.stands(form(0, 0x40, 0x60, 0x75, 0x76, 0x79, 0x7a, 0x80, 0xff), simd())
	if m.Intn(3) > 0 {
		return api.Field{Type: m.value(), Mut: m.flag()}
	}
	code := []byte{0x77, 0x78}[m.Intn(2)]
	m.both(code)
	return api.Field{Type: num(packedCodes()[code]), Mut: m.flag()}
}

// comp makes a composite type, behind the mark of what can't stand there.
func (m *maker) comp() api.CompType {
	switch m.Intn(3) {
	case 0:
		m.both(0x60)
		return api.CompType{Kind: api.CFunc, Params: m.valTypes(), Results: m.valTypes()}
	case 1:
		m.both(0x5e)
		return array(m.field())
	}
	m.both(0x5f)
	var l []api.Field
	for range m.count(api.MaxFields) {
		l = append(l, m.field())
	}
	return structure(l...)
}

func (m *maker) compType() api.CompType {
	m.stands(form(0, 0x40, 0x4e, 0x4f, 0x50, 0x5d, 0x61, 0x7b, 0x7f, 0xff))
	return m.comp()
}

// sub makes a type, behind the mark of what can't stand there.
func (m *maker) sub() api.SubType {
	if m.Intn(3) == 0 {
		return final(m.comp())
	}
	s := api.SubType{Final: m.Intn(2) == 0}
	m.loose = append(m.loose, 0x50)
	if s.Final {
		m.loose[len(m.loose)-1] = 0x4f
	}
	tight := len(m.tight)
	m.tight = append(m.tight, m.loose[len(m.loose)-1])
	for range m.count(api.MaxParams) {
		s.Supers = append(s.Supers, m.index())
	}
	if s.Final && s.Supers == nil {
		m.tight = m.tight[:tight]
	}
	s.Comp = m.compType()
	return s
}

func (m *maker) subType() api.SubType {
	m.stands(form(0, 0x40, 0x4e, 0x51, 0x5d, 0x61, 0x7b, 0x7f, 0xff))
	return m.sub()
}

func (m *maker) recType() api.RecType {
	m.stands(form(0, 0x40, 0x4d, 0x51, 0x5d, 0x61, 0x7b, 0x7f, 0xff))
	if m.Intn(2) == 0 {
		return alone(m.sub())
	}
	tight := len(m.tight)
	m.both(0x4e)
	g := api.RecType{Explicit: true}
	n := m.count(api.MaxTypes)
	if n == 1 {
		m.tight = m.tight[:tight]
	}
	for range n {
		g.Types = append(g.Types, m.subType())
	}
	return g
}

func (m *maker) bound(wide bool) uint64 {
	l := []uint64{0, 1, 127, 128, 65536, math.MaxUint32, 1 << 32, math.MaxUint64}
	if wide {
		m.stands(notU64())
		n := l[m.Intn(len(l))]
		m.sized(leb.PutU(n), 10)
		return n
	}
	m.stands(notU32())
	n := l[m.Intn(len(l)-2)]
	m.sized(leb.PutU(n), 5)
	return n
}

func (m *maker) limits() api.Limits {
	m.stands(form(2, 3, 6, 7, 8, 0x40, 0x80, 0x81, 0xff))
	code := []byte{0, 1, 4, 5}[m.Intn(4)]
	m.both(code)
	l := api.Limits{Wide: code >= 4, HasMax: code%4 == 1}
	l.Min = m.bound(l.Wide)
	if l.HasMax {
		l.Max = m.bound(l.Wide)
	}
	return l
}

func (m *maker) tableType() api.TableType {
	return api.TableType{Elem: m.refType(), Limits: m.limits()}
}

func (m *maker) globalType() api.GlobalType {
	return api.GlobalType{Type: m.valType(), Mut: m.flag()}
}

func (m *maker) tag() int {
	m.stands(form(1, 2, 0x7f, 0x80, 0xff))
	m.both(0)
	return m.index()
}

func (m *maker) name() string {
	m.stands(over(api.MaxNames), notU32(), []wrong{
		{bin("01 ff"), 1, api.ErrName}, {bin("02 c3 28"), 2, api.ErrName}, {bin("02 e2 82"), 3, api.ErrName}, {bin("81 80 00 80"), 3, api.ErrName},
	})
	s := []string{"", "a", "memory", "é€😀", "\x00", strings.Repeat("x", 130)}[m.Intn(6)]
	m.sized(leb.PutU(uint64(len(s))), 5)
	m.both([]byte(s)...)
	return s
}

func (m *maker) kind() int {
	m.stands(form(5, 6, 0x7f, 0x80, 0xff))
	k := m.Intn(5)
	m.both(byte(k))
	return k
}

func (m *maker) importEntry() api.Import {
	i := api.Import{Module: m.name(), Name: m.name()}
	i.Extern.Kind = m.kind()
	switch i.Extern.Kind {
	case api.KFunc:
		i.Extern.Type = m.index()
	case api.KTable:
		i.Extern.Table = m.tableType()
	case api.KMemory:
		i.Extern.Memory = m.limits()
	case api.KGlobal:
		i.Extern.Global = m.globalType()
	default:
		i.Extern.Type = m.tag()
	}
	return i
}

func (m *maker) exportEntry() api.Export {
	x := api.Export{Name: m.name(), Kind: m.kind()}
	m.stands(notU32())
	x.At = []uint32{0, 1, 127, 128, 1 << 31, math.MaxUint32}[m.Intn(6)]
	m.sized(leb.PutU(uint64(x.At)), 5)
	return x
}

// made makes what the call of that name reads.
func (m *maker) made(name string) any {
	m.begin()
	switch name {
	case "HeapType":
		return m.heapType()
	case "RefType":
		return m.refType()
	case "ValType":
		return m.valType()
	case "ValTypes":
		return m.valTypes()
	case "BlockType":
		return m.blockType()
	case "Field":
		return m.field()
	case "CompType":
		return m.compType()
	case "SubType":
		return m.subType()
	case "RecType":
		return m.recType()
	case "Limits":
		return m.limits()
	case "TableType":
		return m.tableType()
	case "GlobalType":
		return m.globalType()
	case "Tag":
		return m.tag()
	case "Import":
		return m.importEntry()
	}
	return m.exportEntry()
}

// junk is bytes that may stand anywhere, and mean nothing.
func (m *maker) junk() []byte {
	out := make([]byte, m.Intn(8))
	m.Read(out)
	return out
}

// instead is the bytes up to a part, what can't stand there, and anything behind.
func (m *maker) instead(p part, w wrong) []byte {
	return append(append(bytes.Clone(m.loose[:p.at]), w.b...), m.junk()...)
}
