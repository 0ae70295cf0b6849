package instr_test

import (
	"bytes"
	"math"
	"math/rand"

	"ratchet/api"
	"ratchet/leb"
)

// wrong is bytes that can't stand where a part does, with the fault and its place from the part's beginning on.
type wrong struct {
	b  []byte
	at int
	e  api.Errno
}

// part is where something stands in bytes that were made, and what can't stand there.
type part struct {
	at     int
	wrongs []wrong
}

// maker makes instructions beside their bytes: those that may be longer than need be, and the shortest ones.
type maker struct {
	*rand.Rand
	loose, tight []byte
	parts        []part
}

func newMaker(seed int64) *maker { return &maker{Rand: rand.New(rand.NewSource(seed))} }

// stands marks what can't stand where the next bytes do.
func (m *maker) stands(l ...[]wrong) {
	p := part{at: len(m.loose)}
	for _, w := range l {
		p.wrongs = append(p.wrongs, w...)
	}
	m.parts = append(m.parts, p)
}

func (m *maker) both(b ...byte) {
	m.loose = append(m.loose, b...)
	m.tight = append(m.tight, b...)
}

// sized writes a number that is not below 0, in at most so many bytes.
func (m *maker) sized(shortest []byte, most int) {
	size := len(shortest)
	if m.Intn(3) == 0 {
		size += m.Intn(most - size + 1)
	}
	m.loose = append(m.loose, longer(shortest, size)...)
	m.tight = append(m.tight, shortest...)
}

// form is that each of these bytes is malformed.
func form(l ...byte) []wrong {
	var out []wrong
	for _, c := range l {
		out = append(out, wrong{[]byte{c}, 0, api.ErrForm})
	}
	return out
}

func simd(c byte) []wrong { return []wrong{{[]byte{c}, 0, api.ErrSimd}} }

// notU32 is what no u32 is; those below likewise.
func notU32() []wrong {
	return []wrong{{bin("80 80 80 80 10"), 4, api.ErrForm}, {bin("ff ff ff ff ff"), 4, api.ErrForm}}
}

func notS32() []wrong {
	return []wrong{{bin("80 80 80 80 70"), 4, api.ErrForm}, {bin("ff ff ff ff 0f"), 4, api.ErrForm}, {bin("ff ff ff ff ff"), 4, api.ErrForm}}
}

func notS33() []wrong {
	return []wrong{{bin("80 80 80 80 50"), 4, api.ErrForm}, {bin("80 80 80 80 10"), 4, api.ErrForm}, {bin("ff ff ff ff ff"), 4, api.ErrForm}}
}

func notU64() []wrong {
	return []wrong{{bin("80 80 80 80 80 80 80 80 80 02"), 9, api.ErrForm}, {bin("ff ff ff ff ff ff ff ff ff ff"), 9, api.ErrForm}}
}

func notS64() []wrong {
	return []wrong{{bin("80 80 80 80 80 80 80 80 80 01"), 9, api.ErrForm}, {bin("ff ff ff ff ff ff ff ff ff 7e"), 9, api.ErrForm}}
}

// over is each number above a limit.
func over(limit uint64) []wrong {
	return []wrong{{leb.PutU(limit + 1), 0, api.ErrLong}, {longer(leb.PutU(limit+1), 5), 0, api.ErrLong}, {leb.PutU(math.MaxUint32), 0, api.ErrLong}}
}

func below0() []wrong {
	return []wrong{{bin("ff 7f"), 0, api.ErrForm}, {bin("f0 7f"), 0, api.ErrForm}, {bin("80 80 80 80 70"), 0, api.ErrForm}}
}

// noOpcodes are bytes with which no instruction begins.
func noOpcodes() []wrong {
	out := append(form(0x06, 0x07, 0x09, 0x16, 0x19, 0x1d, 0x1e, 0x27, 0xc5, 0xcf, 0xd7, 0xfa, 0xfe, 0xff), simd(0xfd)...)
	for _, s := range []string{"fb 1f", "fb 7f", "fb 80 02", "fb 88 82 00", "fb ff ff ff ff 0f", "fc 12", "fc 80 02", "fc 80 80 04"} {
		out = append(out, wrong{bin(s), 0, api.ErrForm})
	}
	return append(out, wrong{bin("fb 80 80 80 80 10"), 5, api.ErrForm}, wrong{bin("fc ff ff ff ff ff"), 5, api.ErrForm})
}

func (m *maker) opcode(op int) {
	m.stands(noOpcodes())
	if op < 256 {
		m.both(byte(op))
		return
	}
	m.both(byte(op >> 8))
	m.stands(notU32())
	m.sized(leb.PutU(uint64(op&255)), 5)
}

func (m *maker) u32() uint32 {
	m.stands(notU32())
	n := []uint32{0, 1, 2, 63, 64, 127, 128, 16383, 16384, 1 << 31, math.MaxUint32, m.Uint32()}[m.Intn(12)]
	m.sized(leb.PutU(uint64(n)), 5)
	return n
}

// count makes how many parts follow.
func (m *maker) count(limit uint64) int {
	m.stands(over(limit), notU32())
	n := m.Intn(4)
	m.sized(leb.PutU(uint64(n)), 5)
	return n
}

// number makes a type's number where bytes of types may stand too.
func (m *maker) number() int {
	n := []int{0, 1, 63, 64, 127, 128, 8191, 8192, 9999, math.MaxInt32}[m.Intn(10)]
	m.sized(leb.PutS(int64(n)), 5)
	return n
}

// abstract makes an abstract heap type, beside its byte.
func (m *maker) abstract() (int, byte) {
	code := byte(0x69 + m.Intn(12))
	return heapCodes()[code], code
}

func heapFaults() []wrong {
	return append(append(append(form(0x7b, 0x7f, 0x78, 0x40, 0x63, 0x64, 0x68, 0x75), below0()...), over(math.MaxInt32)...), notS33()...)
}

func (m *maker) heap() int {
	m.stands(heapFaults())
	if m.Intn(2) == 0 {
		return m.number()
	}
	h, code := m.abstract()
	m.both(code)
	return h
}

// value makes a value type, behind the mark of what can't stand there.
func (m *maker) value() api.ValType {
	switch m.Intn(4) {
	case 0:
		h, code := m.abstract()
		m.both(code)
		return refNull(h)
	case 1:
		m.both(0x63)
		m.stands(heapFaults())
		return refNull(m.number())
	case 2:
		m.both(0x64)
		return ref(m.heap())
	}
	code := byte(0x7c + m.Intn(4))
	m.both(code)
	return num(numCodes()[code])
}

func (m *maker) block() api.Block {
	m.stands(form(0x41, 0x62, 0x68, 0x75, 0x77, 0x78, 0x7a), simd(0x7b), below0(), over(math.MaxInt32), notS33())
	switch m.Intn(3) {
	case 0:
		m.both(0x40)
		return bare()
	case 1:
		return api.Block{Type: m.number()}
	}
	return result(m.value())
}

func (m *maker) catches() []api.Catch {
	var l []api.Catch
	for range m.count(api.MaxLabels) {
		m.stands(form(4, 5, 0x7f, 0x80, 0x83, 0xff))
		c := api.Catch{Kind: m.Intn(4)}
		m.both(byte(c.Kind))
		if c.Kind < 2 {
			c.Tag = m.u32()
		}
		c.Label = m.u32()
		l = append(l, c)
	}
	return l
}

func (m *maker) labels() []uint32 {
	var l []uint32
	for range m.count(api.MaxLabels) {
		l = append(l, m.u32())
	}
	return l
}

func (m *maker) types() []api.ValType {
	var l []api.ValType
	for range m.count(api.MaxParams) {
		m.stands(form(0, 0x40, 0x60, 0x62, 0x65, 0x68, 0x75, 0x77, 0x78, 0x7a, 0x80, 0xff), simd(0x7b))
		l = append(l, m.value())
	}
	return l
}

// mem makes where a load or store goes; that it goes to memory 0 may be told, and is told in vain.
func (m *maker) mem() api.MemArg {
	m.stands([]wrong{{bin("80 01"), 0, api.ErrForm}, {bin("ff 01"), 0, api.ErrForm}, {bin("80 82 80 80 00"), 0, api.ErrForm}, {leb.PutU(math.MaxUint32), 0, api.ErrForm}}, notU32())
	a := api.MemArg{Align: uint32(m.Intn(0x40))}
	switch m.Intn(3) {
	case 0:
		m.sized([]byte{byte(a.Align)}, 5)
	case 1:
		m.sized([]byte{byte(a.Align) | 0x40}, 5)
		tight := len(m.tight)
		if a.Mem = m.u32(); a.Mem == 0 {
			m.tight = append(m.tight[:tight-1], byte(a.Align))
		}
	default:
		tight := len(m.tight)
		m.sized([]byte{byte(a.Align) | 0x40}, 5)
		m.stands(notU32())
		m.sized([]byte{0}, 5)
		m.tight = append(m.tight[:tight], byte(a.Align))
	}
	m.stands(notU64())
	a.Offset = []uint64{0, 1, 127, 128, math.MaxUint32, 1 << 32, 1 << 63, math.MaxUint64, m.Uint64()}[m.Intn(9)]
	m.sized(leb.PutU(a.Offset), 10)
	return a
}

// signed makes a constant of so many bits; those below 0 may be longer than need be too.
func (m *maker) signed(bits, most int) uint64 {
	all := []int64{0, 1, -1, 63, 64, -64, -65, 8191, math.MaxInt32, math.MinInt32, math.MaxInt64, math.MinInt64, int64(m.Uint64())}
	n := all[m.Intn(len(all))] << (64 - bits) >> (64 - bits)
	shortest := leb.PutS(n)
	if n >= 0 {
		m.sized(shortest, most)
		return uint64(n) << (64 - bits) >> (64 - bits)
	}
	b := bytes.Clone(shortest)
	for len(b) < most && m.Intn(3) == 0 {
		b[len(b)-1] |= 0x80
		b = append(b, 0x7f)
	}
	m.loose = append(m.loose, b...)
	m.tight = append(m.tight, shortest...)
	return uint64(n) << (64 - bits) >> (64 - bits)
}

// bits makes a float's bits, NaNs among them.
func (m *maker) bits(size int) uint64 {
	b := make([]byte, size)
	m.Read(b)
	switch m.Intn(4) {
	case 0:
		b[size-1], b[size-2] = 0x7f, 0xff
	case 1:
		b = make([]byte, size)
	}
	m.both(b...)
	n := uint64(0)
	for at, c := range b {
		n |= uint64(c) << (8 * at)
	}
	return n
}

func (m *maker) reference(null bool) api.ValType {
	return api.ValType{Num: api.TRef, Null: null, Heap: m.heap()}
}

func (m *maker) branch(i *api.Instr) {
	m.stands(form(4, 5, 7, 0x7f, 0x80, 0x83, 0xff))
	flags := byte(m.Intn(4))
	m.both(flags)
	i.X = m.u32()
	i.Types = []api.ValType{m.reference(flags == 1 || flags == 3), m.reference(flags == 2 || flags == 3)}
}

// made makes an instruction of the table.
func (m *maker) made(r row) api.Instr {
	m.loose, m.tight, m.parts = nil, nil, nil
	m.opcode(r.op)
	i := api.Instr{Op: r.op}
	m.fill(&i, r.form)
	return i
}

func (m *maker) fill(i *api.Instr, form string) {
	switch form {
	case "block":
		i.Block = m.block()
	case "try":
		i.Block, i.Catches = m.block(), m.catches()
	case "x":
		i.X = m.u32()
	case "xy":
		i.X, i.Y = m.u32(), m.u32()
	case "table":
		i.Labels, i.X = m.labels(), m.u32()
	case "select":
		i.Types = m.types()
	case "mem":
		i.Mem = m.mem()
	case "i32":
		m.stands(notS32())
		i.N = m.signed(32, 5)
	case "i64":
		m.stands(notS64())
		i.N = m.signed(64, 10)
	case "f32":
		i.N = m.bits(4)
	case "f64":
		i.N = m.bits(8)
	case "heap":
		i.Types = []api.ValType{m.reference(true)}
	case "cast":
		i.Types = []api.ValType{m.reference(i.Op == 0xfb15 || i.Op == 0xfb17)}
	case "br_cast":
		m.branch(i)
	case "xn":
		i.X, i.N = m.u32(), uint64(m.u32())
	}
}

// junk is bytes that may stand anywhere, and mean nothing.
func (m *maker) junk() []byte {
	out := make([]byte, m.Intn(8))
	m.Read(out)
	return out
}

// instead is the bytes up to a part, what can't stand there, and anything behind.
func (m *maker) instead(p part, w wrong) []byte {
	return append(append(bytes.Clone(m.loose[:p.at]), w.b...), m.junk()...)
}
