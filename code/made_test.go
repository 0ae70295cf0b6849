package code_test

import (
	"bytes"
	"math"
	"math/rand"

	"ratchet/api"
	"ratchet/leb"
)

// wrong is bytes that can't stand where an instruction does, with the fault and its place from there on.
type wrong struct {
	b  []byte
	at int
	e  api.Errno
}

// part is where something stands in bytes that were made, and what can't stand there.
type part struct {
	at     int
	wrongs []wrong
}

// maker makes lists of instructions beside their bytes: those that may be longer than need be, and the shortest ones.
type maker struct {
	*rand.Rand
	loose, tight []byte
	parts        []part
	count        int
}

func newMaker(seed int64) *maker { return &maker{Rand: rand.New(rand.NewSource(seed))} }

// sample is an instruction without a body, beside its bytes.
type sample struct {
	loose, tight string
	is           api.Instr
}

// samples are instructions of each form that has no body.
func samples() []sample {
	return []sample{
		{"00", "00", of(0x00)},
		{"01", "01", of(0x01)},
		{"1a", "1a", of(0x1a)},
		{"fb 8f 00", "fb 0f", of(0xfb0f)},
		{"41 87 80 00", "41 07", constant(7)},
		{"41 7f", "41 7f", constant(math.MaxUint32)},
		{"42 8b 00", "42 0b", api.Instr{Op: 0x42, N: 0x0b}},
		{"43 05 0b 05 0b", "43 05 0b 05 0b", api.Instr{Op: 0x43, N: 0x0b050b05}},
		{"44 0b 0b 0b 0b 0b 0b 0b 0b", "44 0b 0b 0b 0b 0b 0b 0b 0b", api.Instr{Op: 0x44, N: 0x0b0b0b0b0b0b0b0b}},
		{"20 85 00", "20 05", api.Instr{Op: 0x20, X: 5}},
		{"0c 0b", "0c 0b", api.Instr{Op: 0x0c, X: 11}},
		{"11 8b 80 00 05", "11 0b 05", api.Instr{Op: 0x11, X: 11, Y: 5}},
		{"0e 02 05 0b 8b 00", "0e 02 05 0b 0b", api.Instr{Op: 0x0e, Labels: []uint32{5, 11}, X: 11}},
		{"1c 01 63 6f", "1c 01 6f", api.Instr{Op: 0x1c, Types: []api.ValType{refNull(api.HExtern)}}},
		{"28 42 00 0b", "28 02 0b", api.Instr{Op: 0x28, Mem: api.MemArg{Align: 2, Offset: 11}}},
		{"36 43 0b 05", "36 43 0b 05", api.Instr{Op: 0x36, Mem: api.MemArg{Align: 3, Mem: 11, Offset: 5}}},
		{"d0 6f", "d0 6f", api.Instr{Op: 0xd0, Types: []api.ValType{refNull(api.HExtern)}}},
		{"fb 14 8b 00", "fb 14 0b", api.Instr{Op: 0xfb14, Types: []api.ValType{ref(11)}}},
		{"fb 18 01 05 6e 6b", "fb 18 01 05 6e 6b", api.Instr{Op: 0xfb18, X: 5, Types: []api.ValType{refNull(api.HAny), ref(api.HStruct)}}},
		{"fb 08 05 0b", "fb 08 05 0b", api.Instr{Op: 0xfb08, X: 5, N: 11}},
	}
}

// kinds are block types, beside their bytes.
func kinds() []sample {
	return []sample{
		{"40", "40", api.Instr{Block: none()}},
		{"7f", "7f", api.Instr{Block: api.Block{Type: -1, Result: num(api.TI32)}}},
		{"63 6e", "6e", api.Instr{Block: api.Block{Type: -1, Result: refNull(api.HAny)}}},
		{"8b 80 00", "0b", api.Instr{Block: api.Block{Type: 11}}},
		{"05", "05", api.Instr{Block: api.Block{Type: 5}}},
	}
}

// clauses are what may stand behind a try_table's block type, beside their bytes.
func clauses() []sample {
	return []sample{
		{"80 00", "00", api.Instr{}},
		{"01 02 05", "01 02 05", api.Instr{Catches: []api.Catch{{Kind: 2, Label: 5}}}},
		{"02 00 0b 85 00 03 0b", "02 00 0b 05 03 0b", api.Instr{Catches: []api.Catch{{Kind: 0, Tag: 11, Label: 5}, {Kind: 3, Label: 11}}}},
	}
}

func (m *maker) put(s sample) api.Instr {
	m.loose = append(m.loose, bin(s.loose)...)
	m.tight = append(m.tight, bin(s.tight)...)
	return s.is
}

func (m *maker) mark(c byte) {
	m.loose = append(m.loose, c)
	m.tight = append(m.tight, c)
}

// unreadable is what no instruction is, and what no number is in one.
func unreadable() []wrong {
	return []wrong{
		{bin("06"), 0, api.ErrForm}, {bin("ff"), 0, api.ErrForm}, {bin("fb 1f"), 0, api.ErrForm}, {bin("fd 00"), 0, api.ErrSimd},
		{bin("41 80 80 80 80 10"), 5, api.ErrForm}, {bin("02 7b"), 1, api.ErrSimd}, {bin("04 78"), 1, api.ErrForm},
		{append([]byte{0x0e}, leb.PutU(api.MaxLabels+1)...), 1, api.ErrLong}, {bin("1f 40 01 04"), 3, api.ErrForm},
	}
}

// stands marks what can't stand where the next instruction does.
func (m *maker) stands(mayElse bool) {
	p := part{len(m.loose), unreadable()}
	if !mayElse {
		p.wrongs = append(p.wrongs, wrong{bin("05"), 0, api.ErrForm})
	}
	m.parts = append(m.parts, p)
}

// list makes instructions up to what ends them: an else or end, which is not made.
func (m *maker) list(depth int, mayElse bool) []api.Instr {
	var l []api.Instr
	for range m.Intn(4) {
		m.stands(mayElse)
		m.count++
		if depth == 0 || m.Intn(2) == 0 {
			l = append(l, m.put(samples()[m.Intn(len(samples()))]))
			continue
		}
		l = append(l, m.block(depth-1))
	}
	m.stands(mayElse)
	return l
}

func (m *maker) block(depth int) api.Instr {
	op := blocks()[m.Intn(4)]
	m.mark(byte(op))
	i := m.put(kinds()[m.Intn(len(kinds()))])
	if op == 0x1f {
		i.Catches = m.put(clauses()[m.Intn(len(clauses()))]).Catches
	}
	i.Op = op
	i.Body = m.list(depth, op == 0x04)
	if op == 0x04 && m.Intn(2) == 0 {
		m.mark(0x05)
		i.HasElse = true
		i.Else = m.list(depth, false)
	}
	m.mark(0x0b)
	return i
}

// made makes an expression, anew.
func (m *maker) made(depth int) []api.Instr {
	m.loose, m.tight, m.parts, m.count = nil, nil, nil, 0
	l := m.list(depth, false)
	m.mark(0x0b)
	return l
}

// instead is what was made, with something that can't stand there in the place of a part, and what stood there behind it.
func (m *maker) instead(p part, w wrong) []byte {
	out := append(bytes.Clone(m.loose[:p.at]), w.b...)
	return append(out, m.loose[p.at:]...)
}

func (m *maker) junk() []byte {
	b := make([]byte, m.Intn(4))
	m.Read(b)
	return b
}

// eachMade makes expressions of several depths.
func eachMade(seed int64, times int, see func(m *maker, l []api.Instr)) {
	m := newMaker(seed)
	for n := range times {
		see(m, m.made(n%6))
	}
}
