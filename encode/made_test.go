package encode_test

import (
	"bytes"
	"math"
	"math/rand"

	"ratchet/api"
	"ratchet/frame"
	"ratchet/leb"
	"ratchet/section"
)

// made is a module that is put together from samples, beside what they bring into its sections.
type made struct {
	m      api.Module
	pieces map[int][]piece
}

func newMade() *made { return &made{pieces: map[int][]piece{}} }

func (x *made) lay(l ...sample) *made {
	for _, s := range l {
		s.lay(&x.m)
		for _, p := range s.pieces {
			x.pieces[p.id] = append(x.pieces[p.id], p)
		}
	}
	return x
}

// contents are those of a section in their shortest bytes, and whether it is written.
func (x *made) contents(id int) ([]byte, bool) {
	switch id {
	case section.Start:
		return leb.PutU(uint64(x.m.Start)), x.m.HasStart
	case section.Count:
		return leb.PutU(uint64(len(x.m.Datas))), x.m.HasCount
	}
	l := x.pieces[id]
	out := leb.PutU(uint64(len(l)))
	for _, p := range l {
		out = append(out, bin(p.tight)...)
	}
	return out, len(l) > 0
}

// sections are those that are to be written: a custom one comes ahead of the first section whose rank is above that of its After.
func (x *made) sections() []api.Section {
	var out []api.Section
	left := x.m.Customs
	upTo := func(rank int) {
		var later []api.Custom
		for _, c := range left {
			if frame.Rank(c.After) >= rank {
				later = append(later, c)
				continue
			}
			out = append(out, api.Section{Name: c.Name, Data: c.Bytes})
		}
		left = later
	}
	for _, id := range inOrder() {
		if b, ok := x.contents(id); ok {
			upTo(frame.Rank(id))
			out = append(out, api.Section{ID: id, Data: b})
		}
	}
	upTo(math.MaxInt)
	return out
}

// error is the first one, by the sections' order.
func (x *made) error() api.Errno {
	for _, c := range x.m.Customs {
		if c.After < 0 || c.After > 13 {
			return api.ErrForm
		}
	}
	for _, id := range inOrder() {
		for _, p := range x.pieces[id] {
			if p.e != api.OK {
				return p.e
			}
		}
	}
	if x.m.Start != 0 && !x.m.HasStart {
		return api.ErrForm
	}
	return api.OK
}

// joined is a module of sections.
func joined(l []api.Section) []byte {
	var out [][]byte
	for _, s := range l {
		if s.ID == section.Custom {
			out = append(out, note(s.Name, s.Data...))
			continue
		}
		out = append(out, sec(s.ID, s.Data))
	}
	return mod(out...)
}

// maker makes modules by chance.
type maker struct{ *rand.Rand }

func newMaker(seed int64) maker { return maker{rand.New(rand.NewSource(seed))} }

func pick[T any](m maker, l []T) T { return l[m.Intn(len(l))] }

// module makes one that is written.
func (m maker) module() *made {
	x := newMade()
	for _, l := range inOrderOf(samples()) {
		for range max(0, m.Intn(6)-2) {
			x.lay(pick(m, l))
		}
	}
	if x.m.HasStart = m.Intn(2) == 0; x.m.HasStart {
		x.m.Start = pick(m, []uint32{0, 1, 128, math.MaxUint32})
	}
	x.m.HasCount = m.Intn(2) == 0
	for range max(0, m.Intn(8)-3) {
		x.m.Customs = append(x.m.Customs, m.custom())
	}
	return x
}

func (m maker) custom() api.Custom {
	b := make([]byte, m.Intn(4))
	m.Read(b)
	return api.Custom{Name: pick(m, []string{"", "a", "name", "€"}), Bytes: b, After: m.Intn(14)}
}

// inOrderOf are lists of samples by the order of their sections, so that what is made hangs on chance alone.
func inOrderOf(by map[int][]sample) [][]sample {
	var out [][]sample
	for _, id := range inOrder() {
		if len(by[id]) > 0 {
			out = append(out, by[id])
		}
	}
	return out
}

// number is a number's bytes, more of them than need be.
func (m maker) number(n int) []byte {
	b := leb.PutU(uint64(n))
	for len(b) < 5 && m.Intn(3) == 0 {
		b[len(b)-1] |= 0x80
		b = append(b, 0)
	}
	return b
}

// loose is bytes that are read as the module: longer than need be, with sections that have no element.
func (m maker) loose(x *made) []byte {
	left := x.m.Customs
	out := mod()
	add := func(id int, contents []byte) {
		out = append(append(append(out, byte(id)), m.number(len(contents))...), contents...)
	}
	customs := func(many int) {
		for range many {
			add(section.Custom, append(append(m.number(len(left[0].Name)), left[0].Name...), left[0].Bytes...))
			left = left[1:]
		}
	}
	for _, id := range inOrder() {
		customs(m.Intn(len(left)/2 + 1))
		if b, ok := m.looseContents(x, id); ok {
			add(id, b)
		}
	}
	customs(len(left))
	return out
}

func (m maker) looseContents(x *made, id int) ([]byte, bool) {
	switch id {
	case section.Start:
		return m.number(int(x.m.Start)), x.m.HasStart
	case section.Count:
		return m.number(len(x.m.Datas)), x.m.HasCount
	}
	l := x.pieces[id]
	parts := [][]byte{m.number(len(l))}
	for _, p := range l {
		parts = append(parts, bin(pick(m, []string{p.tight, p.loose})))
	}
	return bytes.Join(parts, nil), len(l) > 0 || m.Intn(2) == 0
}
