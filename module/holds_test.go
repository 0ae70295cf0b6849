package module_test

import (
	"bytes"
	"testing"

	"ratchet/api"
	"ratchet/module"
)

// eachMade makes modules.
func eachMade(seed int64, times int, see func(m *maker, x api.Module, l []section)) {
	m := newMaker(seed)
	for range times {
		x, l := m.made()
		see(m, x, l)
	}
}

func TestMO2Made(t *testing.T) {
	seen := map[int]int{}
	eachMade(1, 3000, func(m *maker, x api.Module, l []section) {
		b, _ := m.laid(l, -1)
		shows(t, b, x)
		for _, s := range l {
			seen[s.id]++
		}
	})
	for id := custom; id <= tags; id++ {
		if seen[id] < 1000 {
			t.Errorf("section %d was made %d times", id, seen[id])
		}
	}
}

// A section that ends early ends within something, wherever it does.
func TestMO1MadeEndsEarly(t *testing.T) {
	eachMade(2, 200, func(m *maker, _ api.Module, l []section) {
		for n, s := range l {
			if s.id == custom {
				continue
			}
			for k := range s.contents {
				b, at := m.laid(with(l, n, s.contents[:k]), n)
				refuses(t, b, at+k, api.ErrShort)
			}
			for _, p := range s.parts {
				b, at := m.laid(with(l, n, upTo(s, p)), n)
				if p.at < len(s.contents) && !endsBody(p) {
					refuses(t, b, at+p.at, api.ErrShort)
				}
			}
		}
	})
}

// endsBody tells whether a part is where a body ends: only more can be wrong there.
func endsBody(p part) bool { return p.wrongs[0].e == api.ErrMore }

func TestMO1MadeMore(t *testing.T) {
	eachMade(3, 500, func(m *maker, _ api.Module, l []section) {
		for n, s := range l {
			if s.id == custom {
				continue
			}
			for _, more := range [][]byte{{0}, {0x0b}, {0xff}, {1, 2, 3}} {
				b, at := m.laid(with(l, n, join(s.contents, more)), n)
				refuses(t, b, at+len(s.contents), api.ErrMore)
			}
		}
	})
}

// What can't stand at a part is told there, whatever stands behind it.
func TestMO1MadeWrong(t *testing.T) {
	eachMade(4, 150, func(m *maker, _ api.Module, l []section) {
		for n, s := range l {
			for _, p := range s.parts {
				for _, w := range p.wrongs {
					b, at := m.laid(with(l, n, m.instead(s, p, w)), n)
					refuses(t, b, at+p.at+w.at, w.e)
				}
			}
		}
	})
}

// Of faults in two sections the first counts.
func TestMO1MadeTwoFaults(t *testing.T) {
	some := func(m *maker, s section) (part, wrong) {
		p := s.parts[m.Intn(len(s.parts))]
		return p, p.wrongs[m.Intn(len(p.wrongs))]
	}
	eachMade(5, 1000, func(m *maker, _ api.Module, l []section) {
		if len(l) == 0 {
			return
		}
		a, b := m.Intn(len(l)), m.Intn(len(l))
		if a >= b || l[a].id == custom || l[b].id == custom {
			return
		}
		p, w := some(m, l[a])
		q, v := some(m, l[b])
		faulty := with(with(l, a, m.instead(l[a], p, w)), b, m.instead(l[b], q, v))
		bytes, at := m.laid(faulty, a)
		refuses(t, bytes, at+p.at+w.at, w.e)
	})
}

// without is a module that has no custom sections.
func without(x api.Module) api.Module {
	x.Customs = nil
	return x
}

// Custom sections have no part in anything else, nor in the other lists, nor in which fault is told.
func TestMO4Customs(t *testing.T) {
	eachMade(6, 500, func(m *maker, x api.Module, l []section) {
		var bare []section
		for _, s := range l {
			if s.id != custom {
				bare = append(bare, s)
			}
		}
		b, _ := m.laid(bare, -1)
		shows(t, b, without(x))
		if _, ok := module.Name(reads(t, b)); ok {
			t.Error("a name without a custom section")
		}
		// All contents of others may stand in one.
		var full []section
		for _, s := range bare {
			full = append(full, section{id: custom, contents: s.contents}, s, section{id: custom, name: "name", contents: b})
		}
		b, _ = m.laid(full, -1)
		got := reads(t, b)
		if told(without(got)) != told(without(x)) || len(got.Customs) != 2*len(bare) {
			t.Errorf("with custom sections: %s, not %s", brief(told(got)), brief(told(x)))
		}
		if counts(got) != counts(x) {
			t.Errorf("lists: %v, not %v", counts(got), counts(x))
		}
	})
}

// Each row of bytes is one module or has one fault, asked once or again; what is read agrees in its numbers.
func TestMO4One(t *testing.T) {
	eachMade(7, 3000, func(m *maker, _ api.Module, l []section) {
		b, _ := m.laid(l, -1)
		for range 1 + m.Intn(3) {
			b[m.Intn(len(b))] = byte(m.Intn(256))
		}
		if m.Intn(3) == 0 {
			b = b[:m.Intn(len(b)+1)]
		}
		kept := bytes.Clone(b)
		x, at, e := module.Read(b)
		y, again, f := module.Read(append(make([]byte, 0, len(b)+9), b...))
		if told(x) != told(y) || at != again || e != f {
			t.Errorf("Read(%x): %d, %d, and %d, %d", b, at, e, again, f)
		}
		if !bytes.Equal(b, kept) {
			t.Errorf("Read(%x) changes its bytes", kept)
		}
		switch e {
		case api.OK:
			if at != 0 {
				t.Errorf("Read(%x): a place %d without a fault", b, at)
			}
		case api.ErrShort, api.ErrForm, api.ErrMore, api.ErrLong, api.ErrSimd, api.ErrOrder, api.ErrName, api.ErrCount:
			if at < 0 || at > len(b) || told(x) != told(api.Module{}) {
				t.Errorf("Read(%x): %d, %d, %s", b, at, e, brief(told(x)))
			}
		default:
			t.Errorf("Read(%x): %d, %d", b, at, e)
		}
	})
}
