package encode_test

import (
	"bytes"
	"math"
	"math/rand"
	"reflect"
	"slices"
	"testing"

	"ratchet/api"
	"ratchet/encode"
	"ratchet/module"
	"ratchet/section"
)

// readBack is a module as it is read again: its custom sections as they were written, its groups of not just one type Explicit.
func readBack(t *testing.T, m api.Module) api.Module {
	t.Helper()
	l, e := encode.Sections(m)
	if e != api.OK {
		t.Errorf("Sections(%s): %d", brief(m), e)
	}
	m.Customs = nil
	for _, s := range l {
		if s.ID == section.Custom {
			m.Customs = append(m.Customs, api.Custom{Name: s.Name, Bytes: s.Data})
		}
	}
	m.Types = slices.Clone(m.Types)
	for n := range m.Types {
		m.Types[n].Explicit = true
	}
	return m
}

// holds asks of a module that is written whether it is read again as itself; of one whose numbers do not agree whether that is told.
func holds(t *testing.T, m api.Module, b []byte) {
	t.Helper()
	x, at, e := module.Read(b)
	if e == api.ErrCount {
		if at != len(b) || m.HasCount {
			t.Errorf("%s is read with ErrCount at %d", brief(m), at)
		}
		return
	}
	if e != api.OK || !encode.Same(x, readBack(t, m)) {
		t.Errorf("%s is written as %s, and read as %s, %d, %d", brief(m), short(b), brief(x), at, e)
	}
}

// again asks of bytes that are read whether they are written in at most as many, which are read as the same and written as themselves.
func again(t *testing.T, b []byte) []byte {
	t.Helper()
	m, _, e := module.Read(b)
	if e != api.OK {
		return nil
	}
	c, e := encode.Write(m)
	if len(c) > len(b) || e != api.OK {
		t.Errorf("%s is read, and written as %s, %d", short(b), short(c), e)
	}
	x, at, e := module.Read(c)
	if e != api.OK || !encode.Same(m, x) {
		t.Errorf("%s is read, written as %s, and read as %s, %d, %d", short(b), short(c), brief(x), at, e)
	}
	gives(t, encode.Write, x, c)
	if n, e := encode.Size(m); n != len(c) || e != api.OK {
		t.Errorf("Size of what %s is read as: %d, %d, not %d", short(b), n, e, len(c))
	}
	return c
}

// What is made is read again; longer bytes that are read as the same are written in its bytes.
func TestP124Made(t *testing.T) {
	m := newMaker(5)
	for range 3000 {
		x := m.module()
		b, _ := encode.Write(x.m)
		holds(t, x.m, b)
		again(t, b)
		loose := m.loose(x)
		read, at, e := module.Read(loose)
		if e != api.OK || !encode.Same(encode.Strip(read), encode.Strip(readBack(t, x.m))) {
			t.Fatalf("%s is read as %s, %d, %d, not %s", short(loose), brief(read), at, e, brief(x.m))
		}
		agree(t, "custom sections", true, api.Module{Customs: read.Customs}, api.Module{Customs: x.m.Customs})
		again(t, loose)
		bare, _ := encode.Write(encode.Strip(read))
		gives(t, encode.Write, encode.Strip(x.m), bare)
	}
}

// The groups of a module that says nothing of how they were written are read as Explicit, if they have not just one type.
func TestP124Explicit(t *testing.T) {
	for _, explicit := range []bool{false, true} {
		for n := range 4 {
			m := api.Module{Types: list(api.RecType{Types: many(nothing(), n), Explicit: explicit})}
			b, _ := encode.Write(m)
			holds(t, m, b)
			x, _, _ := module.Read(b)
			agree(t, "read again", explicit || n == 1, m, x)
			if len(x.Types) != 1 || x.Types[0].Explicit != (n != 1) {
				t.Errorf("%d types: %s", n, brief(x))
			}
		}
	}
}

// Custom sections of sections that are not written come in another order than in the module; from then on it stays.
func TestP124Customs(t *testing.T) {
	m := api.Module{HasStart: true, Customs: letters(12, 2, 8, 13, 0)}
	b, e := encode.Write(m)
	if want := mod(note("b", 1), note("d", 3), note("e", 4), bin("08 01 00"), note("a", 0), note("c", 2)); !bytes.Equal(b, want) || e != api.OK {
		t.Errorf("%s, %d, not %s", short(b), e, short(want))
	}
	holds(t, m, b)
	x, _, _ := module.Read(b)
	agree(t, "in another order", false, m, x)
	gives(t, encode.Write, x, b)
}

// Only numbers that do not agree keep a module from being read again.
func TestP124Numbers(t *testing.T) {
	for _, op := range []int{0xfc08, 0xfc09, 0xfb09, 0xfb12} {
		m := api.Module{Funcs: list(api.Func{Body: list(block(api.Instr{Op: op}))})}
		b, e := encode.Write(m)
		if _, at, f := module.Read(b); e != api.OK || at != len(b) || f != api.ErrCount {
			t.Errorf("%x without a data count: %d; read: %d, %d", op, e, at, f)
		}
		m.HasCount = true
		b, _ = encode.Write(m)
		if _, _, e := module.Read(b); e != api.OK {
			t.Errorf("%x with a data count is read: %d", op, e)
		}
		holds(t, m, b)
	}
}

// At their limits lists are read again, too.
func TestP124Limits(t *testing.T) {
	for _, c := range limited() {
		m := c.of(c.limit)
		b, e := encode.Write(m)
		if e != api.OK {
			t.Errorf("section %d: %d", c.id, e)
		}
		holds(t, m, b)
		again(t, b)
	}
	for _, typed := range []api.ValType{ref(api.HFunc), refNull(api.HFunc)} {
		m := api.Module{Elems: list(api.Elem{Type: typed, Init: many(list(function(300)), api.MaxFuncs)})}
		b, _ := encode.Write(m)
		holds(t, m, b)
	}
}

// rows makes all rows of these bytes, of up to a length.
func rows(alphabet []byte, length int, see func(b []byte)) {
	level := [][]byte{nil}
	for n := 0; ; n++ {
		var next [][]byte
		for _, row := range level {
			see(row)
			if n == length {
				continue
			}
			for _, c := range alphabet {
				next = append(next, append(slices.Clone(row), c))
			}
		}
		if n == length {
			return
		}
		level = next
	}
}

// No shorter contents are read as the same: of all short ones that are read, what is written is at most as long.
func TestP124ShortRows(t *testing.T) {
	for _, c := range []struct {
		id       int
		alphabet string
		length   int
	}{
		{section.Type, "00 01 02 4e 4f 50 5f 60", 5},
		{section.Import, "00 01 02 03 04 61", 6},
		{section.Function, "00 01 80", 4},
		{section.Table, "00 01 0b 40 63 70", 6},
		{section.Memory, "00 01 02 04 05 80", 5},
		{section.Tag, "00 01 02 80", 5},
		{section.Global, "00 01 0b 7f 63 70", 6},
		{section.Export, "00 01 02 03 61 80", 5},
		{section.Start, "00 01 80", 5},
		{section.Element, "00 01 02 03 04 05 06 07 0b 64 70", 5},
		{section.Element, "00 01 05 06 0b 64 70 d2", 6},
		{section.Element, "00 01 06 0b 70 80", 7},
		{section.Count, "00 80", 5},
		{section.Code, "00 80", 5},
		{section.Data, "00 01 02 0b 80", 6},
		{section.Custom, "00 01 02 61 80", 5},
	} {
		taken := 0
		rows(bin(c.alphabet), c.length, func(row []byte) {
			if again(t, mod(sec(c.id, row))) != nil {
				taken++
			}
		})
		if taken == 0 {
			t.Errorf("section %d: none is read", c.id)
		}
	}
	// A body stands with its function's type.
	taken := 0
	rows(bin("00 01 02 03 0b 40 7f"), 5, func(row []byte) {
		if again(t, mod(bin("03 02 01 00"), sec(section.Code, bin("01"), row))) != nil {
			taken++
		}
	})
	if taken == 0 {
		t.Error("no body is read")
	}
}

// Bytes that are changed by chance, if they are still read.
func TestP124Changed(t *testing.T) {
	m := newMaker(6)
	taken := 0
	for range 20000 {
		b := m.loose(m.module())
		for range 1 + m.Intn(2) {
			b[m.Intn(len(b))] = byte(m.Intn(256))
		}
		if again(t, b) != nil {
			taken++
		}
	}
	if taken < 1000 {
		t.Errorf("only %d were read", taken)
	}
}

// wild puts anything into all fields of a value.
type wild struct{ *rand.Rand }

func (w wild) fill(v reflect.Value, depth int) {
	switch v.Kind() {
	case reflect.Struct:
		for n := range v.NumField() {
			if w.Intn(3) == 0 {
				w.fill(v.Field(n), depth)
			}
		}
	case reflect.Slice:
		if depth == 0 {
			return
		}
		n := w.Intn(3)
		v.Set(reflect.MakeSlice(v.Type(), n, n))
		for k := range n {
			w.fill(v.Index(k), depth-1)
		}
	case reflect.Bool:
		v.SetBool(w.Intn(2) == 0)
	case reflect.String:
		v.SetString([]string{"", "a", "€", "\xff"}[w.Intn(4)])
	case reflect.Int:
		v.SetInt([]int64{0, 1, 2, 3, 4, 5, 11, 0xd2, 0x41, 0xfb08, -1, -2, -12, math.MaxInt32, math.MaxInt32 + 1, math.MaxInt64, math.MinInt64}[w.Intn(17)])
	default:
		v.SetUint([]uint64{0, 1, 2, 0x40, 128, 50001, math.MaxUint32, math.MaxUint32 + 1, math.MaxUint64}[w.Intn(9)] & (1<<v.Type().Bits() - 1))
	}
}

// known are the errors that a module may be refused with.
func known() []api.Errno {
	return []api.Errno{api.OK, api.ErrArg, api.ErrLong, api.ErrForm, api.ErrName}
}

// No module, whatever stands in it, is changed, or panics, or is told of in two ways; what is written of it is read again.
func TestP1Wild(t *testing.T) {
	w := wild{rand.New(rand.NewSource(7))}
	taken := 0
	for range 60000 {
		var m api.Module
		w.fill(reflect.ValueOf(&m).Elem(), 4)
		before := told(m)
		b, e := encode.Write(m)
		c, f := encode.Write(copyOf(m))
		n, g := encode.Size(m)
		if !bytes.Equal(b, c) || e != f || n != len(b) || e != g || !slices.Contains(known(), e) || e != api.OK && b != nil {
			t.Errorf("Write(%s): %s, %d; %s, %d; %d, %d", before, short(b), e, short(c), f, n, g)
		}
		if e == api.OK {
			taken++
			holds(t, m, b)
		}
		agree(t, "itself", true, m, copyOf(m))
		if told(m) != before {
			t.Errorf("%s is changed to %s", before, told(m))
		}
	}
	if taken < 100 {
		t.Errorf("only %d were written", taken)
	}
}

// The parts of a module are what its sections are made of.
func TestP1WildParts(t *testing.T) {
	w := wild{rand.New(rand.NewSource(8))}
	taken := map[int]int{}
	for range 60000 {
		var m api.Module
		w.fill(reflect.ValueOf(&m.Types).Elem(), 4)
		w.fill(reflect.ValueOf(&m.Elems).Elem(), 3)
		w.fill(reflect.ValueOf(&m.Datas).Elem(), 3)
		w.fill(reflect.ValueOf(&m.Funcs).Elem(), 3)
		b, e := encode.Type(m.Types)
		consists(t, taken, section.Type, api.Module{Types: m.Types}, b, e)
		for _, s := range m.Elems {
			b, e := encode.Elem(s)
			consists(t, taken, section.Element, api.Module{Elems: list(s)}, append([]byte{1}, b...), e)
		}
		for _, s := range m.Datas {
			b, e := encode.Data(s)
			consists(t, taken, section.Data, api.Module{Datas: list(s)}, append([]byte{1}, b...), e)
		}
		for _, f := range m.Funcs {
			b, e := encode.Func(f)
			f.Type = 0
			consists(t, taken, section.Code, api.Module{Funcs: list(f)}, append([]byte{1}, b...), e)
		}
	}
	for _, id := range []int{section.Type, section.Element, section.Data, section.Code} {
		if taken[id] < 100 {
			t.Errorf("section %d: only %d were written", id, taken[id])
		}
	}
}

// consists asks whether a section of a module has just these contents, or this error.
func consists(t *testing.T, taken map[int]int, id int, m api.Module, contents []byte, e api.Errno) {
	t.Helper()
	l, f := encode.Sections(m)
	if e != f {
		t.Errorf("Sections(%s): %d, not %d", brief(m), f, e)
	}
	for _, s := range l {
		if s.ID == id {
			taken[id]++
			if !bytes.Equal(s.Data, contents) {
				t.Errorf("Sections(%s): %s, not %s", brief(m), short(s.Data), short(contents))
			}
		}
	}
}
