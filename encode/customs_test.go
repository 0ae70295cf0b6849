package encode_test

import (
	"bytes"
	"math"
	"strings"
	"testing"

	"ratchet/api"
	"ratchet/encode"
	"ratchet/section"
)

// full is a module that has all sections but those whose ids are told, with one element each.
func full(without ...int) *made {
	x := newMade()
	x.m.HasStart, x.m.HasCount = true, true
	by := samples()
	for _, id := range without {
		delete(by, id)
		x.m.HasStart = x.m.HasStart && id != section.Start
		x.m.HasCount = x.m.HasCount && id != section.Count
	}
	for _, l := range inOrderOf(by) {
		x.lay(l[0])
	}
	return x
}

// order is sections' ids, of custom ones their names.
func order(t *testing.T, m api.Module) string {
	t.Helper()
	l, e := encode.Sections(m)
	if e != api.OK {
		t.Errorf("Sections(%s): %d", brief(m), e)
	}
	var out []string
	for _, s := range l {
		if s.ID == section.Custom {
			out = append(out, s.Name)
			continue
		}
		out = append(out, told(s.ID))
	}
	return strings.Join(out, " ")
}

func stand(t *testing.T, m api.Module, want string) {
	t.Helper()
	if got := order(t, m); got != want {
		t.Errorf("sections: %s, not %s", got, want)
	}
}

// letters are custom sections that are named by letters, behind these ids.
func letters(after ...int) []api.Custom {
	var out []api.Custom
	for n, id := range after {
		out = append(out, api.Custom{Name: string(rune('a' + n)), Bytes: []byte{byte(n)}, After: id})
	}
	return out
}

func TestP122Customs(t *testing.T) {
	x := full()
	stand(t, x.m, "1 2 3 4 5 13 6 7 8 9 12 10 11")
	for after, want := range []string{
		0: "a 1 2 3 4 5 13 6 7 8 9 12 10 11", 1: "1 a 2 3 4 5 13 6 7 8 9 12 10 11", 2: "1 2 a 3 4 5 13 6 7 8 9 12 10 11",
		3: "1 2 3 a 4 5 13 6 7 8 9 12 10 11", 4: "1 2 3 4 a 5 13 6 7 8 9 12 10 11", 5: "1 2 3 4 5 a 13 6 7 8 9 12 10 11",
		6: "1 2 3 4 5 13 6 a 7 8 9 12 10 11", 7: "1 2 3 4 5 13 6 7 a 8 9 12 10 11", 8: "1 2 3 4 5 13 6 7 8 a 9 12 10 11",
		9: "1 2 3 4 5 13 6 7 8 9 a 12 10 11", 10: "1 2 3 4 5 13 6 7 8 9 12 10 a 11", 11: "1 2 3 4 5 13 6 7 8 9 12 10 11 a",
		12: "1 2 3 4 5 13 6 7 8 9 12 a 10 11", 13: "1 2 3 4 5 13 a 6 7 8 9 12 10 11",
	} {
		x.m.Customs = letters(after)
		stand(t, x.m, want)
		shows(t, x)
	}
	x.m.Customs = letters(11, 0, 13, 12, 10, 0, 11, 5)
	stand(t, x.m, "b f 1 2 3 4 5 h 13 c 6 7 8 9 12 d 10 e 11 a g")
	shows(t, x)
}

// Behind a section that is not written they stand behind what is ahead of it, in their order with those that were to stand there.
func TestP122CustomsBehindWhatIsLeftOut(t *testing.T) {
	x := full(section.Import, section.Tag, section.Count)
	x.m.Customs = letters(2, 1, 2, 0, 13, 5, 12, 9, 13)
	stand(t, x.m, "d 1 a b c 3 4 5 e f i 6 7 8 9 g h 10 11")
	shows(t, x)
	nothing := api.Module{Customs: letters(11, 0, 13, 12)}
	stand(t, nothing, "a b c d")
	writes(t, nothing, note("a", 0), note("b", 1), note("c", 2), note("d", 3))
	only := api.Module{HasStart: true, Customs: letters(7, 8, 0, 1, 9, 12, 13)}
	stand(t, only, "a c d g 8 b e f")
	// All that is left is written, ahead of what stands above it.
	for after := range 14 {
		for _, id := range inOrder() {
			x := full(id)
			x.m.Customs = letters(after, 0, id, after)
			shows(t, x)
		}
	}
}

func TestP122CustomsPlaces(t *testing.T) {
	for _, after := range []int{-1, 14, 15, 128, 256, 257, math.MaxInt, math.MinInt} {
		fails(t, api.Module{Customs: letters(after)}, api.ErrForm)
		fails(t, api.Module{Customs: letters(1, 2, after)}, api.ErrForm)
		fails(t, api.Module{Customs: letters(after, 0), Tags: list(-1)}, api.ErrForm)
		fails(t, api.Module{Customs: letters(after), Exports: list(api.Export{Name: "\xff"})}, api.ErrForm)
		fails(t, api.Module{Customs: letters(after), Funcs: list(api.Func{Body: noOp()})}, api.ErrForm)
		fails(t, api.Module{Customs: letters(after), Memories: make([]api.Limits, 101)}, api.ErrForm)
	}
}

// Custom sections' names are frame's to look at, behind all errors of the sections.
func TestP122CustomsNames(t *testing.T) {
	long := strings.Repeat("a", api.MaxNames+1)
	for _, c := range []struct {
		name string
		e    api.Errno
	}{{"\xff", api.ErrName}, {"a\xe2\x82", api.ErrName}, {long, api.ErrLong}, {long + "\xff", api.ErrLong}} {
		m := api.Module{Customs: list(api.Custom{Name: "a"}, api.Custom{Name: c.name, Bytes: []byte{7}, After: 3})}
		l, e := encode.Sections(m)
		if len(l) != 2 || l[1].Name != c.name || !bytes.Equal(l[1].Data, []byte{7}) || e != api.OK {
			t.Errorf("Sections with a name that can't be: %s, %d", brief(l), e)
		}
		writesNot(t, m, c.e)
		m.Start = 1
		writesNot(t, m, api.ErrForm)
		m.Datas = list(api.Data{Mode: api.Active, Offset: noOp()})
		writesNot(t, m, api.ErrArg)
	}
	most := long[1:]
	writes(t, api.Module{Customs: list(api.Custom{Name: most})}, note(most))
}

// A module has at most so many bytes; its sections may have more.
func TestP122MaxModule(t *testing.T) {
	for _, c := range []struct {
		head int
		of   func(n int) api.Module
	}{
		{8 + 1 + 3 + 1, func(n int) api.Module { return api.Module{Customs: list(api.Custom{Bytes: make([]byte, n)})} }},
		{8 + 1 + 3 + 1 + 1 + 3, func(n int) api.Module { return api.Module{Datas: list(api.Data{Init: make([]byte, n)})} }},
	} {
		m := c.of(api.MaxModule - c.head)
		b, e := encode.Write(m)
		if n, f := encode.Size(m); len(b) != api.MaxModule || e != api.OK || n != api.MaxModule || f != api.OK {
			t.Errorf("the longest module: %s, %d; %d, %d", short(b), e, n, f)
		}
		m = c.of(api.MaxModule - c.head + 1)
		writesNot(t, m, api.ErrLong)
		if l, e := encode.Sections(m); len(l) != 1 || e != api.OK {
			t.Errorf("its sections: %d, %d", len(l), e)
		}
		m.Customs = append(m.Customs, api.Custom{Name: "\xff"})
		writesNot(t, m, api.ErrName)
		m.Start = 1
		writesNot(t, m, api.ErrForm)
	}
}

// What is answered is new memory, and none of it is shared.
func TestP4SectionsAreNew(t *testing.T) {
	m := full().m
	bytesOf := []byte{1, 2, 3}
	m.Customs = list(api.Custom{Bytes: bytesOf}, api.Custom{Bytes: bytesOf, After: 5})
	m.Datas[0].Init = bytesOf
	kept, _ := encode.Sections(m)
	want := told(kept)
	l, _ := encode.Sections(m)
	for _, s := range l {
		rest := told(kept)
		whole := s.Data[:cap(s.Data)]
		for n := range whole {
			whole[n] ^= 0xff
		}
		if !bytes.Equal(bytesOf, []byte{1, 2, 3}) || told(kept) != rest {
			t.Fatalf("section %d shares its bytes", s.ID)
		}
	}
	for n, s := range l {
		for k := range s.Data {
			if s.Data[k] == kept[n].Data[k] {
				t.Fatalf("section %d is changed with another", s.ID)
			}
		}
	}
	if again, _ := encode.Sections(m); told(again) != want {
		t.Errorf("sections asked again: %s, not %s", brief(again), want)
	}
}
