package section_test

import (
	"testing"

	"ratchet/api"
	"ratchet/frame"
	"ratchet/module"
	"ratchet/section"
)

// inOrder are all ids, as the sections may follow one another.
func inOrder() []int {
	return []int{
		section.Custom, section.Type, section.Import, section.Function, section.Table, section.Memory, section.Tag,
		section.Global, section.Export, section.Start, section.Element, section.Count, section.Code, section.Data,
	}
}

func TestIdsAreThoseOfTheRanks(t *testing.T) {
	for rank, id := range inOrder() {
		if frame.Rank(id) != rank {
			t.Errorf("id %d: rank %d, not %d", id, frame.Rank(id), rank)
		}
	}
	if frame.Rank(len(inOrder())) != -1 {
		t.Errorf("there is an id %d", len(inOrder()))
	}
}

// contents are those of a section, as a module of nothing else.
func contents(id int, b ...byte) []byte {
	return append([]byte{0, 'a', 's', 'm', 1, 0, 0, 0, byte(id), byte(len(b))}, b...)
}

func TestNumbersAreThoseThatAreRead(t *testing.T) {
	m, _, e := module.Read(contents(section.Table, 1, section.WithInit, 0, 0x70, 0, 0, 0x0b))
	if e != api.OK || len(m.Tables) != 1 || !m.Tables[0].HasInit {
		t.Errorf("a table: %v, %d", m.Tables, e)
	}
	m, _, e = module.Read(contents(section.Element, 1, section.NotActive|section.ToldOrOnly|section.Expressions, 0x70, 1, 0x0b))
	if e != api.OK || len(m.Elems) != 1 || m.Elems[0].Mode != api.Declared || len(m.Elems[0].Init) != 1 {
		t.Errorf("an element segment: %v, %d", m.Elems, e)
	}
	m, _, e = module.Read(contents(section.Data, 1, section.ToldOrOnly, 3, 0x0b, 0))
	if e != api.OK || len(m.Datas) != 1 || m.Datas[0].Mode != api.Active || m.Datas[0].Memory != 3 {
		t.Errorf("a data segment: %v, %d", m.Datas, e)
	}
}
