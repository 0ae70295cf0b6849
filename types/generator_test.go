package types_test

import (
	"math/rand"
	"strconv"
	"strings"

	"ratchet/api"
)

// generator makes types, each beside its text, as the chapter writes it.
type generator struct{ *rand.Rand }

func newGenerator(seed int64) generator { return generator{rand.New(rand.NewSource(seed))} }

func (g generator) number() (int, string) {
	i := []int{0, 1, 2, 3, 10, 99, 12345, 999999999}[g.Intn(8)]
	if g.Intn(3) == 0 {
		return -100 - i, "rec." + strconv.Itoa(i)
	}
	return i, strconv.Itoa(i)
}

func (g generator) val() (api.ValType, string) {
	nums := []struct {
		num  int
		word string
	}{{api.TI32, "i32"}, {api.TI64, "i64"}, {api.TF32, "f32"}, {api.TF64, "f64"}, {api.T8, "i8"}, {api.T16, "i16"}}
	if i := g.Intn(2 * len(nums)); i < len(nums) {
		return num(nums[i].num), nums[i].word
	}
	words := abstractWords()
	i := g.Intn(len(words))
	heap, word := -1-i, words[i]
	if g.Intn(2) == 0 {
		heap, word = g.number()
	}
	if g.Intn(2) == 0 {
		return refNull(heap), "(ref null " + word + ")"
	}
	return ref(heap), "(ref " + word + ")"
}

func (g generator) vals(head string) ([]api.ValType, string) {
	var l []api.ValType
	text := ""
	for range g.Intn(4) {
		v, s := g.val()
		l, text = append(l, v), text+" "+s
	}
	if l == nil {
		return nil, ""
	}
	return l, " (" + head + text + ")"
}

func (g generator) field() (api.Field, string) {
	v, s := g.val()
	if g.Intn(2) == 0 {
		return mut(v), "(mut " + s + ")"
	}
	return fixed(v), s
}

func (g generator) comp() (api.CompType, string) {
	switch g.Intn(4) {
	case 0:
		f, s := g.field()
		return array(f), "(array " + s + ")"
	case 1:
		return structure(), "(struct)"
	case 2:
		var l []api.Field
		text := ""
		for range 1 + g.Intn(3) {
			f, s := g.field()
			l, text = append(l, f), text+" "+s
		}
		return structure(l...), "(struct (field" + text + "))"
	}
	params, first := g.vals("param")
	results, second := g.vals("result")
	return function(params, results), "(func" + first + second + ")"
}

func (g generator) sub() (api.SubType, string) {
	c, text := g.comp()
	s := api.SubType{Final: g.Intn(2) == 0, Comp: c}
	head := "(sub"
	if s.Final {
		head += " final"
	}
	for range max(0, g.Intn(5)-2) {
		n, word := g.number()
		s.Supers, head = append(s.Supers, n), head+" "+word
	}
	if s.Final && s.Supers == nil {
		return s, text
	}
	return s, head + " " + text + ")"
}

func (g generator) rec() (api.RecType, string) {
	n := []int{1, 1, 1, 0, 1, 2, 3}[g.Intn(7)]
	r := api.RecType{Explicit: n != 1 || g.Intn(2) == 0}
	var parts []string
	for range n {
		s, text := g.sub()
		r.Types, parts = append(r.Types, s), append(parts, text)
	}
	if !r.Explicit {
		return r, parts[0]
	}
	return r, "(" + strings.Join(append([]string{"rec"}, parts...), " ") + ")"
}

// groups makes a closed list: each type speaks of those of the groups ahead and of its own.
func (g generator) groups() []api.RecType {
	var l []api.RecType
	end := 0
	for range g.Intn(6) {
		r, _ := g.rec()
		end += len(r.Types)
		l = append(l, g.within(r, end))
	}
	return l
}

// within is the group with numbers below end alone.
func (g generator) within(r api.RecType, end int) api.RecType {
	for _, s := range r.Types {
		for i := range s.Supers {
			s.Supers[i] = g.Intn(end)
		}
		for _, l := range [][]api.ValType{s.Comp.Params, s.Comp.Results} {
			for i := range l {
				l[i] = g.below(l[i], end)
			}
		}
		for i := range s.Comp.Fields {
			s.Comp.Fields[i].Type = g.below(s.Comp.Fields[i].Type, end)
		}
	}
	return r
}

func (g generator) below(v api.ValType, end int) api.ValType {
	if v.Num == api.TRef && (v.Heap >= 0 || v.Heap <= -100) {
		v.Heap = g.Intn(end)
	}
	return v
}
