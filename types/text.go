package types

import (
	"strconv"
	"strings"

	"ratchet/api"
)

// unknown stands in the place of the text of what has none.
const unknown = "?"

// rolledWord stands ahead of a place in a rolled group.
const rolledWord = "rec."

// numWords are the words of value types by their Num; of TNone and TRef there is none.
var numWords = [...]string{"", "i32", "i64", "f32", "f64", "", "i8", "i16"}

// heapWords are the words of the abstract heap types, from HFunc downward.
var heapWords = [...]string{"func", "nofunc", "extern", "noextern", "any", "eq", "i31", "struct", "array", "none", "exn", "noexn"}

// Text tells a value type's text.
func Text(v api.ValType) string {
	switch {
	case v.Num == api.TRef && v.Null:
		return bracketed("ref", "null", HeapText(v.Heap))
	case v.Num == api.TRef:
		return bracketed("ref", HeapText(v.Heap))
	case v.Num < 0 || v.Num >= len(numWords) || numWords[v.Num] == "":
		return unknown
	}
	return numWords[v.Num]
}

// HeapText tells a heap type's text.
func HeapText(h int) string {
	if abstract(h) {
		return heapWords[api.HFunc-h]
	}
	return numberText(h)
}

// numberText tells the text of a defined type's number, rolled or not.
func numberText(n int) string {
	switch {
	case n >= 0:
		return strconv.Itoa(n)
	case n <= rolled:
		return rolledWord + strconv.Itoa(rolled-n)
	}
	return unknown
}

// CompText tells a composite type's text.
func CompText(c api.CompType) string {
	switch c.Kind {
	case api.CFunc:
		parts := append(part("param", c.Params, Text), part("result", c.Results, Text)...)
		return bracketed("func", parts...)
	case api.CStruct:
		return bracketed("struct", part("field", c.Fields, fieldText)...)
	case api.CArray:
		return bracketed("array", elementText(c.Fields))
	}
	return unknown
}

func elementText(l []api.Field) string {
	if len(l) != 1 {
		return unknown
	}
	return fieldText(l[0])
}

func fieldText(f api.Field) string {
	if f.Mut {
		return bracketed("mut", Text(f.Type))
	}
	return Text(f.Type)
}

// SubText tells a type's text.
func SubText(s api.SubType) string {
	if s.Final && len(s.Supers) == 0 {
		return CompText(s.Comp)
	}
	var parts []string
	if s.Final {
		parts = append(parts, "final")
	}
	for _, n := range s.Supers {
		parts = append(parts, numberText(n))
	}
	return bracketed("sub", append(parts, CompText(s.Comp))...)
}

// RecText tells a group's text.
func RecText(r api.RecType) string {
	if len(r.Types) == 1 && !r.Explicit {
		return SubText(r.Types[0])
	}
	return bracketed("rec", texts(r.Types, SubText)...)
}

// part is a list between brackets, or nothing where the list is empty.
func part[T any](head string, l []T, text func(T) string) []string {
	if len(l) == 0 {
		return nil
	}
	return []string{bracketed(head, texts(l, text)...)}
}

func texts[T any](l []T, text func(T) string) []string {
	var out []string
	for _, x := range l {
		out = append(out, text(x))
	}
	return out
}

func bracketed(head string, parts ...string) string {
	return "(" + strings.Join(append([]string{head}, parts...), " ") + ")"
}
