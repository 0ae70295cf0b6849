package instr

import (
	"strconv"
	"strings"

	"ratchet/api"
	"ratchet/types"
)

// unknown stands in the place of what has no text.
const unknown = "?"

// catchWords are the words of clauses, by their kinds.
const catchWords = "catch catch_ref catch_all catch_all_ref"

// told is an instruction, whose methods tell the words of each field.
type told struct{ api.Instr }

// fieldTexts are the methods that tell each field.
func fieldTexts() [fieldCount]func(told) []string {
	return [...]func(told) []string{
		blockField:   told.block,
		catchesField: told.catches,
		xField:       told.x,
		yField:       told.y,
		labelsField:  told.labels,
		typesField:   told.types,
		memField:     told.mem,
		i32Field:     told.i32,
		i64Field:     told.i64,
		f32Field:     told.f32,
		f64Field:     told.f64,
		heapField:    told.heap,
		castField:    told.cast,
		branchField:  told.branch,
		countField:   told.count,
	}
}

func (t told) text() string {
	words := []string{Name(t.Op)}
	texts := fieldTexts()
	for _, f := range formFields[formOf(t.Op)] {
		words = append(words, texts[f](t)...)
	}
	return strings.Join(words, " ")
}

func decimal(n uint64) string { return strconv.FormatUint(n, 10) }

func indexText(n uint32) string { return decimal(uint64(n)) }

func bracketed(words ...string) string { return "(" + strings.Join(words, " ") + ")" }

func (t told) block() []string {
	switch {
	case t.Block.Type >= 0:
		return []string{bracketed("type", strconv.Itoa(t.Block.Type))}
	case t.Block.Result.Num != api.TNone:
		return []string{bracketed("result", types.Text(t.Block.Result))}
	}
	return nil
}

func (t told) catches() []string {
	var words []string
	for _, c := range t.Catches {
		words = append(words, clauseText(c))
	}
	return words
}

func clauseText(c api.Catch) string {
	if c.Kind < catchTag || c.Kind >= clauseKinds {
		return unknown
	}
	word := cut(catchWords)[c.Kind]
	if c.Kind <= catchRef {
		return bracketed(word, indexText(c.Tag), indexText(c.Label))
	}
	return bracketed(word, indexText(c.Label))
}

func (t told) x() []string { return []string{indexText(t.X)} }

func (t told) y() []string { return []string{indexText(t.Y)} }

func (t told) labels() []string {
	var words []string
	for _, n := range t.Labels {
		words = append(words, indexText(n))
	}
	return words
}

func (t told) types() []string {
	words := []string{"result"}
	for _, v := range t.Types {
		words = append(words, types.Text(v))
	}
	return []string{bracketed(words...)}
}

func (t told) mem() []string {
	var words []string
	if t.Mem.Mem != 0 {
		words = append(words, indexText(t.Mem.Mem))
	}
	if t.Mem.Offset != 0 {
		words = append(words, "offset="+decimal(t.Mem.Offset))
	}
	return append(words, "align="+alignText(t.Mem.Align))
}

func alignText(align uint32) string {
	if align > maxAlign {
		return unknown
	}
	return decimal(1 << align)
}

func (t told) i32() []string { return []string{strconv.Itoa(int(int32(t.N)))} }

func (t told) i64() []string { return []string{strconv.FormatInt(int64(t.N), 10)} }

func (t told) f32() []string { return []string{bitsText(uint64(uint32(t.N)), 8)} }

func (t told) f64() []string { return []string{bitsText(t.N, 16)} }

// bitsText is a number by so many digits of base 16, noughts ahead.
func bitsText(n uint64, digits int) string {
	s := strconv.FormatUint(n, 16)
	return "0x" + strings.Repeat("0", digits-len(s)) + s
}

func (t told) heap() []string {
	if len(t.Types) == 0 {
		return []string{unknown}
	}
	return []string{types.HeapText(t.Types[0].Heap)}
}

// typeText is the text of the type of that place, if it is there.
func (t told) typeText(place int) string {
	if place >= len(t.Types) {
		return unknown
	}
	return types.Text(t.Types[place])
}

func (t told) cast() []string { return []string{t.typeText(0)} }

func (t told) branch() []string { return []string{indexText(t.X), t.typeText(0), t.typeText(1)} }

func (t told) count() []string { return []string{decimal(t.N)} }
