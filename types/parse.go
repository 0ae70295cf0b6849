package types

import (
	"strconv"
	"strings"

	"ratchet/api"
)

// maxText is how many bytes a text that is read may have, maxDigits how many digits a number in it.
const (
	maxText   = 1 << 16
	maxDigits = 9
)

// textEnd is what comes behind the last word or bracket.
const textEnd = ""

// Kinds of a text's bytes.
const (
	blank = iota
	bracket
	letter // of a word
)

func kindOf(c byte) int {
	switch c {
	case ' ', '\t', '\n':
		return blank
	case '(', ')':
		return bracket
	}
	return letter
}

// Parse tells the value type of a text, or the place of what can't stand there.
func Parse(s string) (api.ValType, int, api.Errno) { return parsed(s, (*reader).val) }

// ParseRec tells the group of a text, or the place of what can't stand there.
func ParseRec(s string) (api.RecType, int, api.Errno) { return parsed(s, (*reader).rec) }

// fault is what a reader panics with: the place of what can't stand there.
type fault struct{ at int }

// parsed is where giving up ends: the answer is then the zero value.
func parsed[T any](s string, read func(*reader) T) (answer T, at int, e api.Errno) {
	if len(s) > maxText {
		return answer, 0, api.ErrLong
	}
	defer func() {
		if gone := recover(); gone != nil {
			at, e = gone.(fault).at, api.ErrForm
		}
	}()
	r := &reader{text: s}
	r.step()
	whole := read(r)
	r.take(textEnd)
	return whole, 0, api.OK
}

// reader goes over a text's words and brackets. Its methods give up at the first one that can't stand where it does.
type reader struct {
	text string
	now  string // the word or bracket that comes next, or textEnd
	at   int    // where it begins
}

// step goes past the next word or bracket, and the blanks behind it.
func (r *reader) step() {
	r.at += len(r.now)
	for r.at < len(r.text) && kindOf(r.text[r.at]) == blank {
		r.at++
	}
	r.now = first(r.text[r.at:])
}

// first is the word or bracket with which a text begins.
func first(s string) string {
	n := 0
	for n < len(s) && kindOf(s[n]) == letter {
		n++
	}
	if n == 0 && s != "" {
		n = 1
	}
	return s[:n]
}

func (r *reader) giveUp() { panic(fault{r.at}) }

// take goes past a word or bracket that must come next.
func (r *reader) take(s string) {
	if !r.skip(s) {
		r.giveUp()
	}
}

// skip goes past a word or bracket, if it is the one that comes next.
func (r *reader) skip(s string) bool {
	if r.now != s {
		return false
	}
	r.step()
	return true
}

// upToEnd reads up to a closing bracket, behind what was read ahead.
func upToEnd[T any](r *reader, l []T, read func() T) []T {
	for !r.skip(")") {
		l = append(l, read())
	}
	return l
}

func (r *reader) val() api.ValType {
	if r.skip("(") {
		return r.ref()
	}
	return r.num()
}

func (r *reader) num() api.ValType {
	for n, word := range numWords {
		// A Num that has no word must not be found at the text's end.
		if word != "" && r.skip(word) {
			return api.ValType{Num: n}
		}
	}
	r.giveUp()
	return api.ValType{}
}

// ref reads a reference, behind its opening bracket.
func (r *reader) ref() api.ValType {
	r.take("ref")
	v := api.ValType{Num: api.TRef}
	v.Null = r.skip("null")
	v.Heap = r.heap()
	r.take(")")
	return v
}

func (r *reader) heap() int {
	for i, word := range heapWords {
		if r.skip(word) {
			return api.HFunc - i
		}
	}
	return r.number()
}

// number reads the number of a defined type, rolled or not.
func (r *reader) number() int {
	digits, isRolled := strings.CutPrefix(r.now, rolledWord)
	n, ok := decimal(digits)
	if !ok {
		r.giveUp()
	}
	r.step()
	if isRolled {
		return rolled - n
	}
	return n
}

// decimal looks whether a number is written again as it was: Atoi takes signs and noughts ahead of it.
func decimal(digits string) (int, bool) {
	n, err := strconv.Atoi(digits)
	return n, err == nil && n >= 0 && len(digits) <= maxDigits && strconv.Itoa(n) == digits
}

func (r *reader) field() api.Field {
	if !r.skip("(") {
		return api.Field{Type: r.num()}
	}
	if !r.skip("mut") {
		return api.Field{Type: r.ref()}
	}
	f := api.Field{Type: r.val(), Mut: true}
	r.take(")")
	return f
}

// comp reads a composite type, behind its opening bracket.
func (r *reader) comp() api.CompType {
	switch {
	case r.skip("func"):
		return r.function()
	case r.skip("struct"):
		c := api.CompType{Kind: api.CStruct}
		for r.skip("(") {
			r.take("field")
			c.Fields = upToEnd(r, c.Fields, r.field)
		}
		r.take(")")
		return c
	}
	r.take("array")
	c := api.CompType{Kind: api.CArray, Fields: []api.Field{r.field()}}
	r.take(")")
	return c
}

// function reads what stands behind the word func. Behind a part of results no parameters come any more.
func (r *reader) function() api.CompType {
	c := api.CompType{Kind: api.CFunc}
	results := false
	for r.skip("(") {
		if !results && r.skip("param") {
			c.Params = upToEnd(r, c.Params, r.val)
			continue
		}
		r.take("result")
		results = true
		c.Results = upToEnd(r, c.Results, r.val)
	}
	r.take(")")
	return c
}

// sub reads a type, behind its opening bracket.
func (r *reader) sub() api.SubType {
	if !r.skip("sub") {
		return api.SubType{Final: true, Comp: r.comp()}
	}
	s := api.SubType{Final: r.skip("final")}
	// A final type that declares nothing above it is told by its composite type alone.
	if s.Final {
		s.Supers = append(s.Supers, r.number())
	}
	for !r.skip("(") {
		s.Supers = append(s.Supers, r.number())
	}
	s.Comp = r.comp()
	r.take(")")
	return s
}

func (r *reader) rec() api.RecType {
	r.take("(")
	if !r.skip("rec") {
		return api.RecType{Types: []api.SubType{r.sub()}}
	}
	l := upToEnd(r, nil, func() api.SubType {
		r.take("(")
		return r.sub()
	})
	return api.RecType{Types: l, Explicit: true}
}
