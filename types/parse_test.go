package types_test

import (
	"strings"
	"testing"

	"ratchet/api"
	"ratchet/types"
)

func TestTY1Parse(t *testing.T) {
	for _, c := range []struct {
		s string
		v api.ValType
	}{
		{"i32", num(api.TI32)}, {"i64", num(api.TI64)}, {"f32", num(api.TF32)}, {"f64", num(api.TF64)}, {"i8", num(api.T8)}, {"i16", num(api.T16)},
		{"(ref null any)", refNull(api.HAny)}, {"(ref any)", ref(api.HAny)},
		{"(ref 0)", ref(0)}, {"(ref 10)", ref(10)}, {"(ref null 999999999)", refNull(999999999)}, {"(ref 123456789)", ref(123456789)},
		{"(ref rec.0)", ref(-100)}, {"(ref null rec.7)", refNull(-107)}, {"(ref rec.999999999)", ref(-100 - 999999999)},
		// Blanks ahead, behind, doubled, beside brackets.
		{" i32", num(api.TI32)}, {"i32 ", num(api.TI32)}, {"\n\t i32\t\n ", num(api.TI32)},
		{"(ref  null\t\nany)", refNull(api.HAny)}, {" ( ref null any ) ", refNull(api.HAny)}, {"(\nref\tany\n)", ref(api.HAny)},
	} {
		if v, at, e := types.Parse(c.s); v != c.v || at != 0 || e != api.OK {
			t.Errorf("Parse(%q): %v, %d, %d, not %v", c.s, v, at, e, c.v)
		}
	}
	for i, word := range abstractWords() {
		if v, at, e := types.Parse("(ref " + word + ")"); v != ref(-1-i) || at != 0 || e != api.OK {
			t.Errorf("Parse of %s: %v, %d, %d", word, v, at, e)
		}
		if v, at, e := types.Parse("(ref null " + word + ")"); v != refNull(-1-i) || at != 0 || e != api.OK {
			t.Errorf("Parse of %s: %v, %d, %d", word, v, at, e)
		}
	}
}

func TestTY1ParseRefuses(t *testing.T) {
	for _, c := range []struct {
		s  string
		at int
	}{
		// It ends too early.
		{"", 0}, {" ", 1}, {" \t\n", 3}, {"(", 1}, {"( ", 2}, {"(ref", 4}, {"(ref ", 5}, {"(ref null", 9}, {"(ref null any", 13}, {"(ref 0 \n", 8},
		// Words and brackets that can't stand there.
		{"i33", 0}, {"  i33", 2}, {"I32", 0}, {"i32i32", 0}, {"?", 0}, {"v128", 0}, {"null", 0}, {"any", 0}, {"0", 0}, {"ref", 0}, {"anyref", 0}, {")", 0}, {"((", 1}, {"()", 1},
		{"i32 i32", 4}, {"i32)", 3}, {"i32 (", 4}, {"(i32)", 1}, {"(mut i32)", 1}, {"(ref any) x", 10}, {"(ref any))", 9}, {"(ref any)(", 9},
		{"(ref)", 4}, {"(ref null)", 9}, {"(ref null null)", 10}, {"(ref any null)", 9}, {"(ref any any)", 9}, {"(ref (any))", 5}, {"(ref i32)", 5}, {"(ref ?)", 5}, {"(refnull any)", 1}, {"(refs any)", 1},
		{"(ref Any)", 5}, {"(ref nul any)", 5}, {"(func)", 1},
		// Numbers: noughts ahead, ten digits, signs.
		{"(ref null 007)", 10}, {"(ref 00)", 5}, {"(ref 01)", 5}, {"(ref 1000000000)", 5}, {"(ref 1234567890)", 5}, {"(ref 0123456789)", 5}, {"(ref 99999999999999999999)", 5},
		{"(ref -1)", 5}, {"(ref -0)", 5}, {"(ref +1)", 5}, {"(ref 0x1)", 5}, {"(ref 1_0)", 5}, {"(ref 1.)", 5}, {"(ref 1a)", 5}, {"(ref a1)", 5}, {"(ref ١)", 5},
		{"(ref rec.)", 5}, {"(ref rec)", 5}, {"(ref rec.00)", 5}, {"(ref rec.01)", 5}, {"(ref rec.1000000000)", 5}, {"(ref rec.-1)", 5}, {"(ref rec.+1)", 5}, {"(ref rec.rec.1)", 5}, {"(ref rec.any)", 5}, {"(ref rec. 1)", 5}, {"(ref .1)", 5}, {"(ref REC.1)", 5}, {"(ref 1rec.)", 5},
		// Bytes that are neither blanks nor brackets are of words.
		{"i32\r", 0}, {"\ri32", 0}, {"i32\v", 0}, {"i32\x00", 0}, {"(ref any]", 5}, {"[ref any]", 0}, {"(ref\u00a0any)", 1}, {"\xff", 0},
	} {
		if v, at, e := types.Parse(c.s); v != (api.ValType{}) || at != c.at || e != api.ErrForm {
			t.Errorf("Parse(%q): %v, %d, %d, not %d", c.s, v, at, e, c.at)
		}
	}
}

func TestTY1ParseRec(t *testing.T) {
	i32, i64, nothing := num(api.TI32), num(api.TI64), function(nil, nil)
	for _, c := range []struct {
		s string
		r api.RecType
	}{
		{"(func)", alone(final(nothing))},
		{"(rec (func))", group(final(nothing))},
		{"(rec)", group()},
		{"(rec (func) (sub (struct)) (sub final 0 (array i8)))", group(final(nothing), open(structure()), final(array(fixed(num(api.T8))), 0))},
		{"(sub (func))", alone(open(nothing))},
		{"(sub 0 (func))", alone(open(nothing, 0))},
		{"(sub final 0 (func))", alone(final(nothing, 0))},
		{"(sub final 1 rec.0 2 (func))", alone(final(nothing, 1, -100, 2))},
		{"(sub 1 1 (func))", alone(open(nothing, 1, 1))},
		{"(func (param i32) (result i64))", alone(final(function(vals(i32), vals(i64))))},
		{"(func (result i64))", alone(final(function(nil, vals(i64))))},
		{"(func (param i32 (ref null any) i64))", alone(final(function(vals(i32, refNull(api.HAny), i64), nil)))},
		{"(struct (field (mut i8) (ref 0)))", alone(final(structure(mut(num(api.T8)), fixed(ref(0)))))},
		{"(array (mut (ref null rec.0)))", alone(final(array(mut(refNull(-100)))))},
		{"(array (ref struct))", alone(final(array(fixed(ref(api.HStruct)))))},
		// Empty parts, and several of them.
		{"(func (param))", alone(final(nothing))},
		{"(func (result))", alone(final(nothing))},
		{"(func (param) (param) (result) (result))", alone(final(nothing))},
		{"(func (param i32) (param) (param i64 i32) (result i64) (result i32))", alone(final(function(vals(i32, i64, i32), vals(i64, i32))))},
		{"(struct (field))", alone(final(structure()))},
		{"(struct (field i32) (field) (field (mut i64) i32))", alone(final(structure(fixed(i32), mut(i64), fixed(i32))))},
		{"(struct (field) (field i32))", alone(final(structure(fixed(i32))))},
		// Blanks.
		{"  (func)\n", alone(final(nothing))},
		{"( sub\tfinal  0\n( func ( param i32 ) ) )", alone(final(function(vals(i32), nil), 0))},
		{" (struct\n(field (mut i8)) (field ( ref 0 )))", alone(final(structure(mut(num(api.T8)), fixed(ref(0)))))},
		{"(rec(sub 0(struct(field(mut i32)(mut i64)i32)))(func))", group(open(structure(mut(i32), mut(i64), fixed(i32)), 0), final(nothing))},
	} {
		if r, at, e := types.ParseRec(c.s); !equal(r, c.r) || at != 0 || e != api.OK {
			t.Errorf("ParseRec(%q): %v, %d, %d, not %v", c.s, r, at, e, c.r)
		}
	}
}

func TestTY1ParseRecRefuses(t *testing.T) {
	for _, c := range []struct {
		s  string
		at int
	}{
		// It ends too early.
		{"", 0}, {"\n ", 2}, {"(", 1}, {"(rec", 4}, {"(rec ", 5}, {"(rec (", 6}, {"(rec (func)", 11}, {"(sub", 4}, {"(sub final", 10}, {"(sub 0 ", 7}, {"(sub (", 6}, {"(sub (func)", 11},
		{"(func", 5}, {"(func (", 7}, {"(func (param", 12}, {"(func (param i32", 16}, {"(func (param i32)", 17}, {"(func (result (ref", 18}, {"(struct", 7}, {"(struct (field (mut", 19}, {"(struct (field (mut i32", 23}, {"(array", 6}, {"(array i32 ", 11}, {"(array (", 8},
		// The group.
		{"i32", 0}, {"func", 0}, {")", 0}, {"()", 1}, {"((", 1}, {"(i32)", 1}, {"(ref any)", 1}, {"(?)", 1}, {"?", 0}, {"(func) (func)", 7}, {"(func))", 6}, {"(func) x", 7}, {"(rec) (rec)", 6},
		{"(rec func)", 5}, {"(rec (rec))", 6}, {"(rec (func) i32)", 12}, {"(rec 0 (func))", 5}, {"(rec ?)", 5}, {"(rec ())", 6},
		// What a type declares above it.
		{"(sub final (func))", 11}, {"(sub final\n\n(func))", 12}, {"(sub final)", 10}, {"(sub)", 4}, {"(sub 0)", 6}, {"(sub 0 final (func))", 7}, {"(sub final final 0 (func))", 11}, {"(sub any (func))", 5}, {"(sub func)", 5}, {"(sub 00 (func))", 5}, {"(sub 1234567890 (func))", 5}, {"(sub rec.1234567890 (func))", 5}, {"(sub final ? (func))", 11}, {"(sub (sub (func)))", 6}, {"(sub (rec (func)))", 6}, {"(sub (func) (func))", 12}, {"(sub (func) 0)", 12}, {"(sub 0 (i32))", 8},
		// Functions.
		{"(func i32)", 6}, {"(func (i32))", 7}, {"(func (field i32))", 7}, {"(func (result i32) (param i32))", 20}, {"(func (result) (param))", 16}, {"(func (param i32) (result i32) (param i32))", 32}, {"(func (param (mut i32)))", 14}, {"(func (param func))", 13}, {"(func (param ?))", 13}, {"(func (param (param)))", 14}, {"(func (results))", 7}, {"(function)", 1}, {"(func (param i32) i32)", 18}, {"(func (param i32)))", 18},
		// Structs and arrays.
		{"(struct i32)", 8}, {"(struct (i32))", 9}, {"(struct (param i32))", 9}, {"(struct (mut i32))", 9}, {"(struct (field (mut (mut i32))))", 21}, {"(struct (field (mut)))", 19}, {"(struct (field (mut i32 i32)))", 24}, {"(struct (field (field)))", 16}, {"(struct (field mut i32))", 15}, {"(struct (field ?))", 15},
		{"(array)", 6}, {"(array i32 i32)", 11}, {"(array i32 (mut i32))", 11}, {"(array (field i32))", 8}, {"(array ?)", 7}, {"(array (mut (mut i32)))", 13}, {"(array any)", 7}, {"(arrays i32)", 1},
		{"(array (ref 007))", 12}, {"(array (ref null))", 16}, {"(array (ref any any))", 16},
	} {
		if r, at, e := types.ParseRec(c.s); r.Types != nil || r.Explicit || at != c.at || e != api.ErrForm {
			t.Errorf("ParseRec(%q): %v, %d, %d, not %d", c.s, r, at, e, c.at)
		}
	}
}

func TestTY1ParseLooksAtTheLengthFirst(t *testing.T) {
	const most = 1 << 16
	filled := func(s string) string { return s + strings.Repeat(" ", most-len(s)) }
	if v, at, e := types.Parse(filled("(ref null any)")); v != refNull(api.HAny) || at != 0 || e != api.OK {
		t.Errorf("Parse at the limit: %v, %d, %d", v, at, e)
	}
	if r, at, e := types.ParseRec(filled("(func)")); len(r.Types) != 1 || at != 0 || e != api.OK {
		t.Errorf("ParseRec at the limit: %v, %d, %d", r, at, e)
	}
	if _, at, e := types.Parse(filled("")); at != most || e != api.ErrForm {
		t.Errorf("Parse at the limit: %d, %d", at, e)
	}
	if _, at, e := types.ParseRec(filled("")[1:] + "x"); at != most-1 || e != api.ErrForm {
		t.Errorf("ParseRec at the limit: %d, %d", at, e)
	}
	for _, s := range []string{"(ref null any)", "(func)", "", "x", ")"} {
		if v, at, e := types.Parse(filled(s) + " "); v != (api.ValType{}) || at != 0 || e != api.ErrLong {
			t.Errorf("Parse above the limit: %v, %d, %d", v, at, e)
		}
		if r, at, e := types.ParseRec(filled(s) + " "); r.Types != nil || r.Explicit || at != 0 || e != api.ErrLong {
			t.Errorf("ParseRec above the limit: %v, %d, %d", r, at, e)
		}
	}
}

func TestTY1ParseRecTakesLongTexts(t *testing.T) {
	n := (1<<16 - len("(rec)")) / len(" (func)")
	r, at, e := types.ParseRec("(rec" + strings.Repeat(" (func)", n) + ")")
	if len(r.Types) != n || at != 0 || e != api.OK {
		t.Errorf("ParseRec of %d types: %d, %d, %d", n, len(r.Types), at, e)
	}
	for _, s := range []string{"(", ")", "x", "(rec ", "(sub 0 ", "(func (param ", "(array "} {
		long := strings.Repeat(s, 1<<16/len(s))
		at, ok := newOracle().fault("REC", long)
		if _, got, e := types.ParseRec(long); ok || got != at || e != api.ErrForm {
			t.Errorf("ParseRec of many %q: %d, %d, not %d", s, got, e, at)
		}
	}
}

// spread lays blanks where they may stand.
func (g generator) spread(s string) string {
	var out strings.Builder
	out.WriteString(g.blanks(0))
	for i, c := range []byte(s) {
		before := i > 0 && strings.IndexByte("()", s[i-1]) >= 0
		behind := i+1 < len(s) && strings.IndexByte("()", s[i+1]) >= 0
		switch {
		case c == ' ' && (before || behind):
			out.WriteString(g.blanks(0))
		case c == ' ':
			out.WriteString(g.blanks(1))
		case c == '(' || c == ')':
			out.WriteString(g.blanks(0) + string(c) + g.blanks(0))
		default:
			out.WriteByte(c)
		}
	}
	out.WriteString(g.blanks(0))
	return out.String()
}

func (g generator) blanks(least int) string {
	s := ""
	for range least + max(0, g.Intn(5)-2) {
		s += string(" \t\n"[g.Intn(3)])
	}
	return s
}

// split lays an empty part, or one of an i32, ahead of some parts that are there.
func (g generator) split(s string) string {
	for _, head := range []string{"param", "result", "field"} {
		for _, with := range []string{"(" + head + ") (" + head, "(" + head + " i32) (" + head} {
			if g.Intn(3) == 0 {
				s = strings.Replace(s, "("+head, with, 1)
			}
		}
	}
	return s
}

func TestTY1ParseRecOfMany(t *testing.T) {
	g := newGenerator(2)
	for range 5000 {
		r, text := g.rec()
		for _, s := range []string{text, g.spread(text)} {
			if got, at, e := types.ParseRec(s); !equal(got, r) || at != 0 || e != api.OK {
				t.Fatalf("ParseRec(%q): %v, %d, %d, not %v", s, got, at, e, r)
			}
		}
		// What is told then is the text without the borders of parts.
		cut := g.split(text)
		want := strings.NewReplacer("(param) ", "", "(result) ", "", "(field) ", "").Replace(cut)
		want = strings.NewReplacer("(param i32) (param", "(param i32", "(result i32) (result", "(result i32", "(field i32) (field", "(field i32").Replace(want)
		got, at, e := types.ParseRec(cut)
		if types.RecText(got) != want || at != 0 || e != api.OK {
			t.Fatalf("ParseRec(%q): %v, %d, %d, not %s", cut, got, at, e, want)
		}
	}
}

func TestTY1ParseOfMany(t *testing.T) {
	g := newGenerator(3)
	for range 3000 {
		v, text := g.val()
		for _, s := range []string{text, g.spread(text)} {
			if got, at, e := types.Parse(s); got != v || at != 0 || e != api.OK {
				t.Fatalf("Parse(%q): %v, %d, %d, not %v", s, got, at, e, v)
			}
		}
	}
}

// broken changes some words and brackets of a text.
func (g generator) broken(parts []string) string {
	words := strings.Fields("( ) ( ) rec sub final func struct array param result field mut ref null any i31 i32 i8 0 7 rec.2 007 rec. ? 1234567890 123456789 x")
	l := append([]string(nil), parts...)
	for range 1 + g.Intn(2) {
		i := g.Intn(len(l) + 1)
		word := words[g.Intn(len(words))]
		switch {
		case g.Intn(4) == 0:
			l = l[:i]
		case i < len(l) && g.Intn(2) == 0:
			l[i] = word
		case i < len(l) && g.Intn(2) == 0:
			l = append(l[:i], l[i+1:]...)
		default:
			l = append(l[:i], append([]string{word}, l[i:]...)...)
		}
	}
	return strings.Join(l, " ")
}

func TestTY1PlacesOfMany(t *testing.T) {
	g, o := newGenerator(4), newOracle()
	faults := 0
	for range 20000 {
		_, text := g.rec()
		s := g.blanks(0) + g.broken(o.parts.FindAllString(text, -1)) + g.blanks(0)
		want, ok := o.fault("REC", s)
		r, at, e := types.ParseRec(s)
		if ok && (at != 0 || e != api.OK) || !ok && (r.Types != nil || r.Explicit || at != want || e != api.ErrForm) {
			t.Fatalf("ParseRec(%q): %v, %d, %d, not %d, %v", s, r, at, e, want, ok)
		}
		if !ok {
			faults++
		}
		_, text = g.val()
		s = g.broken(o.parts.FindAllString(text, -1)) + g.blanks(0)
		want, ok = o.fault("VAL", s)
		v, at, e := types.Parse(s)
		if ok && (at != 0 || e != api.OK) || !ok && (v != (api.ValType{}) || at != want || e != api.ErrForm) {
			t.Fatalf("Parse(%q): %v, %d, %d, not %d, %v", s, v, at, e, want, ok)
		}
	}
	if faults < 5000 {
		t.Errorf("only %d texts had a fault", faults)
	}
}

// Each beginning of a text goes on, so that it is told to end too early.
func TestTY1ParseRecOfEachBeginning(t *testing.T) {
	g, o := newGenerator(5), newOracle()
	for range 200 {
		_, text := g.rec()
		for i := range text {
			want, ok := o.fault("REC", text[:i])
			if _, at, e := types.ParseRec(text[:i]); ok || at != want || e != api.ErrForm {
				t.Fatalf("ParseRec(%q): %d, %d, not %d", text[:i], at, e, want)
			}
		}
	}
}
