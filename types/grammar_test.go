package types_test

import (
	"regexp"
	"slices"
	"strings"
)

// grammar is the chapter's texts as rules, each a word's alternatives; what has no rule stands for itself, N for a number.
func grammar() map[string][]string {
	return map[string][]string{
		"REC":     {"( rec SUBS )", "SUB"},
		"SUBS":    {"", "SUB SUBS"},
		"SUB":     {"COMP", "( sub NS COMP )", "( sub final N NS COMP )"},
		"NS":      {"", "N NS"},
		"COMP":    {"( func PARAMS )", "( struct FIELDS )", "( array FIELD )"},
		"PARAMS":  {"RESULTS", "( param VALS ) PARAMS"},
		"RESULTS": {"", "( result VALS ) RESULTS"},
		"FIELDS":  {"", "( field LIST ) FIELDS"},
		"LIST":    {"", "FIELD LIST"},
		"FIELD":   {"VAL", "( mut VAL )"},
		"VALS":    {"", "VAL VALS"},
		"VAL":     {"i32", "i64", "f32", "f64", "i8", "i16", "( ref HEAP )", "( ref null HEAP )"},
		"HEAP":    append(abstractWords(), "N"),
	}
}

// oracle tells of a text, by trying all rules at once, whether it is one of start, and else the place of the first word or bracket with which none goes on.
type oracle struct {
	rules  map[string][]string
	number *regexp.Regexp
	parts  *regexp.Regexp
}

func newOracle() oracle {
	return oracle{grammar(), regexp.MustCompile(`^(rec\.)?(0|[1-9][0-9]{0,8})$`), regexp.MustCompile(`[()]|[^() \t\n]+`)}
}

// heads tells all rows of words and rules that a row stands for, each beginning with a word, or empty.
func (o oracle) heads(row []string, out [][]string) [][]string {
	if len(row) == 0 {
		return append(out, row)
	}
	rules, ok := o.rules[row[0]]
	if !ok {
		return append(out, row)
	}
	for _, rule := range rules {
		out = o.heads(append(strings.Fields(rule), row[1:]...), out)
	}
	return out
}

func (o oracle) goesWith(word, s string) bool {
	if word == "N" {
		return o.number.MatchString(s)
	}
	return word == s
}

func (o oracle) fault(start, s string) (int, bool) {
	rows := o.heads([]string{start}, nil)
	for _, place := range o.parts.FindAllStringIndex(s, -1) {
		var next [][]string
		for _, row := range rows {
			if len(row) > 0 && o.goesWith(row[0], s[place[0]:place[1]]) {
				next = o.heads(row[1:], next)
			}
		}
		if len(next) == 0 {
			return place[0], false
		}
		rows = next
	}
	whole := slices.ContainsFunc(rows, func(row []string) bool { return len(row) == 0 })
	if whole {
		return 0, true
	}
	return len(s), false
}
