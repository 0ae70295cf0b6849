package fnum

// kind is what an operator does, whatever its width. The kinds of a family stand in the order of its opcodes.
type kind int

const (
	none kind = iota

	eq
	ne
	lt
	gt
	le
	ge

	abs
	neg
	ceil
	floor
	trunc
	nearest
	sqrt

	add
	sub
	mul
	div
	least
	greatest
	copysign

	truncate
	saturate
	round
	demote
	promote
	keep
)

// row is a run of opcodes. A family is named by its first kind.
type row struct {
	family      kind
	width       int
	first, last int
}

var rows = [...]row{
	{eq, 32, 0x5b, 0x60},
	{eq, 64, 0x61, 0x66},
	{abs, 32, 0x8b, 0x91},
	{abs, 64, 0x99, 0x9f},
	{add, 32, 0x92, 0x98},
	{add, 64, 0xa0, 0xa6},
}

// find tells the kind and the width of an operator; the kind is none where the family has no such one.
func find(family kind, op int) (kind, int) {
	for _, r := range rows {
		if r.family == family && r.first <= op && op <= r.last {
			return family + kind(op-r.first), r.width
		}
	}
	return none, 0
}

// conversion is an operator of Convert: the widths of what it takes and gives, and how the whole number among them is read.
type conversion struct {
	kind     kind
	from, to int
	signed   bool
}

// The ends of the table of conversions, and those of the opcodes behind the prefix fc.
const (
	firstConversion = 0xa8
	lastConversion  = 0xbf
	firstSaturating = 0xfc00
	lastSaturating  = 0xfc07
)

var conversions = [...]conversion{
	// a8
	{truncate, 32, 32, true},
	{truncate, 32, 32, false},
	{truncate, 64, 32, true},
	{truncate, 64, 32, false},
	// ac and ad bring whole numbers to whole numbers: they are not of this layer
	{none, 0, 0, false},
	{none, 0, 0, false},
	// ae
	{truncate, 32, 64, true},
	{truncate, 32, 64, false},
	{truncate, 64, 64, true},
	{truncate, 64, 64, false},
	// b2
	{round, 32, 32, true},
	{round, 32, 32, false},
	{round, 64, 32, true},
	{round, 64, 32, false},
	{demote, 64, 32, false},
	// b7
	{round, 32, 64, true},
	{round, 32, 64, false},
	{round, 64, 64, true},
	{round, 64, 64, false},
	{promote, 32, 64, false},
	// bc
	{keep, 32, 32, false},
	{keep, 64, 64, false},
	{keep, 32, 32, false},
	{keep, 64, 64, false},
}

// findConversion tells the conversion of an opcode; its kind is none where there is no such one.
func findConversion(op int) conversion {
	saturates := firstSaturating <= op && op <= lastSaturating
	if saturates {
		op = trapping(op)
	}
	if op < firstConversion || lastConversion < op {
		return conversion{}
	}
	c := conversions[op-firstConversion]
	if saturates {
		c.kind = saturate
	}
	return c
}

// trapping is the opcode of the conversion that traps where this one saturates: four to i32, and behind a gap four to i64.
func trapping(op int) int {
	n := op - firstSaturating
	if n < 4 {
		return 0xa8 + n
	}
	return 0xae + n - 4
}
