package inum

import (
	"ratchet/api"
)

// kind is what an operator does, whatever its width. The kinds stand in the order of the opcodes of 32 bits.
type kind int

const (
	none kind = iota
	eqz
	eq
	ne
	ltS
	ltU
	gtS
	gtU
	leS
	leU
	geS
	geU
	clz
	ctz
	popcnt
	add
	sub
	mul
	divS
	divU
	remS
	remU
	and
	or
	xor
	shl
	shrS
	shrU
	rotl
	rotr
	extend8S
	extend16S
	extend32S
	wrapI64
	extendI32S
	extendI32U
)

// The ends of the table of opcodes.
const (
	firstOp = 0x45
	lastOp  = 0xc4
)

// operator is a kind with the types of what it takes and of its answer.
type operator struct {
	kind         kind
	takes, gives int
}

// find tells the operator of an opcode; its kind is none where there is no such one. An opcode of 64 bits is brought to its twin of 32 bits, whose case then tells the kind of both.
func find(op int) operator {
	o := operator{none, api.TI32, api.TI32}
	switch {
	case 0x50 <= op && op <= 0x5a:
		o.takes = api.TI64
		op -= 0x50 - 0x45
		fallthrough
	case 0x45 <= op && op <= 0x4f:
		o.kind = eqz + kind(op-0x45)
	case 0x79 <= op && op <= 0x8a:
		o.takes, o.gives = api.TI64, api.TI64
		op -= 0x79 - 0x67
		fallthrough
	case 0x67 <= op && op <= 0x78:
		o.kind = clz + kind(op-0x67)
	case 0xc2 <= op && op <= 0xc4:
		o.takes, o.gives = api.TI64, api.TI64
		op -= 0xc2 - 0xc0
		fallthrough
	case 0xc0 <= op && op <= 0xc1:
		o.kind = extend8S + kind(op-0xc0)
	case op == 0xa7:
		o.kind, o.takes = wrapI64, api.TI64
	case 0xac <= op && op <= 0xad:
		o.kind, o.gives = extendI32S+kind(op-0xac), api.TI64
	}
	return o
}

// arity is the number of values that a kind takes; of none it is 0.
func (k kind) arity() int {
	switch k {
	case none:
		return 0
	case eqz, clz, ctz, popcnt, extend8S, extend16S, extend32S, wrapI64, extendI32S, extendI32U:
		return 1
	}
	return 2
}

func (k kind) divides() bool { return divS <= k && k <= remU }

// word is a kind's word in the document's table; of none it is empty.
func (k kind) word() string {
	words := [...]string{
		none: "", eqz: "eqz", eq: "eq", ne: "ne",
		ltS: "lt_s", ltU: "lt_u", gtS: "gt_s", gtU: "gt_u", leS: "le_s", leU: "le_u", geS: "ge_s", geU: "ge_u",
		clz: "clz", ctz: "ctz", popcnt: "popcnt",
		add: "add", sub: "sub", mul: "mul", divS: "div_s", divU: "div_u", remS: "rem_s", remU: "rem_u",
		and: "and", or: "or", xor: "xor",
		shl: "shl", shrS: "shr_s", shrU: "shr_u", rotl: "rotl", rotr: "rotr",
		extend8S: "extend8_s", extend16S: "extend16_s", extend32S: "extend32_s",
		wrapI64: "wrap_i64", extendI32S: "extend_i32_s", extendI32U: "extend_i32_u",
	}
	return words[k]
}
