package instr

import "ratchet/opcode"

// run is opcodes that follow one another, named by the words of a text, behind what all of these names begin with.
type run struct {
	first int
	ahead string
	words string
}

const (
	wholeCompared = "eqz eq ne lt_s lt_u gt_s gt_u le_s le_u ge_s ge_u"
	wholeComputed = "clz ctz popcnt add sub mul div_s div_u rem_s rem_u and or xor shl shr_s shr_u rotl rotr"
	floatCompared = "eq ne lt gt le ge"
	floatComputed = "abs neg ceil floor trunc nearest sqrt add sub mul div min max copysign"
	truncated     = "trunc_f32_s trunc_f32_u trunc_f64_s trunc_f64_u"
	saturated     = "trunc_sat_f32_s trunc_sat_f32_u trunc_sat_f64_s trunc_sat_f64_u"
	rounded       = "convert_i32_s convert_i32_u convert_i64_s convert_i64_u"
	loads         = "i32.load i64.load f32.load f64.load i32.load8_s i32.load8_u i32.load16_s i32.load16_u i64.load8_s i64.load8_u i64.load16_s i64.load16_u i64.load32_s i64.load32_u"
	stores        = "i32.store i64.store f32.store f64.store i32.store8 i32.store16 i64.store8 i64.store16 i64.store32"
	reinterpreted = "i32.reinterpret_f32 i64.reinterpret_f64 f32.reinterpret_i32 f64.reinterpret_i64"
)

// runs are all instructions' names, by rising opcodes.
func runs() []run {
	return []run{
		{opcode.Unreachable, "", "unreachable nop block loop if else"},
		{opcode.Throw, "", "throw"},
		{opcode.ThrowRef, "", "throw_ref end br br_if br_table return call call_indirect return_call return_call_indirect call_ref return_call_ref"},
		{opcode.Drop, "", "drop select select_t"},
		{opcode.TryTable, "", "try_table local.get local.set local.tee global.get global.set table.get table.set"},
		{opcode.I32Load, "", loads},
		{opcode.I32Store, "", stores},
		{opcode.MemorySize, "memory.", "size grow"},
		{opcode.I32Const, "", "i32.const i64.const f32.const f64.const"},
		{opcode.I32Eqz, "i32.", wholeCompared},
		{opcode.I64Eqz, "i64.", wholeCompared},
		{opcode.F32Eq, "f32.", floatCompared},
		{opcode.F64Eq, "f64.", floatCompared},
		{opcode.I32Clz, "i32.", wholeComputed},
		{opcode.I64Clz, "i64.", wholeComputed},
		{opcode.F32Abs, "f32.", floatComputed},
		{opcode.F64Abs, "f64.", floatComputed},
		{opcode.I32WrapI64, "i32.", "wrap_i64 " + truncated},
		{opcode.I64ExtendI32S, "i64.", "extend_i32_s extend_i32_u " + truncated},
		{opcode.F32ConvertI32S, "f32.", rounded + " demote_f64"},
		{opcode.F64ConvertI32S, "f64.", rounded + " promote_f32"},
		{opcode.I32ReinterpretF32, "", reinterpreted},
		{opcode.I32Extend8S, "", "i32.extend8_s i32.extend16_s i64.extend8_s i64.extend16_s i64.extend32_s"},
		{opcode.RefNull, "", "ref.null ref.is_null ref.func ref.eq ref.as_non_null br_on_null br_on_non_null"},
		{opcode.StructNew, "struct.", "new new_default get get_s get_u set"},
		{opcode.ArrayNew, "array.", "new new_default new_fixed new_data new_elem get get_s get_u set len fill copy init_data init_elem"},
		{opcode.RefTest, "", "ref.test ref.test_null ref.cast ref.cast_null br_on_cast br_on_cast_fail any.convert_extern extern.convert_any ref.i31 i31.get_s i31.get_u"},
		{opcode.I32TruncSatF32S, "i32.", saturated},
		{opcode.I64TruncSatF32S, "i64.", saturated},
		{opcode.MemoryInit, "", "memory.init data.drop memory.copy memory.fill table.init elem.drop table.copy table.grow table.size table.fill"},
	}
}

// runOf is the last run that does not begin behind an opcode; whether that is one of its own, its words tell.
func runOf(op int) run {
	found := run{}
	for _, r := range runs() {
		if r.first <= op {
			found = r
		}
	}
	return found
}

// cut takes a text apart at its blanks.
func cut(text string) []string {
	var words []string
	start := 0
	for at, c := range text + " " {
		if c == ' ' {
			words = append(words, text[start:at])
			start = at + 1
		}
	}
	return words
}
