package opcode_test

import (
	"go/ast"
	"go/constant"
	"go/parser"
	"go/token"
	"go/types"
	"strings"
	"testing"

	"ratchet/instr"
)

// constants are the package's, by their names.
func constants(t *testing.T) map[string]int {
	set := token.NewFileSet()
	file, err := parser.ParseFile(set, "opcode.go", nil, 0)
	if err != nil {
		t.Fatal(err)
	}
	pack, err := new(types.Config).Check("opcode", set, []*ast.File{file}, nil)
	if err != nil {
		t.Fatal(err)
	}
	out := map[string]int{}
	for _, name := range pack.Scope().Names() {
		n, ok := constant.Int64Val(pack.Scope().Lookup(name).(*types.Const).Val())
		if !ok {
			t.Errorf("%s is no number", name)
		}
		out[name] = int(n)
	}
	return out
}

// goName is an instruction's name as Go has it: each part with a great letter, all in one.
func goName(name string) string {
	out := ""
	for _, s := range strings.FieldsFunc(name, func(c rune) bool { return c == '.' || c == '_' }) {
		out += strings.ToUpper(s[:1]) + s[1:]
	}
	return out
}

func TestEachOpcodeHasItsName(t *testing.T) {
	all := constants(t)
	for _, op := range instr.Ops() {
		name := goName(instr.Name(op))
		if n, ok := all[name]; !ok || n != op {
			t.Errorf("%s: %x, %v, not %x", name, n, ok, op)
		}
	}
	if len(all) != len(instr.Ops()) {
		t.Errorf("%d names for %d opcodes", len(all), len(instr.Ops()))
	}
}
