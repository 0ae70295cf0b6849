/-
  Plain mathematics: the operators of the table by their opcodes, as functions of numbers; nothing of the program.
-/
namespace Go.Proofs.YtolllelejdnjlaaDoor
set_option linter.unusedVariables false

/- The kind of an opcode, the types of what it takes and of its answer. -/
def kd (op : Int) : Int :=
  if 80 ≤ op ∧ op ≤ 90 then op - 79 else if 69 ≤ op ∧ op ≤ 79 then op - 68
  else if 121 ≤ op ∧ op ≤ 138 then op - 109 else if 103 ≤ op ∧ op ≤ 120 then op - 91
  else if 194 ≤ op ∧ op ≤ 196 then op - 164 else if 192 ≤ op ∧ op ≤ 193 then op - 162
  else if op = 167 then 33 else if 172 ≤ op ∧ op ≤ 173 then op - 138 else 0
def tk (op : Int) : Int := if (80 ≤ op ∧ op ≤ 90) ∨ (121 ≤ op ∧ op ≤ 138) ∨ (194 ≤ op ∧ op ≤ 196) ∨ op = 167 then 2 else 1
def gv (op : Int) : Int := if (121 ≤ op ∧ op ≤ 138) ∨ (194 ≤ op ∧ op ≤ 196) ∨ (172 ≤ op ∧ op ≤ 173) then 2 else 1
theorem kd_bd (op : Int) : 0 ≤ kd op ∧ kd op ≤ 35 := by unfold kd; repeat' split <;> omega
theorem tk_or (op : Int) : tk op = 1 ∨ tk op = 2 := by unfold tk; split <;> simp
theorem gv_or (op : Int) : gv op = 1 ∨ gv op = 2 := by unfold gv; split <;> simp
/- How many values a kind takes. -/
def ark (k : Int) : Int := if k = 0 then 0 else if k = 1 ∨ k = 12 ∨ k = 13 ∨ k = 14 ∨ (30 ≤ k ∧ k ≤ 35) then 1 else 2
/- The low bits, the signed reading, the width of a type. -/
def ct (t a : Int) : Int := if t = 1 then a % 4294967296 else a
def sg (t a : Int) : Int := if t = 1 then (a + 2147483648) % 4294967296 - 2147483648 else (a + 9223372036854775808) % 18446744073709551616 - 9223372036854775808
def wd (t : Int) : Int := if t = 1 then 32 else 64
/- The comparisons. -/
def cmpx (k a b x y : Int) : Bool :=
  if k = 2 then a == b else if k = 3 then a != b else if k = 4 then decide (x < y) else if k = 5 then decide (a < b)
  else if k = 6 then decide (y < x) else if k = 7 then decide (b < a) else if k = 8 then decide (x ≤ y) else if k = 9 then decide (a ≤ b)
  else if k = 10 then decide (y ≤ x) else decide (b ≤ a)
def cmp (t k a b : Int) : Bool := cmpx k a b (sg t a) (sg t b)
end Go.Proofs.YtolllelejdnjlaaDoor
