/-
  The two kinds of floats: their numbers; no statement is proved here.
-/
import Derived.Test.YtjkebimmddlccaaDoorWorld
import Derived.Test.YtjkebimmddlccaaDoorBitF
import Derived.Deep.RegionHeld3
import Derived.WalkLawsBesides
import Derived.Laws.Externs
namespace Go.Proofs.YtjkebimmddlccaaDoor
open Go.RowKit
set_option linter.unusedVariables false
set_option linter.unusedSimpArgs false

def fv (f : Ieee.Format) : Value := .agg #[.int .i64 (f.fractionBits : Int), .int .i64 (f.exponentBits : Int)]
theorem fv1 : fv Ieee.single = .agg #[.int .i64 23, .int .i64 8] := rfl
theorem fv2 : fv Ieee.double = .agg #[.int .i64 52, .int .i64 11] := rfl
theorem sw1 : Ieee.single.signWeight = 2147483648 := by decide
theorem sw2 : Ieee.double.signWeight = 9223372036854775808 := by decide
theorem ir1 : Ieee.single.infRung = 2139095040 := by decide
theorem ir2 : Ieee.double.infRung = 9218868437227405312 := by decide
theorem bn1 : Ieee.single.binade = 8388608 := by decide
theorem bn2 : Ieee.double.binade = 4503599627370496 := by decide
theorem lp1 : Ieee.single.leastPlace = -149 := by decide
theorem lp2 : Ieee.double.leastPlace = -1074 := by decide
theorem wi1 : Ieee.single.width = 32 := by decide
theorem wi2 : Ieee.double.width = 64 := by decide
/- The canonical NaN. -/
def cn (f : Ieee.Format) : Nat := f.infRung + f.binade / 2
theorem cn1 : cn Ieee.single = 2143289344 := by decide
theorem cn2 : cn Ieee.double = 9221120237041090560 := by decide
theorem ne_self {f : Ieee.Format} (ht : Two f) (b : Nat) : (f.order b b != some Ordering.eq) = decide (f.infRung < sz f b) := by
  by_cases h : f.infRung < sz f b
  · rw [order_nan ht (Or.inl h)]; simp [h]
  · rw [order_key ht (by omega) (by omega)]; simp [h]
theorem beq_cast (x y : Nat) : (((x : Nat) : Int) == ((y : Nat) : Int)) = (x == y) := by
  rw [Bool.eq_iff_iff, beq_iff_eq, beq_iff_eq]; omega
end Go.Proofs.YtjkebimmddlccaaDoor
