/-
  The walks of HasPrefix and CutPrefix; no statement is proved here.
-/
import Derived.Test.YtahmjgmaaaegcaaGreatDoorNameW
namespace Go.Proofs.YtahmjgmaaaegcaaGreatDoor
open Go.RowKit
set_option linter.unusedVariables false
set_option linter.unusedSimpArgs false

theorem BA_toList (l : List UInt8) : (BA l).toList = l := by rw [ByteArray.toList_eq]; simp [BA]
theorem BA_eq (a b : List UInt8) : ((BA a).toList == (BA b).toList) = decide (a = b) := by rw [BA_toList, BA_toList]; by_cases h : a = b <;> simp [h]
theorem take_app (p x : List UInt8) : (p ++ x).take p.length = p := by simp
end Go.Proofs.YtahmjgmaaaegcaaGreatDoor
