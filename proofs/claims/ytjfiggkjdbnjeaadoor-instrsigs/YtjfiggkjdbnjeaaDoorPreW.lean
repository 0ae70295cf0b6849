/-
  The walks of HasPrefix and CutPrefix; no statement is proved here.
-/
import Derived.Test.YtjfiggkjdbnjeaaDoorNameW
namespace Go.Proofs.YtjfiggkjdbnjeaaDoor
open Go.RowKit
set_option linter.unusedVariables false
set_option linter.unusedSimpArgs false

theorem BA_toList (l : List UInt8) : (BA l).toList = l := by rw [ByteArray.toList_eq]; simp [BA]
theorem BA_eq (a b : List UInt8) : ((BA a).toList == (BA b).toList) = decide (a = b) := by rw [BA_toList, BA_toList]; by_cases h : a = b <;> simp [h]
theorem take_app (p x : List UInt8) : (p ++ x).take p.length = p := by simp
set_option maxRecDepth 100000 in
theorem hasPrefix_any (s p : List UInt8) (hl : s.length ≤ 9223372036854775807) (hp : p.length ≤ 1000) (w : World) :
    Calls Tryd.prog 186 #[.string (BA s), .string (BA p)] w fun e w' => e = .returned (.bool (decide (p.length ≤ s.length ∧ s.take p.length = p))) ∧ w' = w := by
  have z1 := BA_size s
  have z2 := BA_size p
  by_cases h : p.length ≤ s.length
  · have hsl : ∀ W, (Instr.slice 9 (.string (BA s)) none (some (.int .i64 (p.length : Int))) none).run Tryd.prog W = .ok (.string (BA (s.take p.length))) W := by
      intro W
      rw [run_slice_string_to_if W 9 _ _ _ Tryd.underlying9, if_pos ⟨by omega, by rw [z1]; omega⟩, Int.toNat_natCast, BA_extract]
      rfl
    have e1 : Hid (decide (p.length ≤ s.length ∧ s.take p.length = p) = ((BA (s.take p.length)).toList == (BA p).toList)) := by
      show _ = _
      rw [BA_eq]
      simp [h]
    go_enter Tryd.func186, Tryd.ntmps186
    go_wp2
    go_ret
    rw [e1.out]
    exact ⟨rfl, rfl⟩
  · have e1 : Hid (decide (p.length ≤ s.length ∧ s.take p.length = p) = false) := by show _ = _; simp; omega
    go_enter Tryd.func186, Tryd.ntmps186
    go_wp2
    go_ret
    rw [e1.out]
    exact ⟨rfl, rfl⟩
end Go.Proofs.YtjfiggkjdbnjeaaDoor
