/-
  The walks of the document's Number at the five kinds of numbers, within bounds; no statement is proved here.
-/
import Derived.Test.YtbhbogfdnaadeaaDoorReadA
namespace Go.Proofs.YtbhbogfdnaadeaaDoor
open Go.RowKit
set_option linter.unusedVariables false

theorem k8 {k : Nat} (h : k ≤ 8) : k = 0 ∨ k = 1 ∨ k = 2 ∨ k = 3 ∨ k = 4 ∨ k = 5 ∨ k = 6 ∨ k = 7 ∨ k = 8 := by omega
theorem wsRef_yes {X c : Int} {k : Nat} (hk : k ≤ 8) (h0 : 0 ≤ X) (hX : X < 2 ^ (7 * k)) (hc : 64 ≤ c) (hc' : c < 128) :
    ws (addAt X c k) (7 * k + 7) true = IntKind.u64.wrap (addAt X c k - IntKind.u64.wrap (2 ^ (7 * k + 7))) := by
  rw [IntKind.wrap_u64, IntKind.wrap_u64, ws, addAt]
  rcases k8 hk with rfl | rfl | rfl | rfl | rfl | rfl | rfl | rfl | rfl <;> simp at hX ⊢ <;> (rw [if_pos (by omega)]; omega)
theorem wsRef_no {X c : Int} {k : Nat} (h0 : 0 ≤ X) (hX : X < 2 ^ (7 * k)) (hc0 : 0 ≤ c) (hc : c < 64) :
    ws (addAt X c k) (7 * k + 7) true = addAt X c k := by
  by_cases hk : k ≤ 8
  · rw [ws, addAt]
    rcases k8 hk with rfl | rfl | rfl | rfl | rfl | rfl | rfl | rfl | rfl <;> simp at hX ⊢ <;> omega
  · rw [ws, if_neg (by omega)]
theorem ws9 {n : Int} {k : Nat} (hk : 9 ≤ k) : ws n (7 * k + 7) true = n := by rw [ws, if_neg (by omega)]
theorem wsU {n : Int} {k : Nat} : ws n k false = n := by simp [ws]
theorem addStep (X c : Int) (k : Nat) (h0 : 0 ≤ X) (hX : X < 2 ^ (7 * k)) (hk : k ≤ 9) : IntKind.u64.wrap (X + IntKind.u64.wrap (c % 128 * 2 ^ (7 * k))) = addAt X c k := by
  have := addAt_64 (c := c) h0 hX hk
  have h1 := addAt_lo (c := c) k h0
  unfold addAt at *
  rw [IntKind.wrap_u64, IntKind.wrap_u64]; omega

end Go.Proofs.YtbhbogfdnaadeaaDoor
