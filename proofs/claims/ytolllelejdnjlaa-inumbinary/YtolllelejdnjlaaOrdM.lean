/-
  Plain facts on what Binary answers: comparisons; no statement is proved here.
-/
import Derived.Test.YtolllelejdnjlaaBinA
namespace Go.Proofs.Ytolllelejdnjlaa
open Go.RowKit
set_option linter.unusedVariables false
set_option linter.unusedSimpArgs false

theorem bv_cmp {op k t : Int} (a b : Int) (hk : kd op = k) (ht : tk op = t) (hg : gv op = 1) (h0 : 2 ≤ k) (h1 : k ≤ 11) :
    bv op a b = (if cmp t k (ct t a) (ct t b) then 1 else 0, 0) := by
  unfold bv
  rw [hk, ht, hg]
  have ha : ark k = 2 := by unfold ark; rw [if_neg (by omega), if_neg (by omega)]
  rw [ha, if_neg (by simp), if_neg (by omega), if_neg (by omega)]
  unfold bnx
  rw [if_pos h1]
  cases h : cmp t k (ct t a) (ct t b) <;> simp [ct]
theorem sg_eq {t a b : Int} (ht : t = 1 ∨ t = 2) (a0 : 0 ≤ a) (a1 : a < (if t = 1 then 4294967296 else 18446744073709551616)) (b0 : 0 ≤ b) (b1 : b < (if t = 1 then 4294967296 else 18446744073709551616)) : sg t a = sg t b ↔ a = b := by
  rcases ht with rfl | rfl <;> simp [sg] at * <;> omega
/- Of three just one: the seven answers of the comparisons. -/
theorem ord_seven {t : Int} {A B : Int} (s : Int) (hs : s = 0 ∨ s = 1) (ht : t = 1 ∨ t = 2) (a0 : 0 ≤ A) (a1 : A < (if t = 1 then 4294967296 else 18446744073709551616)) (b0 : 0 ≤ B) (b1 : B < (if t = 1 then 4294967296 else 18446744073709551616)) :
    let v := fun (k x y : Int) => (if cmp t k x y then (1 : Int) else 0)
    (v 2 A B = 1 ∧ v 3 A B = 0 ∧ v (4 + s) A B = 0 ∧ v (6 + s) A B = 0 ∧ v (8 + s) A B = 1 ∧ v (10 + s) A B = 1 ∧ v (6 + s) B A = 0) ∨
    (v 2 A B = 0 ∧ v 3 A B = 1 ∧ v (4 + s) A B = 1 ∧ v (6 + s) A B = 0 ∧ v (8 + s) A B = 1 ∧ v (10 + s) A B = 0 ∧ v (6 + s) B A = 1) ∨
    (v 2 A B = 0 ∧ v 3 A B = 1 ∧ v (4 + s) A B = 0 ∧ v (6 + s) A B = 1 ∧ v (8 + s) A B = 0 ∧ v (10 + s) A B = 1 ∧ v (6 + s) B A = 0) := by
  have he := sg_eq ht a0 a1 b0 b1
  intro v
  have hv : ∀ k x y, v k x y = if cmpx k x y (sg t x) (sg t y) then 1 else 0 := fun _ _ _ => rfl
  simp only [hv]
  by_cases e : A = B
  · left
    subst e
    rcases hs with rfl | rfl <;> simp [cmpx]
  · right
    rcases hs with rfl | rfl
    · by_cases l : sg t A < sg t B
      · left; simp [cmpx, e, l]; omega
      · right; simp [cmpx, e, l]; omega
    · by_cases l : A < B
      · left; simp [cmpx, e, l]; omega
      · right; simp [cmpx, e, l]; omega
end Go.Proofs.Ytolllelejdnjlaa
