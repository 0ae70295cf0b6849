/-
  Which types have a first value, to the program and to the document; no statement is proved here.
-/
import Derived.Test.YtkghplkmfpnhdaaGreatDoorTy
namespace Go.Proofs.YtkghplkmfpnhdaaGreatDoor
open Go.RowKit
set_option linter.unusedVariables false
set_option linter.unusedSimpArgs false

def defB (x : VT) : Bool := if x.num = 5 then x.null else decide (x.num = 1 ∨ x.num = 2 ∨ x.num = 3 ∨ x.num = 4 ∨ x.num = 6 ∨ x.num = 7)
set_option maxRecDepth 100000 in
theorem default_any (n h : Int) (z : Bool) (w : World) : Calls Tryz.prog 60 #[.agg #[.int .i64 n, .bool z, .int .i64 h]] w fun en w' => en = .returned (.bool (defB ⟨n, z, h⟩)) ∧ Grew w w' := by
  unfold defB
  simp only
  by_cases h5 : n = 5
  · subst h5
    rw [if_pos rfl]
    go_enter Tryz.func60, Tryz.ntmps60
    go_wp2_with fail
    go_ret
    exact ⟨rfl, by repeat (first | exact Grew.refl _ | refine Grew.alloc ?_ _)⟩
  rw [if_neg h5]
  by_cases h1 : n = 1
  · subst h1
    go_enter Tryz.func60, Tryz.ntmps60
    go_wp2_with fail
    go_ret
    exact ⟨rfl, by repeat (first | exact Grew.refl _ | refine Grew.alloc ?_ _)⟩
  by_cases h2 : n = 2
  · subst h2
    go_enter Tryz.func60, Tryz.ntmps60
    go_wp2_with fail
    go_ret
    exact ⟨rfl, by repeat (first | exact Grew.refl _ | refine Grew.alloc ?_ _)⟩
  by_cases h3 : n = 3
  · subst h3
    go_enter Tryz.func60, Tryz.ntmps60
    go_wp2_with fail
    go_ret
    exact ⟨rfl, by repeat (first | exact Grew.refl _ | refine Grew.alloc ?_ _)⟩
  by_cases h4 : n = 4
  · subst h4
    go_enter Tryz.func60, Tryz.ntmps60
    go_wp2_with fail
    go_ret
    exact ⟨rfl, by repeat (first | exact Grew.refl _ | refine Grew.alloc ?_ _)⟩
  by_cases h6 : n = 6
  · subst h6
    go_enter Tryz.func60, Tryz.ntmps60
    go_wp2_with fail
    go_ret
    exact ⟨rfl, by repeat (first | exact Grew.refl _ | refine Grew.alloc ?_ _)⟩
  by_cases h7 : n = 7
  · subst h7
    go_enter Tryz.func60, Tryz.ntmps60
    go_wp2_with fail
    go_ret
    exact ⟨rfl, by repeat (first | exact Grew.refl _ | refine Grew.alloc ?_ _)⟩
  have e : decide (n = 1 ∨ n = 2 ∨ n = 3 ∨ n = 4 ∨ n = 6 ∨ n = 7) = false := by simp [h1, h2, h3, h4, h6, h7]
  rw [e]
  have d1 : (n == 1) = false := by simpa using h1
  have d2 : (n == 2) = false := by simpa using h2
  have d3 : (n == 3) = false := by simpa using h3
  have d4 : (n == 4) = false := by simpa using h4
  have d5 : (n == 5) = false := by simpa using h5
  have d6 : (n == 6) = false := by simpa using h6
  have d7 : (n == 7) = false := by simpa using h7
  go_enter Tryz.func60, Tryz.ntmps60
  go_wp2_with fail
  go_ret
  exact ⟨rfl, by repeat (first | exact Grew.refl _ | refine Grew.alloc ?_ _)⟩
set_option maxRecDepth 100000 in
theorem rdefault_any (n h : Int) (z : Bool) (w : World) : Calls Tryz.prog 20 #[.agg #[.int .i64 n, .bool z, .int .i64 h]] w fun en w' => en = .returned (.bool (defB ⟨n, z, h⟩)) ∧ Grew w w' := by
  unfold defB
  simp only
  by_cases h5 : n = 5
  · subst h5
    rw [if_pos rfl]
    go_enter Tryz.func20, Tryz.ntmps20
    go_wp2_with fail
    go_ret
    exact ⟨rfl, by repeat (first | exact Grew.refl _ | refine Grew.alloc ?_ _)⟩
  rw [if_neg h5]
  have d5 : (n == 5) = false := by simpa using h5
  by_cases hl : 1 ≤ n
  · by_cases hg : n ≤ 4
    · have e : decide (n = 1 ∨ n = 2 ∨ n = 3 ∨ n = 4 ∨ n = 6 ∨ n = 7) = true := by simp; omega
      rw [e]
      go_enter Tryz.func20, Tryz.ntmps20
      go_wp2_with fail
      go_ret
      exact ⟨rfl, by repeat (first | exact Grew.refl _ | refine Grew.alloc ?_ _)⟩
    · by_cases h6 : n = 6
      · subst h6
        go_enter Tryz.func20, Tryz.ntmps20
        go_wp2_with fail
        go_ret
        exact ⟨rfl, by repeat (first | exact Grew.refl _ | refine Grew.alloc ?_ _)⟩
      by_cases h7 : n = 7
      · subst h7
        go_enter Tryz.func20, Tryz.ntmps20
        go_wp2_with fail
        go_ret
        exact ⟨rfl, by repeat (first | exact Grew.refl _ | refine Grew.alloc ?_ _)⟩
      have e : decide (n = 1 ∨ n = 2 ∨ n = 3 ∨ n = 4 ∨ n = 6 ∨ n = 7) = false := by simp; omega
      rw [e]
      have d6 : (n == 6) = false := by simpa using h6
      have d7 : (n == 7) = false := by simpa using h7
      go_enter Tryz.func20, Tryz.ntmps20
      go_wp2_with fail
      go_ret
      exact ⟨rfl, by repeat (first | exact Grew.refl _ | refine Grew.alloc ?_ _)⟩
  · have e : decide (n = 1 ∨ n = 2 ∨ n = 3 ∨ n = 4 ∨ n = 6 ∨ n = 7) = false := by simp; omega
    rw [e]
    have d6 : (n == 6) = false := by simp; omega
    have d7 : (n == 7) = false := by simp; omega
    go_enter Tryz.func20, Tryz.ntmps20
    go_wp2_with fail
    go_ret
    exact ⟨rfl, by repeat (first | exact Grew.refl _ | refine Grew.alloc ?_ _)⟩
end Go.Proofs.YtkghplkmfpnhdaaGreatDoor
