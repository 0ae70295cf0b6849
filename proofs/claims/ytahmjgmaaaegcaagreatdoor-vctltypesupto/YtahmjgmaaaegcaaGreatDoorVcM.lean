/-
  The opcodes that vctl's Step takes, as plain data; what the map's keys are; no statement is proved here.
-/
import Derived.Test.YtahmjgmaaaegcaaGreatDoorVcp
import Derived.Lib.SlKeysI
namespace Go.Proofs.YtahmjgmaaaegcaaGreatDoor
open Go.RowKit Go.Maps
set_option linter.unusedVariables false
set_option linter.unusedSimpArgs false

def CL : List Int := [0, 1, 8, 10, 12, 13, 14, 15, 16, 17, 18, 19, 20, 21, 213, 214]
def inCL (op : Int) : Bool := CL.any (fun x => decide (x = op))
theorem CL_len : CL.length = 16 := by decide
def riseC : List Int → Bool
  | x :: y :: l => decide (x < y) && riseC (y :: l)
  | _ => true
theorem CL_rise : riseC CL = true := by decide
theorem riseC_at : ∀ (l : List Int) (j : Nat) (a b : Int), riseC l = true → l[j]? = some a → l[j + 1]? = some b → a < b
  | [], j, a, b, h, h1, h2 => by simp at h1
  | [x], j, a, b, h, h1, h2 => by simp at h2
  | x :: y :: l, 0, a, b, h, h1, h2 => by
    simp only [riseC, Bool.and_eq_true, decide_eq_true_eq] at h
    simp at h1 h2
    subst h1
    subst h2
    exact h.1
  | x :: y :: l, j + 1, a, b, h, h1, h2 => by
    simp only [riseC, Bool.and_eq_true, decide_eq_true_eq] at h
    rw [List.getElem?_cons_succ] at h1 h2
    exact riseC_at (y :: l) j a b h.2 h1 h2
theorem has_stepC {op n : Int} {j : Nat} (h : CL[j]? = some n) : (CL.take (j + 1)).any (fun x => decide (x = op)) = ((CL.take j).any (fun x => decide (x = op)) || decide (n = op)) := by
  obtain ⟨h', he⟩ := List.getElem?_eq_some_iff.1 h
  rw [List.take_succ_eq_append_getElem h', he, List.any_append]
  simp
def KC : List Int := [0, 1, 8, 10, 12, 13, 14, 15, 16, 18, 17, 19, 20, 21, 213, 214]
theorem KC_is : SLC.map (fun x => x.1) = KC := by decide
theorem KC_nodup : KC.Nodup := by decide
theorem KC_sorted : KC.mergeSort leI = CL := by
  rw [mergeSort_of_perm_i (show KC.Perm CL by decide)]
  exact List.mergeSort_of_pairwise (by decide)
theorem look_has (k : Int) : ∀ l : List (Int × Nat), lookS k l ≠ -1 ↔ k ∈ l.map (fun x => x.1)
  | [] => by simp [lookS]
  | x :: l => by
    rw [lookS, List.map_cons, List.mem_cons]
    by_cases h : x.1 = k
    · rw [if_pos h]
      exact ⟨fun _ => Or.inl h.symm, fun _ e => by omega⟩
    · rw [if_neg h, look_has k l]
      exact ⟨Or.inr, fun o => o.resolve_left (fun e => h e.symm)⟩
theorem keysC {w : World} {b : Nat} (h : StC SLC 16 w b) : ∃ D : DataW Unit, w.ownsMap Tryz.prog 3 funElem b 16 D ∧ KC.Perm (intKeys D) ∧ Maps.size D ≤ 16 := by
  obtain ⟨D, hD, hF⟩ := h
  have hc : CollectedI D (fun _ => false) KC := by
    refine ⟨KC_nodup, fun x => ?_⟩
    rw [← KC_is, ← look_has, (hF.2 x).1]
    rw [List.take_of_length_le (by decide)]
    simp
  have hp := hc.perm hD lawI Tryz.underlying3 (fun _ => rfl)
  refine ⟨D, hD, hp, ?_⟩
  obtain ⟨es, hes, _⟩ := hD.entries lawI
  subst hes
  have hl := hp.length_eq
  have : KC.length = 16 := by decide
  simp only [intKeys, List.length_map] at hl
  simp only [Maps.size]
  omega
end Go.Proofs.YtahmjgmaaaegcaaGreatDoor
