/-
  The walks of written at groups, and of PutRecType; no statement is proved here.
-/
import Derived.Test.YtfnfbioenngjoaaDoorWr5
import Derived.Test.YtfnfbioenngjoaaDoorAwk
namespace Go.Proofs.YtfnfbioenngjoaaDoor
open Go.RowKit
set_option linter.unusedVariables false
set_option linter.unusedSimpArgs false
set_option linter.constructorNameAsVariable false

theorem manyW_len {α : Type} {wr : α → Except Nat (List Int)} {K : Nat} (hK : ∀ x m, wr x = .ok m → m.length ≤ K) : ∀ (xs : List α) (m : List Int), manyW wr xs = .ok m → m.length ≤ K * xs.length
  | [], m, h => by cases h; simp
  | x :: r, m, h => by
    rw [manyW] at h
    cases h1 : wr x with
    | error e => rw [h1] at h; cases h
    | ok a =>
      cases h2 : manyW wr r with
      | error e => rw [h1, h2] at h; cases h
      | ok b =>
        rw [h1, h2] at h
        cases h
        have := hK x a h1
        have := manyW_len hK r b h2
        simp [Nat.mul_add]
        omega
theorem listW_len {α : Type} {wr : α → Except Nat (List Int)} {K lim : Nat} (hK : ∀ x m, wr x = .ok m → m.length ≤ K) {xs : List α} {m : List Int} (h : listW lim wr xs = .ok m) : m.length ≤ 11 + K * lim := by
  unfold listW at h
  split at h
  · cases h
  · rename_i hl
    cases h2 : manyW wr xs with
    | error e => rw [h2] at h; cases h
    | ok b =>
      rw [h2] at h
      cases h
      have h3 := manyW_len hK xs b h2
      have h4 := PU_len (xs.length : Int)
      have h5 : K * xs.length ≤ K * lim := Nat.mul_le_mul_left K (by omega)
      simp
      omega
theorem code_6 : codeR 6 1 = .ok [96] ∧ codeR 6 2 = .ok [95] ∧ codeR 6 3 = .ok [94] := ⟨rfl, rfl, rfl⟩
theorem whole_kind {c : CT} (h : wholeC c = true) : c.kind = 1 ∨ c.kind = 2 ∨ c.kind = 3 := by
  unfold wholeC at h
  split at h
  · left; assumption
  · split at h
    · right; left; assumption
    · split at h
      · right; right; assumption
      · cases h
theorem whole_arr {c : CT} (h : wholeC c = true) (hk : c.kind = 3) : c.fields.length = 1 := by
  unfold wholeC at h
  rw [if_neg (by omega), if_neg (by omega), if_pos hk] at h
  exact (of_decide_eq_true h).2.2
end Go.Proofs.YtfnfbioenngjoaaDoor

namespace Go.Proofs.YtfnfbioenngjoaaDoor
open Go.RowKit
set_option linter.unusedVariables false
set_option linter.unusedSimpArgs false
set_option linter.constructorNameAsVariable false

theorem declW_len {x : SB} {m : List Int} (h : declW x = .ok m) : m.length ≤ 12000 := by
  unfold declW at h
  cases hy : listW 1000 uidxW x.supers with
  | error e => rw [hy] at h; cases h
  | ok k =>
    have := listW_len (K := 11) (fun _ _ h => uidxW_len h) hy
    rw [hy] at h
    cases h
    simp
    omega
end Go.Proofs.YtfnfbioenngjoaaDoor

namespace Go.Proofs.YtfnfbioenngjoaaDoor
open Go.RowKit
set_option linter.unusedVariables false
set_option linter.unusedSimpArgs false
set_option linter.constructorNameAsVariable false

theorem compW_len {c : CT} {m : List Int} (h : compW c = .ok m) : m.length ≤ 150000 := by
  unfold compW at h
  split at h
  · split at h
    · cases h1 : listW 1000 valW c.params with
      | error e => rw [h1] at h; cases h
      | ok a =>
        have := listW_len (K := 12) (fun _ _ h => valW_len h) h1
        cases h2 : listW 1000 valW c.results with
        | error e => rw [h1, h2] at h; cases h
        | ok b =>
          have := listW_len (K := 12) (fun _ _ h => valW_len h) h2
          rw [h1, h2] at h
          cases h
          simp
          omega
    · split at h
      · cases h1 : listW 10000 fieldW c.fields with
        | error e => rw [h1] at h; cases h
        | ok a =>
          have := listW_len (K := 13) (fun _ _ h => fieldW_len h) h1
          rw [h1] at h
          cases h
          simp
          omega
      · cases h1 : fieldW (c.fields.headD ⟨⟨0, false, 0⟩, false⟩) with
        | error e => rw [h1] at h; cases h
        | ok a =>
          have := fieldW_len h1
          rw [h1] at h
          cases h
          simp
          omega
  · cases h
theorem subW_len {x : SB} {m : List Int} (h : subW x = .ok m) : m.length ≤ 170000 := by
  unfold subW at h
  split at h
  · cases h1 : declW x with
    | error e => rw [h1] at h; cases h
    | ok a =>
      have := declW_len h1
      cases h2 : compW x.comp with
      | error e => rw [h1, h2] at h; cases h
      | ok b =>
        have := compW_len h2
        rw [h1, h2] at h
        cases h
        simp
        omega
  · have := compW_len h
    omega
def smallS (x : SB) : Prop := x.comp.params.length ≤ 1073741824 ∧ x.comp.results.length ≤ 1073741824
end Go.Proofs.YtfnfbioenngjoaaDoor

namespace Go.Proofs.YtfnfbioenngjoaaDoor
open Go.RowKit
set_option linter.unusedVariables false
set_option linter.unusedSimpArgs false
set_option linter.constructorNameAsVariable false

theorem WT.tb {b B : Nat} {w w' : World} (h : WT b B w w') : TB b B w w' := ⟨h.os, h.tape, h.output, h.size, fun k hk h1 h2 => h.block k hk h1 (Or.inl h2)⟩
theorem W2.wans {b B : Nat} {w : World} {l : List Int} {r : Except Nat (List Int)} {n : FuncId} {args : Array Value} (h : Calls Tryd.prog n args w (W2 b B w l r)) : Calls Tryd.prog n args w (WAns b B w l r) := by
  refine h.mono fun en w' hh => ?_
  cases r with
  | ok m => exact ⟨hh.1, hh.2.1.tb, hh.2.2⟩
  | error e => exact ⟨hh.1, hh.2.tb⟩
end Go.Proofs.YtfnfbioenngjoaaDoor
