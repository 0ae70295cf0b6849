/-
  The writer: the walks of putList at value types, fields and numbers, and of valTypes; no statement is proved here.
-/
import Derived.Test.YtfnfbioenngjoaaDoorTopV
import Derived.Test.YtfnfbioenngjoaaDoorWr3
namespace Go.Proofs.YtfnfbioenngjoaaDoor
open Go.RowKit
set_option linter.unusedVariables false
set_option linter.unusedSimpArgs false
set_option linter.constructorNameAsVariable false

def manyW {α : Type} (wr : α → Except Nat (List Int)) : List α → Except Nat (List Int)
  | [] => .ok []
  | x :: r => thenW (wr x) (manyW wr r)
def listW {α : Type} (lim : Nat) (wr : α → Except Nat (List Int)) (xs : List α) : Except Nat (List Int) := if lim < xs.length then .error 2 else thenW (.ok (PU xs.length)) (manyW wr xs)
theorem thenW_nil (r : Except Nat (List Int)) : thenW r (.ok []) = r := by
  cases r with
  | error e => rfl
  | ok m => simp [thenW]
theorem thenW_assoc (a b c : Except Nat (List Int)) : thenW a (thenW b c) = thenW (thenW a b) c := by
  cases a with
  | error e => rfl
  | ok m =>
    cases b with
    | error e => rfl
    | ok n =>
      cases c with
      | error e => rfl
      | ok k => simp [thenW]
theorem manyW_drop {α : Type} {wr : α → Except Nat (List Int)} {xs : List α} {i : Nat} {x : α} (hx : xs[i]? = some x) (m : List Int) : thenW (.ok m) (manyW wr (xs.drop i)) = thenW (thenW (.ok m) (wr x)) (manyW wr (xs.drop (i + 1))) := by
  obtain ⟨h1, e1⟩ := List.getElem?_eq_some_iff.1 hx
  rw [List.drop_eq_getElem_cons h1, e1, manyW, thenW_assoc]
theorem uidxW_len {n : Int} {m : List Int} (h : uidxW n = .ok m) : m.length ≤ 11 := by
  unfold uidxW at h
  split at h
  · cases h; exact PU_len n
  · cases h
theorem fieldW_len {f : FT} {m : List Int} (h : fieldW f = .ok m) : m.length ≤ 13 := by
  unfold fieldW at h
  cases hx : storW f.ty with
  | error e => rw [hx] at h; cases h
  | ok k =>
    have := storW_len hx
    rw [hx] at h
    cases h
    simp [flagB]
    omega
end Go.Proofs.YtfnfbioenngjoaaDoor
