/-
  The document's writer: the walk of sub; no statement is proved here.
-/
import Derived.Test.YtfnfbioenngjoaaDoorDw5
import Derived.Test.YtfnfbioenngjoaaDoorWr5
namespace Go.Proofs.YtfnfbioenngjoaaDoor
open Go.RowKit
set_option linter.unusedVariables false
set_option linter.unusedSimpArgs false
set_option linter.constructorNameAsVariable false

theorem list_eq {α : Type} (st : Except Nat (List Int)) (lim : Nat) (wr : α → Except Nat (List Int)) (xs : List α) :
    thenW (thenW (thenW st (needW (decide (xs.length ≤ lim)) 2)) (.ok (PU xs.length))) (manyW wr xs) = thenW st (listW lim wr xs) := by
  unfold listW
  by_cases h : xs.length ≤ lim
  · rw [decide_eq_true h, if_neg (by omega), thenW_yes, thenW_assoc]
  · rw [decide_eq_false h, if_pos (by omega), thenW_no, thenW_err]
theorem many_next {α : Type} {wr : α → Except Nat (List Int)} {xs : List α} {i : Nat} {x : α} (hx : xs[i]? = some x) (st : Except Nat (List Int)) : thenW st (manyW wr (xs.drop i)) = thenW (thenW st (wr x)) (manyW wr (xs.drop (i + 1))) := by
  have hd : xs.drop i = x :: xs.drop (i + 1) := by
    obtain ⟨h, e⟩ := List.getElem?_eq_some_iff.1 hx
    rw [← e]; exact List.drop_eq_getElem_cons h
  rw [hd, manyW, thenW_assoc]
theorem many_last {α : Type} {wr : α → Except Nat (List Int)} {xs : List α} {i : Nat} (hi : xs.length ≤ i) (st : Except Nat (List Int)) : thenW st (manyW wr (xs.drop i)) = st := by
  rw [List.drop_eq_nil_of_le hi, manyW, thenW_nil]
def okC (c : CT) : Prop := (∀ x ∈ c.params, okV x) ∧ (∀ x ∈ c.results, okV x) ∧ (∀ x ∈ c.fields, okV x.ty)
def szC (c : CT) : Nat := 40 + 12 * c.params.length + 12 * c.results.length + 13 * c.fields.length
end Go.Proofs.YtfnfbioenngjoaaDoor

namespace Go.Proofs.YtfnfbioenngjoaaDoor
open Go.RowKit
set_option linter.unusedVariables false
set_option linter.unusedSimpArgs false
set_option linter.constructorNameAsVariable false

def okS (x : SB) : Prop := (∀ n ∈ x.supers, -9223372036854775808 ≤ n ∧ n ≤ 9223372036854775807) ∧ okC x.comp
def szS (x : SB) : Nat := 20 + 11 * x.supers.length + szC x.comp
end Go.Proofs.YtfnfbioenngjoaaDoor
