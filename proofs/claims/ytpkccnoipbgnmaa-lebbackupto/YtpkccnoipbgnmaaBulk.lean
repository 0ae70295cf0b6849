/-
  What the bound of an upto statement gives: how long a slice of bytes among the arguments may be; no statement is proved here.
-/
import Derived.Test.YtpkccnoipbgnmaaArgs
import Derived.JoinedCond
namespace Go.Proofs.Ytpkccnoipbgnmaa
open Go.ChangeShapes Go.WideShapes Go.ChangeAt Go.RowKit

theorem bulk_lits {H : Type} (l : List Int) : Rows.uptoBulkAll (lits (H := H) .u8 l) = l.length := by
  induction l with
  | nil => rfl
  | cons x r ih =>
    simp only [lits, List.map_cons, Rows.uptoBulkAll, Rows.uptoBulk, List.length_cons] at ih ⊢
    omega
theorem bulk_bytes {H : Type} {d : DataW H} {len : Nat}
    (h : (d = .nil ∧ len = 0) ∨ ∃ zs : List Int, d = .slice (lits .u8 (zs.take len)) (lits .u8 (zs.drop len)) ∧ len ≤ zs.length) : len ≤ Rows.uptoBulk d := by
  rcases h with ⟨_, h⟩ | ⟨zs, rfl, hl⟩
  · omega
  · rw [Rows.uptoBulk, bulk_lits, bulk_lits, List.length_take]; omega
end Go.Proofs.Ytpkccnoipbgnmaa
