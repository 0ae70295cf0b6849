/-
  The closures of the program's replaced, Roll, Unroll; no statement is proved here.
-/
import Derived.Test.YtojkonoffdlbpaaDoorEach
namespace Go.Proofs.YtojkonoffdlbpaaDoor
open Go.RowKit
set_option linter.unusedVariables false
set_option linter.unusedSimpArgs false

theorem row_same {w w' : World} {B : Nat} {e : TypeId} {k : Nat} {v : Value} {n : Nat} {cs : List Value} (h : w.ownsRow B e k v n cs) (hg : ∀ g, v.ownBlock = some g → w'.heap[g]? = w.heap[g]?) : w'.ownsRow B e k v n cs := by
  obtain ⟨h1, h2 | ⟨g, cap, cur, hv, hB, hgg, h3⟩⟩ := h
  · exact ⟨h1, Or.inl h2⟩
  · exact ⟨h1, Or.inr ⟨g, cap, cur, hv, hB, (hg g (by rw [hv]; rfl)).trans hgg, h3⟩⟩
def bobj (b : Bool) : Obj := .cells #[.bool b] 4 (0, 0)
def iobj (n : Int) : Obj := .cells #[.int .i64 n] 3 (0, 0)
/- What the closure leaves: the number is turned, and the flag is set still. -/
structure RepO (g j okb : Nat) (m : Int) (w w' : World) : Prop where
  turn : TurnP (fun k => k = g ∨ k = okb) w w'
  num : w'.heap[g]? = (w.setCell ⟨g, j, none⟩ (.int .i64 m)).heap[g]?
  ok : w'.heap[okb]? = some (bobj true)
end Go.Proofs.YtojkonoffdlbpaaDoor
