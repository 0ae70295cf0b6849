/-
  The document's reading: the walks of many and vals; no statement is proved here.
-/
import Derived.Test.YtfedijclhlchbaaGreatDoorDVal
namespace Go.Proofs.YtfedijclhlchbaaGreatDoor
open Go.RowKit
set_option linter.unusedVariables false
set_option linter.unusedSimpArgs false
set_option linter.constructorNameAsVariable false

theorem many_bd {l : List Int} (hb : Byt l) {most : Nat} {st : Except (Nat × Nat) Nat} (hs : ∀ p, st = .ok p → p ≤ l.length) {n : Int} {q : Nat} (h : runR (fun p => limR p (most : Int) (numR 32 false l p)) st = .ok (n, q)) : 0 ≤ n ∧ n ≤ most := by
  cases st with
  | error e => cases h
  | ok p =>
    have h' : limR p (most : Int) (numR 32 false l p) = .ok (n, q) := h
    rcases numR_ways (b := 32) (sg := false) (hs p rfl) with ⟨m, r, hr, _, _, hx⟩ | ⟨m, f, e, hr, _, _, _, hx⟩
    · rw [hx] at h'
      have := rd_32 hb hr
      simp only [limR] at h'
      split at h'
      · cases h'
      · simp only [Except.ok.injEq, Prod.mk.injEq] at h'
        omega
    · rw [hx] at h'
      cases h'
theorem dvalR_any {w : World} {b : Nat} {v : Value} {l : List Int} {st : Except (Nat × Nat) Nat} (h : DR w b v l st) :
    Calls Tryz.prog 33 #[.pointer (some ⟨b, 0, none⟩), .bool true, .bool false] w (DAns VT.v b v l w (runR (valR l) st)) := by
  have := dval_any true false h
  rwa [show valD true false l = valR l from funext (valD_val l h.byt)] at this
def DAnsV (b : Nat) (v : Value) (l : List Int) (w : World) (r : RS (List VT)) (en : Ending) (w' : World) : Prop := match r with
  | .ok (x, q) => ∃ rv, en = .returned rv ∧ RowV w.heap.size w' rv x ∧ FinD b v l w w' (.ok q)
  | .error (f, e) => ∃ rv x, en = .returned rv ∧ RowV w.heap.size w' rv x ∧ FinD b v l w w' (.error (f, e))
end Go.Proofs.YtfedijclhlchbaaGreatDoor
