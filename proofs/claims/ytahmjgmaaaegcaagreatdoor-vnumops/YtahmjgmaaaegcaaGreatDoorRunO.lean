/-
  The walk of runOf; no statement is proved here.
-/
import Derived.Test.YtahmjgmaaaegcaaGreatDoorCutW
namespace Go.Proofs.YtahmjgmaaaegcaaGreatDoor
open Go.RowKit
set_option linter.unusedVariables false
set_option linter.unusedSimpArgs false

theorem lastF_snoc (op : Int) (r : Int × List UInt8 × List UInt8) : ∀ (l : List (Int × List UInt8 × List UInt8)) f, lastF op (l ++ [r]) f = if r.1 ≤ op then r else lastF op l f
  | [], f => rfl
  | a :: l, f => by rw [List.cons_append, lastF, lastF, lastF_snoc op r l]
theorem flat_at {α : Type} (f : α → List Value) (k : Nat) (hf : ∀ a, (f a).length = k) : ∀ (l : List α) (i : Nat) (x : α) (j : Nat), l[i]? = some x → j < k → (l.flatMap f)[i * k + j]? = (f x)[j]? := by
  intro l
  induction l with
  | nil => intro i x j h; simp at h
  | cons a l ih =>
    intro i x j h hj
    rw [List.flatMap_cons]
    cases i with
    | zero =>
      simp only [List.getElem?_cons_zero, Option.some.injEq] at h
      subst h
      rw [Nat.zero_mul, Nat.zero_add, List.getElem?_append_left (by rw [hf]; exact hj)]
    | succ i =>
      rw [List.getElem?_cons_succ] at h
      rw [List.getElem?_append_right (by rw [hf, Nat.succ_mul]; omega), hf, show (i + 1) * k + j - k = i * k + j by rw [Nat.succ_mul]; omega]
      exact ih i x j h hj
theorem RL_len : RL.length = 30 := by decide +kernel
theorem runs_cell {w : World} {b : Nat} (h : w.heap[b]? = some (.cells RUNS 84 (0, 0))) {k : Nat} {r : Int × List UInt8 × List UInt8} (hk : RL[k]? = some r) :
    w.cell? ⟨b, k * 3, none⟩ = some (.int .i64 r.1) ∧ w.cell? ⟨b, k * 3 + 1, none⟩ = some (.string (BA r.2.1)) ∧ w.cell? ⟨b, k * 3 + 2, none⟩ = some (.string (BA r.2.2)) := by
  have h0 := flat_at c3 3 (fun _ => rfl) RL k r 0 hk (by omega)
  have h1 := flat_at c3 3 (fun _ => rfl) RL k r 1 hk (by omega)
  have h2 := flat_at c3 3 (fun _ => rfl) RL k r 2 hk (by omega)
  refine ⟨?_, ?_, ?_⟩ <;> rw [cell_of h, RUNS, List.getElem?_toArray]
  · exact h0
  · exact h1
  · exact h2
theorem set3_obj {w : World} {b : Nat} {x y z : Value} {t : TypeId} {fr : Nat × Nat} (h : w.heap[b]? = some (.cells #[x, y, z] t fr)) (x' y' z' : Value) :
    (((w.setCell ⟨b, 0, none⟩ x').setCell ⟨b, 1, none⟩ y').setCell ⟨b, 2, none⟩ z').heap[b]? = some (.cells #[x', y', z'] t fr) := by
  have h1 := heap_set h 0 x'
  have h2 := heap_set h1 1 y'
  exact heap_set h2 2 z'
theorem set3_other {w : World} {b b' : Nat} {o : Obj} (h : w.heap[b']? = some o) (hb : b' ≠ b) (x y z : Value) :
    (((w.setCell ⟨b, 0, none⟩ x).setCell ⟨b, 1, none⟩ y).setCell ⟨b, 2, none⟩ z).heap[b']? = some o := heap_other (heap_other (heap_other h hb _) hb _) hb _
def R3 (r : Int × List UInt8 × List UInt8) : Value := .agg #[.int .i64 r.1, .string (BA r.2.1), .string (BA r.2.2)]
end Go.Proofs.YtahmjgmaaaegcaaGreatDoor
