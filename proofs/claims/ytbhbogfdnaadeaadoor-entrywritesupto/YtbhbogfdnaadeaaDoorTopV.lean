/-
  The deferred functions that recover; no statement is proved here.
-/
import Derived.Test.YtbhbogfdnaadeaaDoorLstF
import Derived.Defers
import Derived.Recover
namespace Go.Proofs.YtbhbogfdnaadeaaDoor
open Go.RowKit
set_option linter.unusedVariables false
set_option linter.unusedSimpArgs false
set_option linter.constructorNameAsVariable false

def ic (n : Int) (t : TypeId) : Obj := .cells #[.int .i64 n] t (0, 0)
theorem assertF (v : Value) (w : World) : (Instr.typeAssert (.iface 126 v) 20 126 false).run Tryd.prog w = .ok v w := by kernel_rfl
theorem heap_four (w : World) (o1 o2 o3 o4 : Obj) : ((((w.alloc o1).alloc o2).alloc o3).alloc o4).heap[w.heap.size]? = some o1 ∧ ((((w.alloc o1).alloc o2).alloc o3).alloc o4).heap[w.heap.size + 1]? = some o2 ∧ ((((w.alloc o1).alloc o2).alloc o3).alloc o4).heap[w.heap.size + 1 + 1]? = some o3 ∧ ((((w.alloc o1).alloc o2).alloc o3).alloc o4).heap[w.heap.size + 1 + 1 + 1]? = some o4 := by
  have h1 : (w.alloc o1).heap.size = w.heap.size + 1 := by simp
  have h2 : ((w.alloc o1).alloc o2).heap.size = w.heap.size + 1 + 1 := by simp
  have h3 : (((w.alloc o1).alloc o2).alloc o3).heap.size = w.heap.size + 1 + 1 + 1 := by simp
  refine ⟨heap_alloc (heap_alloc (heap_alloc (heap_alloc_last _ _) _) _) _, ?_, ?_, ?_⟩
  · rw [← h1]
    exact heap_alloc (heap_alloc (heap_alloc_last _ _) _) _
  · rw [← h2]
    exact heap_alloc (heap_alloc_last _ _) _
  · rw [← h3]
    exact heap_alloc_last _ _
theorem heap_three (w : World) (o1 o2 o3 : Obj) : (((w.alloc o1).alloc o2).alloc o3).heap[w.heap.size]? = some o1 ∧ (((w.alloc o1).alloc o2).alloc o3).heap[w.heap.size + 1]? = some o2 ∧ (((w.alloc o1).alloc o2).alloc o3).heap[w.heap.size + 1 + 1]? = some o3 := by
  have h1 : (w.alloc o1).heap.size = w.heap.size + 1 := by simp
  have h2 : ((w.alloc o1).alloc o2).heap.size = w.heap.size + 1 + 1 := by simp
  refine ⟨heap_alloc (heap_alloc (heap_alloc_last _ _) _) _, ?_, ?_⟩
  · rw [← h1]
    exact heap_alloc (heap_alloc_last _ _) _
  · rw [← h2]
    exact heap_alloc_last _ _
/- What a call at a place answers. -/
def topR {α : Type} (R : Nat → RS α) (z : α) (l : List Int) (x : Int) : α × Int × Int :=
  if 0 ≤ x ∧ x ≤ l.length then match R x.toNat with
    | .ok (a, q) => (a, q, 0)
    | .error (f, e) => (z, f, e)
  else (z, 0, 1)
theorem topR_in {α : Type} {R : Nat → RS α} {z : α} {l : List Int} {p : Nat} (hp : p ≤ l.length) : topR R z l p = match R p with
    | .ok (a, q) => (a, (q : Int), 0)
    | .error (f, e) => (z, (f : Int), (e : Int)) := by
  unfold topR
  rw [if_pos (by omega), Int.toNat_natCast]
theorem topR_out {α : Type} {R : Nat → RS α} {z : α} {l : List Int} {x : Int} (h : ¬ (0 ≤ x ∧ x ≤ l.length)) : topR R z l x = (z, 0, 1) := by
  unfold topR; rw [if_neg h]
def ansV (x : VT × Int × Int) : Value := .tuple #[x.1.v, .int .i64 x.2.1, .int .i64 x.2.2]
def ansR (x : VT × Int × Int) : Value := .tuple #[x.1.v, .int .i64 x.2.1, .int .i64 x.2.2]
end Go.Proofs.YtbhbogfdnaadeaaDoor
