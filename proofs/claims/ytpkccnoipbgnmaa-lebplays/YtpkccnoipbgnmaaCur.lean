/-
  Cursors in memory: the program's (six cells) and the document's (five cells); one block turns, all else that was there stays; no statement is proved here.
-/
import Derived.Test.YtpkccnoipbgnmaaReaders
import Derived.Deep.QuietTactic
import Derived.BigQuiet
namespace Go.Proofs.Ytpkccnoipbgnmaa
open Go.RowKit
set_option linter.unusedVariables false

/- Of what lay in w only block bc may have turned: it is o now. -/
structure Put (bc : Nat) (o : Obj) (w w' : World) : Prop where
  os : w'.os = w.os
  tape : w'.tape = w.tape
  output : w'.output = w.output
  size : w.heap.size ≤ w'.heap.size
  block : ∀ k, k < w.heap.size → k ≠ bc → w'.heap[k]? = w.heap[k]?
  now : w'.heap[bc]? = some o
  old : bc < w.heap.size

theorem lt_of_obj {w : World} {k : Nat} {o : Obj} (h : w.heap[k]? = some o) : k < w.heap.size := (Array.getElem?_eq_some_iff.1 h).1
theorem Put.refl {bc : Nat} {o : Obj} {w : World} (h : w.heap[bc]? = some o) : Put bc o w w := ⟨rfl, rfl, rfl, Nat.le_refl _, fun _ _ _ => rfl, h, lt_of_obj h⟩
theorem Put.alloc {bc : Nat} {o : Obj} {w w' : World} (h : Put bc o w w') (x : Obj) : Put bc o w (w'.alloc x) := by
  have := h.size
  have := h.old
  refine ⟨h.os, h.tape, h.output, by simp; omega, fun k hk hn => ?_, ?_, h.old⟩
  · rw [Below.heap_alloc _ _ _ (by omega)]; exact h.block k hk hn
  · rw [Below.heap_alloc _ _ _ (by omega)]; exact h.now
theorem Put.drew {bc : Nat} {o : Obj} {w w' : World} (h : Put bc o w w') : Put bc o w w'.drew := ⟨h.os, h.tape, h.output, h.size, h.block, h.now, h.old⟩
theorem Put.drewN {bc : Nat} {o : Obj} {w w' : World} (h : Put bc o w w') (n : Nat) : Put bc o w (w'.drewN n) := ⟨h.os, h.tape, h.output, h.size, h.block, h.now, h.old⟩
theorem Put.setNew {bc : Nat} {o : Obj} {w w' : World} (h : Put bc o w w') {p : Addr} (hp : w.heap.size ≤ p.block) (u : Value) : Put bc o w (w'.setCell p u) := by
  have := h.old
  refine ⟨h.os, h.tape, h.output, by simpa [World.setCell] using h.size, fun k hk hn => ?_, ?_, h.old⟩
  · rw [Below.heap_setCell _ _ _ _ (by omega)]; exact h.block k hk hn
  · rw [Below.heap_setCell _ _ _ _ (by omega)]; exact h.now
theorem Put.setOwn {bc : Nat} {cs : Array Value} {ty : TypeId} {fr : Nat × Nat} {w w' : World} (h : Put bc (.cells cs ty fr) w w') (j : Nat) (u : Value) :
    Put bc (.cells (cs.setIfInBounds j u) ty fr) w (w'.setCell ⟨bc, j, none⟩ u) := by
  have hn := h.now
  refine ⟨h.os, h.tape, h.output, by simpa [World.setCell] using h.size, fun k hk hk' => ?_, ?_, h.old⟩
  · rw [Below.heap_setCell _ _ _ _ hk']; exact h.block k hk hk'
  · simp only [World.setCell, Array.getElem?_modify, if_true]
    rw [hn]
    simp
theorem Put.trans {bc : Nat} {o o' : Obj} {w w1 w2 : World} (h : Put bc o w w1) (k : Put bc o' w1 w2) : Put bc o' w w2 :=
  ⟨k.os.trans h.os, k.tape.trans h.tape, k.output.trans h.output, Nat.le_trans h.size k.size, fun i hi hn => (k.block i (Nat.lt_of_lt_of_le hi h.size) hn).trans (h.block i hi hn), k.now, h.old⟩
theorem Put.of_below {bc : Nat} {o : Obj} {w w' : World} (h : Below w.heap.size w w') (ho : w.heap[bc]? = some o) : Put bc o w w' :=
  ⟨h.os, h.tape, h.output, h.size, fun k hk _ => h.block k hk, (h.block bc (lt_of_obj ho)).trans ho, lt_of_obj ho⟩
theorem Put.below {bc B : Nat} {o : Obj} {w w' : World} (h : Put bc o w w') (hB : B ≤ bc) (hs : B ≤ w.heap.size) : Below B w w' :=
  ⟨h.os, h.tape, h.output, h.size, fun k hk => h.block k (by omega) (by omega)⟩
theorem Put.other {bc b : Nat} {o o' : Obj} {w w' : World} (h : Put bc o w w') (ho : w.heap[b]? = some o') (hn : b ≠ bc) : w'.heap[b]? = some o' :=
  (h.block b (lt_of_obj ho) hn).trans ho

/- The two cursors' blocks. -/
def ccur (vb : Value) (f t pl wy : Int) : Obj := .cells #[vb, .int .i64 f, .int .i64 t, .bool true, .int .i64 pl, .int .i64 wy] 72 (0, 0)
def dcur (vb : Value) (f t pl wy : Int) : Obj := .cells #[vb, .int .i64 f, .int .i64 t, .int .i64 pl, .int .i64 wy] 49 (0, 0)

theorem cell_of {w : World} {b : Nat} {cs : Array Value} {ty : TypeId} {fr : Nat × Nat} (h : w.heap[b]? = some (.cells cs ty fr)) (j : Nat) : w.cell? ⟨b, j, none⟩ = cs[j]? := by
  unfold World.cell?; rw [h]; simp
theorem free_of {w : World} {b : Nat} {cs : Array Value} {ty : TypeId} (h : w.heap[b]? = some (.cells cs ty (0, 0))) (j : Nat) : w.frozen? ⟨b, j, none⟩ = false := by
  unfold World.frozen?; rw [h]; simp

/- Bytes do not lie in a cursor's block. -/
theorem Reads.put {w w' : World} {v : Value} {l : List Int} {bc : Nat} {cs : Array Value} {ty : TypeId} {o : Obj} (h : Reads w v l) (hb : w.heap[bc]? = some (.cells cs ty (0, 0)))
    (hn : ∀ (j : Nat) (n : Int), cs[j]? ≠ some (.int .u8 n)) (hp : Put bc o w w') : Reads w' v l := by
  obtain ⟨a, cap, hv, h1, h2, h3, h4⟩ := h
  refine ⟨a, cap, hv, h1, h2, h3, h4.imp_right ?_⟩
  rintro ⟨b, off, ha, hc⟩
  refine ⟨b, off, ha, fun j hj => ?_⟩
  have hcj := hc j hj
  have hne : b ≠ bc := by
    rintro rfl
    rw [cell_of hb] at hcj
    exact hn _ _ hcj
  have hlt : b < w.heap.size := block_lt_of_cell hcj
  rw [← hcj]
  exact World.cell?_of_block (w := w) (a := ⟨b, off + j, none⟩) (hp.block b hlt hne)
theorem ccur_no {a : Option Addr} {n c : Nat} {f t pl wy : Int} (j : Nat) (m : Int) : (#[.slice a n c, .int .i64 f, .int .i64 t, .bool true, .int .i64 pl, .int .i64 wy] : Array Value)[j]? ≠ some (.int .u8 m) := by
  rcases j with _ | _ | _ | _ | _ | _ | j <;> simp
theorem dcur_no {a : Option Addr} {n c : Nat} {f t pl wy : Int} (j : Nat) (m : Int) : (#[.slice a n c, .int .i64 f, .int .i64 t, .int .i64 pl, .int .i64 wy] : Array Value)[j]? ≠ some (.int .u8 m) := by
  rcases j with _ | _ | _ | _ | _ | j <;> simp
end Go.Proofs.Ytpkccnoipbgnmaa
