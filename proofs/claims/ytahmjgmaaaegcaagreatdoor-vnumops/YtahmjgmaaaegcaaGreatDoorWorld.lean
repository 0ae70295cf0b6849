/-
  Helpers: a world in which nothing old has changed, or only some blocks; no statement is proved here.
-/
import Derived.Test.YtahmjgmaaaegcaaGreatDoorRows
import Derived.WalkKit
import Derived.ProofKit
import Derived.OpenShut
import Derived.Deep.Quiet
import Derived.Deep.QuietTactic
import Derived.Deep.RegionWith
import Derived.Deep.Light
import Derived.Deep.WholeRow
import Derived.WalkSmall
namespace Go.Proofs.YtahmjgmaaaegcaaGreatDoor
open Go.RowKit
set_option linter.unusedVariables false

/- Nothing old has changed. -/
def Grew (w w' : World) : Prop := Below w.heap.size w w' ∧ w.heap.size ≤ w'.heap.size
theorem Grew.refl (w : World) : Grew w w := ⟨Below.refl _ _, Nat.le_refl _⟩
theorem Grew.alloc {w w' : World} (h : Grew w w') (o : Obj) : Grew w (w'.alloc o) := ⟨h.1.alloc h.2 o, by have := h.2; simp; omega⟩
theorem Grew.drew {w w' : World} (h : Grew w w') : Grew w w'.drew := ⟨h.1.drew, h.2⟩
theorem Grew.drewN {w w' : World} (h : Grew w w') (n : Nat) : Grew w (w'.drewN n) := ⟨⟨h.1.os, h.1.tape, h.1.output, h.1.size, h.1.block⟩, h.2⟩
theorem Grew.trans {a b c : World} (h : Grew a b) (k : Grew b c) : Grew a c := ⟨h.1.trans (k.1.mono h.2), Nat.le_trans h.2 k.2⟩
theorem Grew.set {w w' : World} (h : Grew w w') {p : Addr} (hp : w.heap.size ≤ p.block) (u : Value) : Grew w (w'.setCell p u) :=
  ⟨h.1.setCell hp u, by have := h.2; simpa using this⟩
theorem Grew.blk {w w' : World} (g : Grew w w') {B : Nat} (hB : B < w.heap.size) : B < w'.heap.size ∧ Hid (∀ (j : Nat) (v : Value), w.cell? ⟨B, j, none⟩ = some v → w'.cell? ⟨B, j, none⟩ = some v) :=
  ⟨Nat.lt_of_lt_of_le hB g.2, fun j v h => by rw [g.1.cell hB]; exact h⟩
/- The cells of a block behind a call. -/
theorem Grew.c1 {w w' : World} (g : Grew w w') (B : Nat) (c0 : Value) (hB : B < w.heap.size := by first | (simp; done) | (simp; omega) | omega) (h0 : w.cell? ⟨B, 0, none⟩ = some c0 := by go_simp) :
    B < w'.heap.size ∧ w'.cell? ⟨B, 0, none⟩ = some c0 := ⟨(g.blk hB).1, (g.blk hB).2 0 _ h0⟩
theorem Grew.c2 {w w' : World} (g : Grew w w') (B : Nat) (c0 c1 : Value) (hB : B < w.heap.size := by first | (simp; done) | (simp; omega) | omega) (h0 : w.cell? ⟨B, 0, none⟩ = some c0 := by go_simp) (h1 : w.cell? ⟨B, 1, none⟩ = some c1 := by go_simp) :
    B < w'.heap.size ∧ w'.cell? ⟨B, 0, none⟩ = some c0 ∧ w'.cell? ⟨B, 1, none⟩ = some c1 := ⟨(g.blk hB).1, (g.blk hB).2 0 _ h0, (g.blk hB).2 1 _ h1⟩
theorem Grew.c3 {w w' : World} (g : Grew w w') (B : Nat) (c0 c1 c2 : Value) (hB : B < w.heap.size := by first | (simp; done) | (simp; omega) | omega) (h0 : w.cell? ⟨B, 0, none⟩ = some c0 := by go_simp) (h1 : w.cell? ⟨B, 1, none⟩ = some c1 := by go_simp) (h2 : w.cell? ⟨B, 2, none⟩ = some c2 := by go_simp) :
    B < w'.heap.size ∧ w'.cell? ⟨B, 0, none⟩ = some c0 ∧ w'.cell? ⟨B, 1, none⟩ = some c1 ∧ w'.cell? ⟨B, 2, none⟩ = some c2 := ⟨(g.blk hB).1, (g.blk hB).2 0 _ h0, (g.blk hB).2 1 _ h1, (g.blk hB).2 2 _ h2⟩
/- A call answers v in every world, and nothing old changes. -/
def CG (n : FuncId) (args : Array Value) (v : Value) : Prop := ∀ w : World, Calls Tryz.prog n args w fun e w' => e = .returned v ∧ Grew w w'
theorem CG.out {n : FuncId} {args : Array Value} {v : Value} (h : CG n args v) (w : World) : Calls Tryz.prog n args w fun e w' => e = .returned v ∧ Grew w w' := h w

/- Of what lay in w only the blocks of S may have turned. -/
structure Turn (S : List Nat) (w w' : World) : Prop where
  os : w'.os = w.os
  tape : w'.tape = w.tape
  output : w'.output = w.output
  size : w.heap.size ≤ w'.heap.size
  block : ∀ k, k < w.heap.size → k ∉ S → w'.heap[k]? = w.heap[k]?

theorem lt_of_obj {w : World} {k : Nat} {o : Obj} (h : w.heap[k]? = some o) : k < w.heap.size := (Array.getElem?_eq_some_iff.1 h).1
theorem Turn.refl (S : List Nat) (w : World) : Turn S w w := ⟨rfl, rfl, rfl, Nat.le_refl _, fun _ _ _ => rfl⟩
theorem Turn.alloc {S : List Nat} {w w' : World} (h : Turn S w w') (x : Obj) : Turn S w (w'.alloc x) := by
  have := h.size
  refine ⟨h.os, h.tape, h.output, by simp; omega, fun k hk hn => ?_⟩
  rw [Below.heap_alloc _ _ _ (by omega)]; exact h.block k hk hn
theorem Turn.drew {S : List Nat} {w w' : World} (h : Turn S w w') : Turn S w w'.drew := ⟨h.os, h.tape, h.output, h.size, h.block⟩
theorem Turn.drewN {S : List Nat} {w w' : World} (h : Turn S w w') (n : Nat) : Turn S w (w'.drewN n) := ⟨h.os, h.tape, h.output, h.size, h.block⟩
theorem Turn.set {S : List Nat} {w w' : World} (h : Turn S w w') {p : Addr} (hp : p.block ∈ S ∨ w.heap.size ≤ p.block) (u : Value) : Turn S w (w'.setCell p u) := by
  refine ⟨h.os, h.tape, h.output, by simpa [World.setCell] using h.size, fun k hk hn => ?_⟩
  have hne : k ≠ p.block := by
    rintro rfl
    rcases hp with h | h
    · exact hn h
    · omega
  rw [Below.heap_setCell _ _ _ _ hne]; exact h.block k hk hn
theorem Turn.trans {S : List Nat} {a b c : World} (h : Turn S a b) (k : Turn S b c) : Turn S a c :=
  ⟨k.os.trans h.os, k.tape.trans h.tape, k.output.trans h.output, Nat.le_trans h.size k.size, fun i hi hn => (k.block i (Nat.lt_of_lt_of_le hi h.size) hn).trans (h.block i hi hn)⟩
/- What turned in blocks that were not there counts for nothing. -/
theorem Turn.trans' {S S' : List Nat} {a b c : World} (h : Turn S a b) (k : Turn S' b c) (hs : ∀ x ∈ S', x ∈ S ∨ a.heap.size ≤ x) : Turn S a c :=
  ⟨k.os.trans h.os, k.tape.trans h.tape, k.output.trans h.output, Nat.le_trans h.size k.size, fun i hi hn => (k.block i (Nat.lt_of_lt_of_le hi h.size) (fun hx => (hs i hx).elim hn (fun h => by omega))).trans (h.block i hi hn)⟩
theorem Turn.other {S : List Nat} {w w' : World} (h : Turn S w w') {b : Nat} {o : Obj} (ho : w.heap[b]? = some o) (hn : b ∉ S) : w'.heap[b]? = some o :=
  (h.block b (lt_of_obj ho) hn).trans ho
theorem Grew.turn {w w' : World} (h : Grew w w') (S : List Nat) : Turn S w w' := ⟨h.1.os, h.1.tape, h.1.output, h.2, fun k hk _ => h.1.block k hk⟩
theorem Turn.grew {S : List Nat} {w0 w w' : World} (h : Turn S w w') (hg : Grew w0 w) (hs : ∀ x ∈ S, w0.heap.size ≤ x) : Grew w0 w' :=
  ⟨⟨h.os.trans hg.1.os, h.tape.trans hg.1.tape, h.output.trans hg.1.output, Nat.le_trans hg.2 h.size, fun k hk => (h.block k (Nat.lt_of_lt_of_le hk hg.2) (fun hx => by have := hs k hx; omega)).trans (hg.1.block k hk)⟩, Nat.le_trans hg.2 h.size⟩

theorem cell_of {w : World} {b : Nat} {cs : Array Value} {ty : TypeId} {fr : Nat × Nat} (h : w.heap[b]? = some (.cells cs ty fr)) (j : Nat) : w.cell? ⟨b, j, none⟩ = cs[j]? := by
  unfold World.cell?; rw [h]; simp
theorem free_of {w : World} {b : Nat} {cs : Array Value} {ty : TypeId} (h : w.heap[b]? = some (.cells cs ty (0, 0))) (j : Nat) : w.frozen? ⟨b, j, none⟩ = false := by
  unfold World.frozen?; rw [h]; simp
theorem heap_set {w : World} {b : Nat} {cs : Array Value} {ty : TypeId} {fr : Nat × Nat} (h : w.heap[b]? = some (.cells cs ty fr)) (j : Nat) (u : Value) :
    (w.setCell ⟨b, j, none⟩ u).heap[b]? = some (.cells (cs.setIfInBounds j u) ty fr) := by
  simp only [World.setCell, Array.getElem?_modify, if_true]
  rw [h]; simp
theorem heap_alloc {w : World} {b : Nat} {o : Obj} (h : w.heap[b]? = some o) (x : Obj) : (w.alloc x).heap[b]? = some o := by
  rw [Below.heap_alloc _ _ _ (lt_of_obj h)]; exact h
theorem heap_other {w : World} {b : Nat} {o : Obj} (h : w.heap[b]? = some o) {p : Addr} (hp : b ≠ p.block) (u : Value) : (w.setCell p u).heap[b]? = some o := by
  rw [Below.heap_setCell _ _ _ _ hp]; exact h
theorem heap_drewN {w : World} {b : Nat} {o : Obj} (h : w.heap[b]? = some o) (n : Nat) : (w.drewN n).heap[b]? = some o := h
theorem Turn.set3 {S : List Nat} {w w' : World} (h : Turn S w w') (N : Nat) (hN : w.heap.size ≤ N) (x y z : Value) : Turn S w (((w'.setCell ⟨N, 0, none⟩ x).setCell ⟨N, 1, none⟩ y).setCell ⟨N, 2, none⟩ z) :=
  ((h.set (p := ⟨N, 0, none⟩) (Or.inr hN) x).set (p := ⟨N, 1, none⟩) (Or.inr hN) y).set (p := ⟨N, 2, none⟩) (Or.inr hN) z
theorem alloc_size (w : World) (o : Obj) : (w.alloc o).heap.size = w.heap.size + 1 := by simp

end Go.Proofs.YtahmjgmaaaegcaaGreatDoor
