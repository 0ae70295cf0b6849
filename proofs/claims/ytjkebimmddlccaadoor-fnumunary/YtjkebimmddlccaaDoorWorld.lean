/-
  Helpers: a world in which nothing old has changed; no statement is proved here.
-/
import Derived.Test.YtjkebimmddlccaaDoorRows
import Derived.WalkKit
import Derived.ProofKit
import Derived.OpenShut
import Derived.Deep.Quiet
import Derived.Deep.QuietTactic
import Derived.Deep.RegionWith
import Derived.Deep.Light
import Derived.WalkSmall
namespace Go.Proofs.YtjkebimmddlccaaDoor
open Go.RowKit
set_option linter.unusedVariables false

/- Nothing old has changed. -/
def Grew (w w' : World) : Prop := Below w.heap.size w w' ∧ w.heap.size ≤ w'.heap.size
theorem Grew.refl (w : World) : Grew w w := ⟨Below.refl _ _, Nat.le_refl _⟩
theorem Grew.alloc {w w' : World} (h : Grew w w') (o : Obj) : Grew w (w'.alloc o) := ⟨h.1.alloc h.2 o, by have := h.2; simp; omega⟩
theorem Grew.drew {w w' : World} (h : Grew w w') : Grew w w'.drew := ⟨h.1.drew, h.2⟩
theorem Grew.drewN {w w' : World} (h : Grew w w') (n : Nat) : Grew w (w'.drewN n) := ⟨⟨h.1.os, h.1.tape, h.1.output, h.1.size, h.1.block⟩, h.2⟩
theorem Grew.trans {a b c : World} (h : Grew a b) (k : Grew b c) : Grew a c := ⟨h.1.trans (k.1.mono h.2), Nat.le_trans h.2 k.2⟩
theorem Grew.set {w w' : World} (h : Grew w w') {p : Addr} (hp : w.heap.size ≤ p.block) (u : Value) : Grew w (w'.setCell p u) :=
  ⟨h.1.setCell hp u, by have := h.2; simpa using this⟩
theorem Grew.blk {w w' : World} (g : Grew w w') {B : Nat} (hB : B < w.heap.size) : B < w'.heap.size ∧ Hid (∀ (j : Nat) (v : Value), w.cell? ⟨B, j, none⟩ = some v → w'.cell? ⟨B, j, none⟩ = some v) :=
  ⟨Nat.lt_of_lt_of_le hB g.2, fun j v h => by rw [g.1.cell hB]; exact h⟩
/- The cells of a block behind a call. -/
theorem Grew.c1 {w w' : World} (g : Grew w w') (B : Nat) (c0 : Value) (hB : B < w.heap.size := by first | (simp; done) | (simp; omega) | omega) (h0 : w.cell? ⟨B, 0, none⟩ = some c0 := by go_simp) :
    B < w'.heap.size ∧ w'.cell? ⟨B, 0, none⟩ = some c0 := ⟨(g.blk hB).1, (g.blk hB).2 0 _ h0⟩
theorem Grew.c2 {w w' : World} (g : Grew w w') (B : Nat) (c0 c1 : Value) (hB : B < w.heap.size := by first | (simp; done) | (simp; omega) | omega) (h0 : w.cell? ⟨B, 0, none⟩ = some c0 := by go_simp) (h1 : w.cell? ⟨B, 1, none⟩ = some c1 := by go_simp) :
    B < w'.heap.size ∧ w'.cell? ⟨B, 0, none⟩ = some c0 ∧ w'.cell? ⟨B, 1, none⟩ = some c1 := ⟨(g.blk hB).1, (g.blk hB).2 0 _ h0, (g.blk hB).2 1 _ h1⟩
theorem Grew.c3 {w w' : World} (g : Grew w w') (B : Nat) (c0 c1 c2 : Value) (hB : B < w.heap.size := by first | (simp; done) | (simp; omega) | omega) (h0 : w.cell? ⟨B, 0, none⟩ = some c0 := by go_simp) (h1 : w.cell? ⟨B, 1, none⟩ = some c1 := by go_simp) (h2 : w.cell? ⟨B, 2, none⟩ = some c2 := by go_simp) :
    B < w'.heap.size ∧ w'.cell? ⟨B, 0, none⟩ = some c0 ∧ w'.cell? ⟨B, 1, none⟩ = some c1 ∧ w'.cell? ⟨B, 2, none⟩ = some c2 := ⟨(g.blk hB).1, (g.blk hB).2 0 _ h0, (g.blk hB).2 1 _ h1, (g.blk hB).2 2 _ h2⟩
/- A call answers v in every world, and nothing old changes. -/
def CG (n : FuncId) (args : Array Value) (v : Value) : Prop := ∀ w : World, Calls Tryd.prog n args w fun e w' => e = .returned v ∧ Grew w w'
theorem CG.out {n : FuncId} {args : Array Value} {v : Value} (h : CG n args v) (w : World) : Calls Tryd.prog n args w fun e w' => e = .returned v ∧ Grew w w' := h w
end Go.Proofs.YtjkebimmddlccaaDoor
