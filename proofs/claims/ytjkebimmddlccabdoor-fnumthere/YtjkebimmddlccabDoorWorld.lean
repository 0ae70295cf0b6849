/-
  Helpers: a world in which nothing old has changed; no statement is proved here.
-/
import Derived.Test.YtjkebimmddlccabDoorRows
import Derived.WalkKit
import Derived.ProofKit
import Derived.OpenShut
import Derived.Deep.Quiet
import Derived.Deep.QuietTactic
import Derived.Deep.RegionWith
import Derived.Deep.Light
import Derived.WalkSmall
namespace Go.Proofs.YtjkebimmddlccabDoor
open Go.RowKit
set_option linter.unusedVariables false

/- Nothing old has changed. -/
def Grew (w w' : World) : Prop := Below w.heap.size w w' ∧ w.heap.size ≤ w'.heap.size
theorem Grew.refl (w : World) : Grew w w := ⟨Below.refl _ _, Nat.le_refl _⟩
theorem Grew.alloc {w w' : World} (h : Grew w w') (o : Obj) : Grew w (w'.alloc o) := ⟨h.1.alloc h.2 o, by have := h.2; simp; omega⟩
theorem Grew.drew {w w' : World} (h : Grew w w') : Grew w w'.drew := ⟨h.1.drew, h.2⟩
theorem Grew.drewN {w w' : World} (h : Grew w w') (n : Nat) : Grew w (w'.drewN n) := ⟨⟨h.1.os, h.1.tape, h.1.output, h.1.size, h.1.block⟩, h.2⟩
theorem Grew.trans {a b c : World} (h : Grew a b) (k : Grew b c) : Grew a c := ⟨h.1.trans (k.1.mono h.2), Nat.le_trans h.2 k.2⟩
theorem Grew.set {w w' : World} (h : Grew w w') {p : Addr} (hp : w.heap.size ≤ p.block) (u : Value) : Grew w (w'.setCell p u) :=
  ⟨h.1.setCell hp u, by have := h.2; simpa using this⟩
end Go.Proofs.YtjkebimmddlccabDoor
