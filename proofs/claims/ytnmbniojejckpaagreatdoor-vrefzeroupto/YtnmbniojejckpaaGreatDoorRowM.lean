/-
  Rows of elements in memory, and appends to them; no statement is proved here.
-/
import Derived.Test.YtnmbniojejckpaaGreatDoorRows
import Derived.WalkKit
import Derived.ProofKit
import Derived.OpenShut
import Derived.Deep.Quiet
import Derived.Deep.QuietTactic
import Derived.Deep.RegionWith
import Derived.Deep.Light
import Derived.Deep.WholeRow
import Derived.WalkSmall
import Derived.Laws.AppendOwn
import Derived.Laws.AppendOwnNone
import Derived.OwnWalk
set_option maxRecDepth 100000
set_option maxHeartbeats 8000000
namespace Go.Proofs.YtnmbniojejckpaaGreatDoor
open Go.RowKit
set_option linter.unusedVariables false
/- Nothing old has changed. -/
def Grew (w w' : World) : Prop := Below w.heap.size w w' ∧ w.heap.size ≤ w'.heap.size
theorem Grew.refl (w : World) : Grew w w := ⟨Below.refl _ _, Nat.le_refl _⟩
theorem Grew.alloc {w w' : World} (h : Grew w w') (o : Obj) : Grew w (w'.alloc o) := ⟨h.1.alloc h.2 o, by have := h.2; simp; omega⟩
theorem Grew.drew {w w' : World} (h : Grew w w') : Grew w w'.drew := ⟨h.1.drew, h.2⟩
theorem Grew.drewN {w w' : World} (h : Grew w w') (n : Nat) : Grew w (w'.drewN n) := ⟨⟨h.1.os, h.1.tape, h.1.output, h.1.size, h.1.block⟩, h.2⟩
theorem Grew.trans {a b c : World} (h : Grew a b) (k : Grew b c) : Grew a c := ⟨h.1.trans (k.1.mono h.2), Nat.le_trans h.2 k.2⟩
theorem Grew.set {w w' : World} (h : Grew w w') {p : Addr} (hp : w.heap.size ≤ p.block) (u : Value) : Grew w (w'.setCell p u) :=
  ⟨h.1.setCell hp u, by have := h.2; simpa using this⟩
theorem Grew.blk {w w' : World} (g : Grew w w') {B : Nat} (hB : B < w.heap.size) : B < w'.heap.size ∧ Hid (∀ (j : Nat) (v : Value), w.cell? ⟨B, j, none⟩ = some v → w'.cell? ⟨B, j, none⟩ = some v) :=
  ⟨Nat.lt_of_lt_of_le hB g.2, fun j v h => by rw [g.1.cell hB]; exact h⟩
/- The cells of a block behind a call. -/
theorem Grew.c1 {w w' : World} (g : Grew w w') (B : Nat) (c0 : Value) (hB : B < w.heap.size := by first | (simp; done) | (simp; omega) | omega) (h0 : w.cell? ⟨B, 0, none⟩ = some c0 := by go_simp) :
    B < w'.heap.size ∧ w'.cell? ⟨B, 0, none⟩ = some c0 := ⟨(g.blk hB).1, (g.blk hB).2 0 _ h0⟩
theorem Grew.c2 {w w' : World} (g : Grew w w') (B : Nat) (c0 c1 : Value) (hB : B < w.heap.size := by first | (simp; done) | (simp; omega) | omega) (h0 : w.cell? ⟨B, 0, none⟩ = some c0 := by go_simp) (h1 : w.cell? ⟨B, 1, none⟩ = some c1 := by go_simp) :
    B < w'.heap.size ∧ w'.cell? ⟨B, 0, none⟩ = some c0 ∧ w'.cell? ⟨B, 1, none⟩ = some c1 := ⟨(g.blk hB).1, (g.blk hB).2 0 _ h0, (g.blk hB).2 1 _ h1⟩
theorem Grew.c3 {w w' : World} (g : Grew w w') (B : Nat) (c0 c1 c2 : Value) (hB : B < w.heap.size := by first | (simp; done) | (simp; omega) | omega) (h0 : w.cell? ⟨B, 0, none⟩ = some c0 := by go_simp) (h1 : w.cell? ⟨B, 1, none⟩ = some c1 := by go_simp) (h2 : w.cell? ⟨B, 2, none⟩ = some c2 := by go_simp) :
    B < w'.heap.size ∧ w'.cell? ⟨B, 0, none⟩ = some c0 ∧ w'.cell? ⟨B, 1, none⟩ = some c1 ∧ w'.cell? ⟨B, 2, none⟩ = some c2 := ⟨(g.blk hB).1, (g.blk hB).2 0 _ h0, (g.blk hB).2 1 _ h1, (g.blk hB).2 2 _ h2⟩
/- A call answers v in every world, and nothing old changes. -/
def CG (n : FuncId) (args : Array Value) (v : Value) : Prop := ∀ w : World, Calls Tryz.prog n args w fun e w' => e = .returned v ∧ Grew w w'
theorem CG.out {n : FuncId} {args : Array Value} {v : Value} (h : CG n args v) (w : World) : Calls Tryz.prog n args w fun e w' => e = .returned v ∧ Grew w w' := h w
/- Of what lay in w only the blocks of S may have turned. -/
structure Turn (S : List Nat) (w w' : World) : Prop where
  os : w'.os = w.os
  tape : w'.tape = w.tape
  output : w'.output = w.output
  size : w.heap.size ≤ w'.heap.size
  block : ∀ k, k < w.heap.size → k ∉ S → w'.heap[k]? = w.heap[k]?
theorem lt_of_obj {w : World} {k : Nat} {o : Obj} (h : w.heap[k]? = some o) : k < w.heap.size := (Array.getElem?_eq_some_iff.1 h).1
theorem Turn.refl (S : List Nat) (w : World) : Turn S w w := ⟨rfl, rfl, rfl, Nat.le_refl _, fun _ _ _ => rfl⟩
theorem Turn.alloc {S : List Nat} {w w' : World} (h : Turn S w w') (x : Obj) : Turn S w (w'.alloc x) := by
  have := h.size
  refine ⟨h.os, h.tape, h.output, by simp; omega, fun k hk hn => ?_⟩
  rw [Below.heap_alloc _ _ _ (by omega)]; exact h.block k hk hn
theorem Turn.drew {S : List Nat} {w w' : World} (h : Turn S w w') : Turn S w w'.drew := ⟨h.os, h.tape, h.output, h.size, h.block⟩
theorem Turn.drewN {S : List Nat} {w w' : World} (h : Turn S w w') (n : Nat) : Turn S w (w'.drewN n) := ⟨h.os, h.tape, h.output, h.size, h.block⟩
theorem Turn.set {S : List Nat} {w w' : World} (h : Turn S w w') {p : Addr} (hp : p.block ∈ S ∨ w.heap.size ≤ p.block) (u : Value) : Turn S w (w'.setCell p u) := by
  refine ⟨h.os, h.tape, h.output, by simpa [World.setCell] using h.size, fun k hk hn => ?_⟩
  have hne : k ≠ p.block := by
    rintro rfl
    rcases hp with h | h
    · exact hn h
    · omega
  rw [Below.heap_setCell _ _ _ _ hne]; exact h.block k hk hn
theorem Turn.trans {S : List Nat} {a b c : World} (h : Turn S a b) (k : Turn S b c) : Turn S a c :=
  ⟨k.os.trans h.os, k.tape.trans h.tape, k.output.trans h.output, Nat.le_trans h.size k.size, fun i hi hn => (k.block i (Nat.lt_of_lt_of_le hi h.size) hn).trans (h.block i hi hn)⟩
/- What turned in blocks that were not there counts for nothing. -/
theorem Turn.trans' {S S' : List Nat} {a b c : World} (h : Turn S a b) (k : Turn S' b c) (hs : ∀ x ∈ S', x ∈ S ∨ a.heap.size ≤ x) : Turn S a c :=
  ⟨k.os.trans h.os, k.tape.trans h.tape, k.output.trans h.output, Nat.le_trans h.size k.size, fun i hi hn => (k.block i (Nat.lt_of_lt_of_le hi h.size) (fun hx => (hs i hx).elim hn (fun h => by omega))).trans (h.block i hi hn)⟩
theorem Turn.other {S : List Nat} {w w' : World} (h : Turn S w w') {b : Nat} {o : Obj} (ho : w.heap[b]? = some o) (hn : b ∉ S) : w'.heap[b]? = some o :=
  (h.block b (lt_of_obj ho) hn).trans ho
theorem Grew.turn {w w' : World} (h : Grew w w') (S : List Nat) : Turn S w w' := ⟨h.1.os, h.1.tape, h.1.output, h.2, fun k hk _ => h.1.block k hk⟩
theorem Turn.grew {S : List Nat} {w0 w w' : World} (h : Turn S w w') (hg : Grew w0 w) (hs : ∀ x ∈ S, w0.heap.size ≤ x) : Grew w0 w' :=
  ⟨⟨h.os.trans hg.1.os, h.tape.trans hg.1.tape, h.output.trans hg.1.output, Nat.le_trans hg.2 h.size, fun k hk => (h.block k (Nat.lt_of_lt_of_le hk hg.2) (fun hx => by have := hs k hx; omega)).trans (hg.1.block k hk)⟩, Nat.le_trans hg.2 h.size⟩
theorem cell_of {w : World} {b : Nat} {cs : Array Value} {ty : TypeId} {fr : Nat × Nat} (h : w.heap[b]? = some (.cells cs ty fr)) (j : Nat) : w.cell? ⟨b, j, none⟩ = cs[j]? := by
  unfold World.cell?; rw [h]; simp
theorem free_of {w : World} {b : Nat} {cs : Array Value} {ty : TypeId} (h : w.heap[b]? = some (.cells cs ty (0, 0))) (j : Nat) : w.frozen? ⟨b, j, none⟩ = false := by
  unfold World.frozen?; rw [h]; simp
theorem heap_set {w : World} {b : Nat} {cs : Array Value} {ty : TypeId} {fr : Nat × Nat} (h : w.heap[b]? = some (.cells cs ty fr)) (j : Nat) (u : Value) :
    (w.setCell ⟨b, j, none⟩ u).heap[b]? = some (.cells (cs.setIfInBounds j u) ty fr) := by
  simp only [World.setCell, Array.getElem?_modify, if_true]
  rw [h]; simp
theorem heap_alloc {w : World} {b : Nat} {o : Obj} (h : w.heap[b]? = some o) (x : Obj) : (w.alloc x).heap[b]? = some o := by
  rw [Below.heap_alloc _ _ _ (lt_of_obj h)]; exact h
theorem heap_other {w : World} {b : Nat} {o : Obj} (h : w.heap[b]? = some o) {p : Addr} (hp : b ≠ p.block) (u : Value) : (w.setCell p u).heap[b]? = some o := by
  rw [Below.heap_setCell _ _ _ _ hp]; exact h
theorem alloc_size (w : World) (o : Obj) : (w.alloc o).heap.size = w.heap.size + 1 := by simp
end Go.Proofs.YtnmbniojejckpaaGreatDoor
namespace Go.Proofs.YtnmbniojejckpaaGreatDoor
open Go.RowKit
set_option linter.unusedVariables false
set_option linter.unusedSimpArgs false
/- No row of elements of type e lies in the block. -/
def NoT (w : World) (x : Nat) (e : TypeId) : Prop := ∀ cs f, w.heap[x]? ≠ some (.cells cs e f)
theorem NoT.of {w : World} {x : Nat} {e t : TypeId} {cs : Array Value} {f : Nat × Nat} (h : w.heap[x]? = some (.cells cs t f)) (hne : t ≠ e) : NoT w x e := by
  intro cs' f' h'
  rw [h] at h'
  injection h' with h'
  injection h' with _ h2 _
  exact hne h2
theorem row_turn {w w' : World} {B : Nat} {e : TypeId} {k : Nat} {v : Value} {n : Nat} {cs : List Value} {S : List Nat} (h : w.ownsRow B e k v n cs) (t : Turn S w w') (hS : ∀ x ∈ S, NoT w x e) : w'.ownsRow B e k v n cs := by
  obtain ⟨h1, h2 | ⟨g, cap, cur, hv, hB, hg, h3⟩⟩ := h
  · exact ⟨h1, Or.inl h2⟩
  · exact ⟨h1, Or.inr ⟨g, cap, cur, hv, hB, t.other hg (fun hx => hS g hx _ _ hg), h3⟩⟩
theorem row_low {w : World} {B B' : Nat} {e : TypeId} {k : Nat} {v : Value} {n : Nat} {cs : List Value} (h : w.ownsRow B e k v n cs) (hb : B' ≤ B) : w.ownsRow B' e k v n cs := by
  obtain ⟨h1, h2 | ⟨g, cap, cur, hv, hB, hg, h3⟩⟩ := h
  · exact ⟨h1, Or.inl h2⟩
  · exact ⟨h1, Or.inr ⟨g, cap, cur, hv, Nat.le_trans hb hB, hg, h3⟩⟩
theorem row_set {w : World} {B : Nat} {e : TypeId} {k : Nat} {v : Value} {n : Nat} {cs : List Value} {q : Addr} (h : w.ownsRow B e k v n cs) (hq : NoT w q.block e) (x : Value) : (w.setCell q x).ownsRow B e k v n cs := by
  obtain ⟨h1, h2 | ⟨g, cap, cur, hv, hB, hg, h3⟩⟩ := h
  · exact ⟨h1, Or.inl h2⟩
  · exact ⟨h1, Or.inr ⟨g, cap, cur, hv, hB, heap_other hg (fun hx => hq _ _ (by rw [← hx]; exact hg)) x, h3⟩⟩
theorem row_one {w : World} {B : Nat} {e : TypeId} {k : Nat} {v : Value} {n : Nat} {cs : List Value} (h : w.ownsRow B e k v n cs) : ∃ a c, v = .slice a n c := by
  obtain ⟨h1, ⟨rfl, rfl⟩ | ⟨g, cap, cur, hv, _⟩⟩ := h
  · exact ⟨none, 0, rfl⟩
  · exact ⟨_, _, hv⟩
theorem row_cell {w : World} {B : Nat} {e : TypeId} {k : Nat} {v : Value} {n : Nat} {cs : List Value} (h : w.ownsRow B e k v n cs) : v.oneCell' = true := by
  obtain ⟨a, c, rfl⟩ := row_one h
  cases a <;> rfl
/- Only block b and blocks from B on may have turned. -/
structure TB (b B : Nat) (w w' : World) : Prop where
  os : w'.os = w.os
  tape : w'.tape = w.tape
  output : w'.output = w.output
  size : w.heap.size ≤ w'.heap.size
  block : ∀ k, k < w.heap.size → k ≠ b → k < B → w'.heap[k]? = w.heap[k]?
theorem TB.refl (b B : Nat) (w : World) : TB b B w w := ⟨rfl, rfl, rfl, Nat.le_refl _, fun _ _ _ _ => rfl⟩
theorem TB.trans {b B : Nat} {x y z : World} (h : TB b B x y) (k : TB b B y z) : TB b B x z :=
  ⟨k.os.trans h.os, k.tape.trans h.tape, k.output.trans h.output, Nat.le_trans h.size k.size, fun i hi h1 h2 => (k.block i (Nat.lt_of_lt_of_le hi h.size) h1 h2).trans (h.block i hi h1 h2)⟩
theorem TB.turn {b B : Nat} {w0 w w' : World} (h : TB b B w w') (t : Turn [b] w0 w) (hB : w0.heap.size ≤ B) : Turn [b] w0 w' :=
  ⟨h.os.trans t.os, h.tape.trans t.tape, h.output.trans t.output, Nat.le_trans t.size h.size, fun k hk hn => (h.block k (Nat.lt_of_lt_of_le hk t.size) (by simpa using hn) (by omega)).trans (t.block k hk hn)⟩
theorem TB.other {b B : Nat} {w w' : World} (h : TB b B w w') {x : Nat} {o : Obj} (ho : w.heap[x]? = some o) (h1 : x ≠ b) (h2 : x < B) : w'.heap[x]? = some o :=
  (h.block x (lt_of_obj ho) h1 h2).trans ho
theorem TB.low {b B B' : Nat} {w w' : World} (h : TB b B w w') (hb : B' ≤ B) : TB b B' w w' := ⟨h.os, h.tape, h.output, h.size, fun k hk h1 h2 => h.block k hk h1 (by omega)⟩
theorem own_turn {b B : Nat} {w w' : World} {v : Value} {e : TypeId} {k n : Nat} {cs : List Value} (h : w.ownsRow B e k v n cs) (g : w.grownBy w' v.ownBlock) : TB b B w w' :=
  ⟨g.os, g.tape, g.output, g.size, fun i hi _ hB => g.block i hi (fun hx => by have := (h.lt i hx.symm).1; omega)⟩
/- One element more. -/
theorem wp_app1 {w : World} {ops : Array Oper} {rest : List Oper} {o : Oper} {a : Act} {Q : Exit → Act → World → Prop} (hgd : o.guard = none) (s x : Operand) (t e : TypeId) (k bytes : Nat) (z : Value)
    (hu : Tryz.prog.underlying t = some (.slice e)) (hi : (Tryz.prog.info? e).map (fun i => (i.zero, i.size, i.bytes)) = some (some z, k, bytes)) (hz : z.cells.size = k) (hk : 0 < k) (hbt : bytes ≤ 1000)
    (ho : o.op = .call { callee := .builtin .append, args := #[s, x], argTypes := #[t, t] }) {B : Nat} {v : Value} {n : Nat} {cs : List Value} {new : Array Value} {t' : TypeId} (b : Nat)
    (hs : a.eval s = v) (hx : a.eval x = .slice (some ⟨w.heap.size, 0, none⟩) 1 1) (hh : w.ownsRow B e k v n cs) (hB : B ≤ w.heap.size) (hsz : new.size = k) (h1 : ∀ u ∈ new.toList, u.oneCell' = true) (hn : n ≤ 4194304)
    (h : ∀ v' w', w'.ownsRow B e k v' (n + 1) (cs ++ new.toList) → TB b B w w' → (∀ x < w.heap.size, some x ≠ v.ownBlock → w'.heap[x]? = w.heap[x]?) → wpList Tryz.prog ops Q rest (a.put o.dst v') w') :
    wpList Tryz.prog ops Q (o :: rest) a (w.alloc (.cells new t')) := by
  obtain ⟨i0, hi0, hz0, hz1, hz2⟩ := info_parts hi
  refine wpList_append_own _ hgd s x t ho B e i0 z k bytes hu hi0 hz0 hz1 hz2 hz hk v n cs hs (hh.alloc _) ⟨w.heap.size, 0, none⟩ 1 1 new.toList hx (by simp [hsz]) ?_ h1 (by unfold maxLen; omega) ?_ (by simp; omega) ?_
  · intro j u hj
    have e : (Addr.add ⟨w.heap.size, 0, none⟩ j) = ⟨w.heap.size, j, none⟩ := by unfold Addr.add; split <;> simp_all
    rw [e, cell_of (heap_alloc_last w _), ← Array.getElem?_toList]
    exact hj
  · have : (n + 1) * bytes ≤ 4194305 * 1000 := Nat.mul_le_mul (by omega) hbt
    omega
  · intro v' w' ho' hg _
    have hg' : ∀ y < w.heap.size, some y ≠ v.ownBlock → w'.heap[y]? = w.heap[y]? := fun y hy hne => by
      rw [hg.block y (by simp; omega) hne, Below.heap_alloc _ _ _ hy]
    refine h v' w' ho' ⟨hg.os, hg.tape, hg.output, by have := hg.size; simp at this; omega, fun y hy _ hB' => hg' y hy (fun hx => by have := (hh.lt y hx.symm).1; omega)⟩ hg'
end Go.Proofs.YtnmbniojejckpaaGreatDoor
