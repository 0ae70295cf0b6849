/-
  Memory: which blocks may have turned; the reader's block; no statement is proved here.
-/
import Derived.Test.YtclamdpbdafmcaaBegun
import Derived.WalkSmall
namespace Go.Proofs.Ytclamdpbdafmcaa
open Go.RowKit
set_option linter.unusedVariables false

/- Of what lay in w only the blocks of S may have turned. -/
structure Turn (S : List Nat) (w w' : World) : Prop where
  os : w'.os = w.os
  tape : w'.tape = w.tape
  output : w'.output = w.output
  size : w.heap.size ≤ w'.heap.size
  block : ∀ k, k < w.heap.size → k ∉ S → w'.heap[k]? = w.heap[k]?

theorem lt_of_obj {w : World} {k : Nat} {o : Obj} (h : w.heap[k]? = some o) : k < w.heap.size := (Array.getElem?_eq_some_iff.1 h).1
theorem Turn.refl (S : List Nat) (w : World) : Turn S w w := ⟨rfl, rfl, rfl, Nat.le_refl _, fun _ _ _ => rfl⟩
theorem Turn.alloc {S : List Nat} {w w' : World} (h : Turn S w w') (x : Obj) : Turn S w (w'.alloc x) := by
  have := h.size
  refine ⟨h.os, h.tape, h.output, by simp; omega, fun k hk hn => ?_⟩
  rw [Below.heap_alloc _ _ _ (by omega)]; exact h.block k hk hn
theorem Turn.drew {S : List Nat} {w w' : World} (h : Turn S w w') : Turn S w w'.drew := ⟨h.os, h.tape, h.output, h.size, h.block⟩
theorem Turn.drewN {S : List Nat} {w w' : World} (h : Turn S w w') (n : Nat) : Turn S w (w'.drewN n) := ⟨h.os, h.tape, h.output, h.size, h.block⟩
theorem Turn.set {S : List Nat} {w w' : World} (h : Turn S w w') {p : Addr} (hp : p.block ∈ S ∨ w.heap.size ≤ p.block) (u : Value) : Turn S w (w'.setCell p u) := by
  refine ⟨h.os, h.tape, h.output, by simpa [World.setCell] using h.size, fun k hk hn => ?_⟩
  have hne : k ≠ p.block := by
    rintro rfl
    rcases hp with h | h
    · exact hn h
    · omega
  rw [Below.heap_setCell _ _ _ _ hne]; exact h.block k hk hn
theorem Turn.trans {S : List Nat} {a b c : World} (h : Turn S a b) (k : Turn S b c) : Turn S a c :=
  ⟨k.os.trans h.os, k.tape.trans h.tape, k.output.trans h.output, Nat.le_trans h.size k.size, fun i hi hn => (k.block i (Nat.lt_of_lt_of_le hi h.size) hn).trans (h.block i hi hn)⟩
/- What turned in blocks that were not there counts for nothing. -/
theorem Turn.trans' {S S' : List Nat} {a b c : World} (h : Turn S a b) (k : Turn S' b c) (hs : ∀ x ∈ S', x ∈ S ∨ a.heap.size ≤ x) : Turn S a c :=
  ⟨k.os.trans h.os, k.tape.trans h.tape, k.output.trans h.output, Nat.le_trans h.size k.size, fun i hi hn => (k.block i (Nat.lt_of_lt_of_le hi h.size) (fun hx => (hs i hx).elim hn (fun h => by omega))).trans (h.block i hi hn)⟩
theorem Turn.other {S : List Nat} {w w' : World} (h : Turn S w w') {b : Nat} {o : Obj} (ho : w.heap[b]? = some o) (hn : b ∉ S) : w'.heap[b]? = some o :=
  (h.block b (lt_of_obj ho) hn).trans ho
theorem Grew.turn {w w' : World} (h : Grew w w') (S : List Nat) : Turn S w w' := ⟨h.1.os, h.1.tape, h.1.output, h.2, fun k hk _ => h.1.block k hk⟩
theorem Turn.grew {S : List Nat} {w0 w w' : World} (h : Turn S w w') (hg : Grew w0 w) (hs : ∀ x ∈ S, w0.heap.size ≤ x) : Grew w0 w' :=
  ⟨⟨h.os.trans hg.1.os, h.tape.trans hg.1.tape, h.output.trans hg.1.output, Nat.le_trans hg.2 h.size, fun k hk => (h.block k (Nat.lt_of_lt_of_le hk hg.2) (fun hx => by have := hs k hx; omega)).trans (hg.1.block k hk)⟩, Nat.le_trans hg.2 h.size⟩

theorem cell_of {w : World} {b : Nat} {cs : Array Value} {ty : TypeId} {fr : Nat × Nat} (h : w.heap[b]? = some (.cells cs ty fr)) (j : Nat) : w.cell? ⟨b, j, none⟩ = cs[j]? := by
  unfold World.cell?; rw [h]; simp
theorem free_of {w : World} {b : Nat} {cs : Array Value} {ty : TypeId} (h : w.heap[b]? = some (.cells cs ty (0, 0))) (j : Nat) : w.frozen? ⟨b, j, none⟩ = false := by
  unfold World.frozen?; rw [h]; simp
theorem heap_set {w : World} {b : Nat} {cs : Array Value} {ty : TypeId} {fr : Nat × Nat} (h : w.heap[b]? = some (.cells cs ty fr)) (j : Nat) (u : Value) :
    (w.setCell ⟨b, j, none⟩ u).heap[b]? = some (.cells (cs.setIfInBounds j u) ty fr) := by
  simp only [World.setCell, Array.getElem?_modify, if_true]
  rw [h]; simp
theorem heap_alloc {w : World} {b : Nat} {o : Obj} (h : w.heap[b]? = some o) (x : Obj) : (w.alloc x).heap[b]? = some o := by
  rw [Below.heap_alloc _ _ _ (lt_of_obj h)]; exact h
theorem heap_other {w : World} {b : Nat} {o : Obj} (h : w.heap[b]? = some o) {p : Addr} (hp : b ≠ p.block) (u : Value) : (w.setCell p u).heap[b]? = some o := by
  rw [Below.heap_setCell _ _ _ _ hp]; exact h

/- No byte lies in the block. -/
def NoB (w : World) (b : Nat) : Prop := ∀ (j : Nat) (n : Int), w.cell? ⟨b, j, none⟩ ≠ some (.int .u8 n)
theorem Reads.turn {w w' : World} {v : Value} {l : List Int} {S : List Nat} (h : Reads w v l) (ht : Turn S w w') (hn : ∀ b ∈ S, NoB w b) : Reads w' v l := by
  obtain ⟨a, cap, hv, h1, h2, h3, h4⟩ := h
  refine ⟨a, cap, hv, h1, h2, h3, h4.imp_right ?_⟩
  rintro ⟨b, off, ha, hc⟩
  refine ⟨b, off, ha, fun j hj => ?_⟩
  have hcj := hc j hj
  have hlt : b < w.heap.size := block_lt_of_cell hcj
  have hne : b ∉ S := fun hb => hn b hb _ _ hcj
  rw [← hcj]
  exact World.cell?_of_block (w := w) (a := ⟨b, off + j, none⟩) (ht.block b hlt hne)

/- The reader's block. -/
def rdr (v : Value) (p : Int) : Obj := .cells #[v, .int .i64 p] 63 (0, 0)
theorem NoB.rdr {w : World} {b : Nat} {a : Option Addr} {n c : Nat} {p : Int} (h : w.heap[b]? = some (rdr (.slice a n c) p)) : NoB w b := by
  intro j m
  rw [cell_of h]
  rcases j with _ | _ | j <;> simp
/- What a reader gives up with. -/
def flt (p e : Int) : List PanicEntry := [{ v := .iface 65 (.agg #[.int .i64 p, .int .i64 e]), recovered := false }]

theorem giveUp_any (p e : Int) (w : World) :
    Calls Try.prog 53 #[.int .i64 p, .int .i64 e] w fun en w' => en = .panicked (flt p e) ∧ w' = w := by
  go_enter Try.func53, Try.ntmps53
  go_wp2
  exact ⟨rfl, rfl, rfl⟩
end Go.Proofs.Ytclamdpbdafmcaa
