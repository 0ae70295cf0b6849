/-
  Rows of elements in memory, and appends to them; no statement is proved here.
-/
import Derived.Test.YtahmjgmaaaegcaaGreatDoorKit
import Derived.Laws.AppendOwn
import Derived.Laws.AppendOwnNone
import Derived.OwnWalk
namespace Go.Proofs.YtahmjgmaaaegcaaGreatDoor
open Go.RowKit
set_option linter.unusedVariables false
set_option linter.unusedSimpArgs false

/- No byte lies in the block. -/
def NoB (w : World) (b : Nat) : Prop := ∀ (j : Nat) (n : Int), w.cell? ⟨b, j, none⟩ ≠ some (.int .u8 n)
theorem Reads.turn {w w' : World} {v : Value} {l : List Int} {S : List Nat} (h : Reads w v l) (ht : Turn S w w') (hn : ∀ b ∈ S, NoB w b) : Reads w' v l := by
  obtain ⟨a, cap, hv, h1, h2, h3, h4⟩ := h
  refine ⟨a, cap, hv, h1, h2, h3, h4.imp_right ?_⟩
  rintro ⟨b, off, ha, hc⟩
  refine ⟨b, off, ha, fun j hj => ?_⟩
  have hcj := hc j hj
  have hlt : b < w.heap.size := block_lt_of_cell hcj
  have hne : b ∉ S := fun hb => hn b hb _ _ hcj
  rw [← hcj]
  exact World.cell?_of_block (w := w) (a := ⟨b, off + j, none⟩) (ht.block b hlt hne)
theorem Grew.reads {w w' : World} (g : Grew w w') {v : Value} {l : List Int} (h : Reads w v l) : Reads w' v l := h.below g.1
/- No row of elements of type e lies in the block. -/
def NoT (w : World) (x : Nat) (e : TypeId) : Prop := ∀ cs f, w.heap[x]? ≠ some (.cells cs e f)
theorem NoT.of {w : World} {x : Nat} {e t : TypeId} {cs : Array Value} {f : Nat × Nat} (h : w.heap[x]? = some (.cells cs t f)) (hne : t ≠ e) : NoT w x e := by
  intro cs' f' h'
  rw [h] at h'
  injection h' with h'
  injection h' with _ h2 _
  exact hne h2
theorem row_turn {w w' : World} {B : Nat} {e : TypeId} {k : Nat} {v : Value} {n : Nat} {cs : List Value} {S : List Nat} (h : w.ownsRow B e k v n cs) (t : Turn S w w') (hS : ∀ x ∈ S, NoT w x e) : w'.ownsRow B e k v n cs := by
  obtain ⟨h1, h2 | ⟨g, cap, cur, hv, hB, hg, h3⟩⟩ := h
  · exact ⟨h1, Or.inl h2⟩
  · exact ⟨h1, Or.inr ⟨g, cap, cur, hv, hB, t.other hg (fun hx => hS g hx _ _ hg), h3⟩⟩
theorem row_low {w : World} {B B' : Nat} {e : TypeId} {k : Nat} {v : Value} {n : Nat} {cs : List Value} (h : w.ownsRow B e k v n cs) (hb : B' ≤ B) : w.ownsRow B' e k v n cs := by
  obtain ⟨h1, h2 | ⟨g, cap, cur, hv, hB, hg, h3⟩⟩ := h
  · exact ⟨h1, Or.inl h2⟩
  · exact ⟨h1, Or.inr ⟨g, cap, cur, hv, Nat.le_trans hb hB, hg, h3⟩⟩
theorem row_set {w : World} {B : Nat} {e : TypeId} {k : Nat} {v : Value} {n : Nat} {cs : List Value} {q : Addr} (h : w.ownsRow B e k v n cs) (hq : NoT w q.block e) (x : Value) : (w.setCell q x).ownsRow B e k v n cs := by
  obtain ⟨h1, h2 | ⟨g, cap, cur, hv, hB, hg, h3⟩⟩ := h
  · exact ⟨h1, Or.inl h2⟩
  · exact ⟨h1, Or.inr ⟨g, cap, cur, hv, hB, heap_other hg (fun hx => hq _ _ (by rw [← hx]; exact hg)) x, h3⟩⟩
theorem row_one {w : World} {B : Nat} {e : TypeId} {k : Nat} {v : Value} {n : Nat} {cs : List Value} (h : w.ownsRow B e k v n cs) : ∃ a c, v = .slice a n c := by
  obtain ⟨h1, ⟨rfl, rfl⟩ | ⟨g, cap, cur, hv, _⟩⟩ := h
  · exact ⟨none, 0, rfl⟩
  · exact ⟨_, _, hv⟩
theorem row_cell {w : World} {B : Nat} {e : TypeId} {k : Nat} {v : Value} {n : Nat} {cs : List Value} (h : w.ownsRow B e k v n cs) : v.oneCell' = true := by
  obtain ⟨a, c, rfl⟩ := row_one h
  cases a <;> rfl
/- Only block b and blocks from B on may have turned. -/
structure TB (b B : Nat) (w w' : World) : Prop where
  os : w'.os = w.os
  tape : w'.tape = w.tape
  output : w'.output = w.output
  size : w.heap.size ≤ w'.heap.size
  block : ∀ k, k < w.heap.size → k ≠ b → k < B → w'.heap[k]? = w.heap[k]?
theorem TB.refl (b B : Nat) (w : World) : TB b B w w := ⟨rfl, rfl, rfl, Nat.le_refl _, fun _ _ _ _ => rfl⟩
theorem TB.trans {b B : Nat} {x y z : World} (h : TB b B x y) (k : TB b B y z) : TB b B x z :=
  ⟨k.os.trans h.os, k.tape.trans h.tape, k.output.trans h.output, Nat.le_trans h.size k.size, fun i hi h1 h2 => (k.block i (Nat.lt_of_lt_of_le hi h.size) h1 h2).trans (h.block i hi h1 h2)⟩
theorem TB.of_turn {b B : Nat} {S : List Nat} {w w' : World} (h : Turn S w w') (hS : ∀ x ∈ S, x = b ∨ B ≤ x) : TB b B w w' :=
  ⟨h.os, h.tape, h.output, h.size, fun k hk h1 h2 => h.block k hk (fun hx => (hS k hx).elim h1 (fun h => by omega))⟩
theorem TB.turn {b B : Nat} {w0 w w' : World} (h : TB b B w w') (t : Turn [b] w0 w) (hB : w0.heap.size ≤ B) : Turn [b] w0 w' :=
  ⟨h.os.trans t.os, h.tape.trans t.tape, h.output.trans t.output, Nat.le_trans t.size h.size, fun k hk hn => (h.block k (Nat.lt_of_lt_of_le hk t.size) (by simpa using hn) (by omega)).trans (t.block k hk hn)⟩
theorem TB.other {b B : Nat} {w w' : World} (h : TB b B w w') {x : Nat} {o : Obj} (ho : w.heap[x]? = some o) (h1 : x ≠ b) (h2 : x < B) : w'.heap[x]? = some o :=
  (h.block x (lt_of_obj ho) h1 h2).trans ho
theorem TB.low {b B B' : Nat} {w w' : World} (h : TB b B w w') (hb : B' ≤ B) : TB b B' w w' := ⟨h.os, h.tape, h.output, h.size, fun k hk h1 h2 => h.block k hk h1 (by omega)⟩
/- A row whose block lies below B stays. -/
theorem row_tb {w w' : World} {b B B0 : Nat} {e : TypeId} {k : Nat} {v : Value} {n : Nat} {cs : List Value} (h : w.ownsRow B0 e k v n cs) (t : TB b B w w') (hb : NoT w b e) (hl : ∀ g, v.ownBlock = some g → g < B) : w'.ownsRow B0 e k v n cs := by
  obtain ⟨h1, h2 | ⟨g, cap, cur, hv, hB, hg, h3⟩⟩ := h
  · exact ⟨h1, Or.inl h2⟩
  · exact ⟨h1, Or.inr ⟨g, cap, cur, hv, hB, t.other hg (fun hx => hb _ _ (by rw [← hx]; exact hg)) (hl g (by rw [hv]; rfl)), h3⟩⟩
theorem row_lt {w : World} {B : Nat} {e : TypeId} {k : Nat} {v : Value} {n : Nat} {cs : List Value} (h : w.ownsRow B e k v n cs) : ∀ g, v.ownBlock = some g → g < w.heap.size := fun g hg => (h.lt g hg).2
theorem own_turn {b B : Nat} {w w' : World} {v : Value} {e : TypeId} {k n : Nat} {cs : List Value} (h : w.ownsRow B e k v n cs) (g : w.grownBy w' v.ownBlock) : TB b B w w' :=
  ⟨g.os, g.tape, g.output, g.size, fun i hi _ hB => g.block i hi (fun hx => by have := (h.lt i hx.symm).1; omega)⟩
/- One element more. -/
theorem wp_app1 {w : World} {ops : Array Oper} {rest : List Oper} {o : Oper} {a : Act} {Q : Exit → Act → World → Prop} (hgd : o.guard = none) (s x : Operand) (t e : TypeId) (k bytes : Nat) (z : Value)
    (hu : Tryz.prog.underlying t = some (.slice e)) (hi : (Tryz.prog.info? e).map (fun i => (i.zero, i.size, i.bytes)) = some (some z, k, bytes)) (hz : z.cells.size = k) (hk : 0 < k) (hbt : bytes ≤ 1000)
    (ho : o.op = .call { callee := .builtin .append, args := #[s, x], argTypes := #[t, t] }) {B : Nat} {v : Value} {n : Nat} {cs : List Value} {new : Array Value} {t' : TypeId} (b : Nat)
    (hs : a.eval s = v) (hx : a.eval x = .slice (some ⟨w.heap.size, 0, none⟩) 1 1) (hh : w.ownsRow B e k v n cs) (hB : B ≤ w.heap.size) (hsz : new.size = k) (h1 : ∀ u ∈ new.toList, u.oneCell' = true) (hn : n ≤ 70000)
    (h : ∀ v' w', w'.ownsRow B e k v' (n + 1) (cs ++ new.toList) → TB b B w w' → (∀ x < w.heap.size, some x ≠ v.ownBlock → w'.heap[x]? = w.heap[x]?) → wpList Tryz.prog ops Q rest (a.put o.dst v') w') :
    wpList Tryz.prog ops Q (o :: rest) a (w.alloc (.cells new t')) := by
  obtain ⟨i0, hi0, hz0, hz1, hz2⟩ := info_parts hi
  refine wpList_append_own _ hgd s x t ho B e i0 z k bytes hu hi0 hz0 hz1 hz2 hz hk v n cs hs (hh.alloc _) ⟨w.heap.size, 0, none⟩ 1 1 new.toList hx (by simp [hsz]) ?_ h1 (by unfold maxLen; omega) ?_ (by simp; omega) ?_
  · intro j u hj
    have e : (Addr.add ⟨w.heap.size, 0, none⟩ j) = ⟨w.heap.size, j, none⟩ := by unfold Addr.add; split <;> simp_all
    rw [e, cell_of (heap_alloc_last w _), ← Array.getElem?_toList]
    exact hj
  · have : (n + 1) * bytes ≤ 70001 * 1000 := Nat.mul_le_mul (by omega) hbt
    omega
  · intro v' w' ho' hg _
    have hg' : ∀ y < w.heap.size, some y ≠ v.ownBlock → w'.heap[y]? = w.heap[y]? := fun y hy hne => by
      rw [hg.block y (by simp; omega) hne, Below.heap_alloc _ _ _ hy]
    refine h v' w' ho' ⟨hg.os, hg.tape, hg.output, by have := hg.size; simp at this; omega, fun y hy _ hB' => hg' y hy (fun hx => by have := (hh.lt y hx.symm).1; omega)⟩ hg'
/- All elements of another row. -/
theorem wp_appN {w : World} {ops : Array Oper} {rest : List Oper} {o : Oper} {a : Act} {Q : Exit → Act → World → Prop} (hgd : o.guard = none) (s x : Operand) (t e : TypeId) (k bytes : Nat) (z : Value)
    (hu : Tryz.prog.underlying t = some (.slice e)) (hi : (Tryz.prog.info? e).map (fun i => (i.zero, i.size, i.bytes)) = some (some z, k, bytes)) (hz : z.cells.size = k) (hk : 0 < k) (hbt : bytes ≤ 1000)
    (ho : o.op = .call { callee := .builtin .append, args := #[s, x], argTypes := #[t, t] }) {B B' : Nat} {v u : Value} {n m : Nat} {cs ds : List Value} (b : Nat)
    (hs : a.eval s = v) (hx : a.eval x = u) (hh : w.ownsRow B e k v n cs) (hr : w.ownsRow B' e k u m ds) (hB : B ≤ w.heap.size) (h1 : ∀ y ∈ ds, y.oneCell' = true) (hn : n + m ≤ 70000)
    (h : ∀ v' w', w'.ownsRow B e k v' (n + m) (cs ++ ds) → TB b B w w' → (∀ x < w.heap.size, some x ≠ v.ownBlock → w'.heap[x]? = w.heap[x]?) → wpList Tryz.prog ops Q rest (a.put o.dst v') w') :
    wpList Tryz.prog ops Q (o :: rest) a w := by
  obtain ⟨i0, hi0, hz0, hz1, hz2⟩ := info_parts hi
  have hr' := hr
  obtain ⟨hl, ⟨rfl, rfl⟩ | ⟨g, cap, cur, rfl, _, hg, _⟩⟩ := hr
  · have : ds = [] := List.eq_nil_of_length_eq_zero (by omega)
    subst this
    rw [List.append_nil] at h
    exact wpList_append_own_none hgd s x t ho B e i0 k hu hi0 v n cs hs hh hx (h v w hh (TB.refl _ _ _) (fun _ _ _ => rfl))
  · refine wpList_append_own _ hgd s x t ho B e i0 z k bytes hu hi0 hz0 hz1 hz2 hz hk v n cs hs hh ⟨g, 0, none⟩ m cap ds hx hl (fun j y hj => ?_) h1 (by unfold maxLen; omega) ?_ hB ?_
    · have e : (Addr.add ⟨g, 0, none⟩ j) = ⟨g, j, none⟩ := by unfold Addr.add; split <;> simp_all
      rw [e]
      obtain ⟨hj', hy⟩ := List.getElem?_eq_some_iff.1 hj
      have := hr'.cellAt j (by omega)
      rw [this, hj]
    · have : (n + m) * bytes ≤ 70000 * 1000 := Nat.mul_le_mul hn hbt
      omega
    · intro v' w' ho' hg' _
      exact h v' w' ho' (own_turn hh hg') (fun x hx hne => hg'.block x hx hne)
end Go.Proofs.YtahmjgmaaaegcaaGreatDoor
