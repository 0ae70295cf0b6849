/-
  Rows of elements in memory, and appends to them; no statement is proved here.
-/
import Derived.Test.YtohapnninjdlfaaGreatDoorRows
import Derived.WalkKit
import Derived.ProofKit
import Derived.OpenShut
import Derived.Deep.Quiet
import Derived.Deep.QuietTactic
import Derived.Deep.RegionWith
import Derived.Deep.Light
import Derived.Deep.WholeRow
import Derived.WalkSmall
import Derived.Maps.AppendAt
import Derived.Laws.BytesArg
import Derived.Laws.IdiomStrings
import Derived.Laws.AppendOwnNone
import Derived.Laws.AppendOwn
import Derived.OwnWalk
namespace Go.Proofs.YtohapnninjdlfaaGreatDoor
open Go.RowKit
set_option linter.unusedVariables false

/- Nothing old has changed. -/
def Grew (w w' : World) : Prop := Below w.heap.size w w' ∧ w.heap.size ≤ w'.heap.size
theorem Grew.refl (w : World) : Grew w w := ⟨Below.refl _ _, Nat.le_refl _⟩
theorem Grew.alloc {w w' : World} (h : Grew w w') (o : Obj) : Grew w (w'.alloc o) := ⟨h.1.alloc h.2 o, by have := h.2; simp; omega⟩
theorem Grew.drew {w w' : World} (h : Grew w w') : Grew w w'.drew := ⟨h.1.drew, h.2⟩
theorem Grew.drewN {w w' : World} (h : Grew w w') (n : Nat) : Grew w (w'.drewN n) := ⟨⟨h.1.os, h.1.tape, h.1.output, h.1.size, h.1.block⟩, h.2⟩
theorem Grew.trans {a b c : World} (h : Grew a b) (k : Grew b c) : Grew a c := ⟨h.1.trans (k.1.mono h.2), Nat.le_trans h.2 k.2⟩
theorem Grew.set {w w' : World} (h : Grew w w') {p : Addr} (hp : w.heap.size ≤ p.block) (u : Value) : Grew w (w'.setCell p u) :=
  ⟨h.1.setCell hp u, by have := h.2; simpa using this⟩
theorem Grew.blk {w w' : World} (g : Grew w w') {B : Nat} (hB : B < w.heap.size) : B < w'.heap.size ∧ Hid (∀ (j : Nat) (v : Value), w.cell? ⟨B, j, none⟩ = some v → w'.cell? ⟨B, j, none⟩ = some v) :=
  ⟨Nat.lt_of_lt_of_le hB g.2, fun j v h => by rw [g.1.cell hB]; exact h⟩
/- The cells of a block behind a call. -/
theorem Grew.c1 {w w' : World} (g : Grew w w') (B : Nat) (c0 : Value) (hB : B < w.heap.size := by first | (simp; done) | (simp; omega) | omega) (h0 : w.cell? ⟨B, 0, none⟩ = some c0 := by go_simp) :
    B < w'.heap.size ∧ w'.cell? ⟨B, 0, none⟩ = some c0 := ⟨(g.blk hB).1, (g.blk hB).2 0 _ h0⟩
theorem Grew.c2 {w w' : World} (g : Grew w w') (B : Nat) (c0 c1 : Value) (hB : B < w.heap.size := by first | (simp; done) | (simp; omega) | omega) (h0 : w.cell? ⟨B, 0, none⟩ = some c0 := by go_simp) (h1 : w.cell? ⟨B, 1, none⟩ = some c1 := by go_simp) :
    B < w'.heap.size ∧ w'.cell? ⟨B, 0, none⟩ = some c0 ∧ w'.cell? ⟨B, 1, none⟩ = some c1 := ⟨(g.blk hB).1, (g.blk hB).2 0 _ h0, (g.blk hB).2 1 _ h1⟩
theorem Grew.c3 {w w' : World} (g : Grew w w') (B : Nat) (c0 c1 c2 : Value) (hB : B < w.heap.size := by first | (simp; done) | (simp; omega) | omega) (h0 : w.cell? ⟨B, 0, none⟩ = some c0 := by go_simp) (h1 : w.cell? ⟨B, 1, none⟩ = some c1 := by go_simp) (h2 : w.cell? ⟨B, 2, none⟩ = some c2 := by go_simp) :
    B < w'.heap.size ∧ w'.cell? ⟨B, 0, none⟩ = some c0 ∧ w'.cell? ⟨B, 1, none⟩ = some c1 ∧ w'.cell? ⟨B, 2, none⟩ = some c2 := ⟨(g.blk hB).1, (g.blk hB).2 0 _ h0, (g.blk hB).2 1 _ h1, (g.blk hB).2 2 _ h2⟩
/- A call answers v in every world, and nothing old changes. -/
def CG (n : FuncId) (args : Array Value) (v : Value) : Prop := ∀ w : World, Calls Tryz.prog n args w fun e w' => e = .returned v ∧ Grew w w'
theorem CG.out {n : FuncId} {args : Array Value} {v : Value} (h : CG n args v) (w : World) : Calls Tryz.prog n args w fun e w' => e = .returned v ∧ Grew w w' := h w

/- Of what lay in w only the blocks of S may have turned. -/
structure Turn (S : List Nat) (w w' : World) : Prop where
  os : w'.os = w.os
  tape : w'.tape = w.tape
  output : w'.output = w.output
  size : w.heap.size ≤ w'.heap.size
  block : ∀ k, k < w.heap.size → k ∉ S → w'.heap[k]? = w.heap[k]?

theorem lt_of_obj {w : World} {k : Nat} {o : Obj} (h : w.heap[k]? = some o) : k < w.heap.size := (Array.getElem?_eq_some_iff.1 h).1
theorem Turn.refl (S : List Nat) (w : World) : Turn S w w := ⟨rfl, rfl, rfl, Nat.le_refl _, fun _ _ _ => rfl⟩
theorem Turn.alloc {S : List Nat} {w w' : World} (h : Turn S w w') (x : Obj) : Turn S w (w'.alloc x) := by
  have := h.size
  refine ⟨h.os, h.tape, h.output, by simp; omega, fun k hk hn => ?_⟩
  rw [Below.heap_alloc _ _ _ (by omega)]; exact h.block k hk hn
theorem Turn.drew {S : List Nat} {w w' : World} (h : Turn S w w') : Turn S w w'.drew := ⟨h.os, h.tape, h.output, h.size, h.block⟩
theorem Turn.drewN {S : List Nat} {w w' : World} (h : Turn S w w') (n : Nat) : Turn S w (w'.drewN n) := ⟨h.os, h.tape, h.output, h.size, h.block⟩
theorem Turn.set {S : List Nat} {w w' : World} (h : Turn S w w') {p : Addr} (hp : p.block ∈ S ∨ w.heap.size ≤ p.block) (u : Value) : Turn S w (w'.setCell p u) := by
  refine ⟨h.os, h.tape, h.output, by simpa [World.setCell] using h.size, fun k hk hn => ?_⟩
  have hne : k ≠ p.block := by
    rintro rfl
    rcases hp with h | h
    · exact hn h
    · omega
  rw [Below.heap_setCell _ _ _ _ hne]; exact h.block k hk hn
theorem Turn.trans {S : List Nat} {a b c : World} (h : Turn S a b) (k : Turn S b c) : Turn S a c :=
  ⟨k.os.trans h.os, k.tape.trans h.tape, k.output.trans h.output, Nat.le_trans h.size k.size, fun i hi hn => (k.block i (Nat.lt_of_lt_of_le hi h.size) hn).trans (h.block i hi hn)⟩
/- What turned in blocks that were not there counts for nothing. -/
theorem Turn.trans' {S S' : List Nat} {a b c : World} (h : Turn S a b) (k : Turn S' b c) (hs : ∀ x ∈ S', x ∈ S ∨ a.heap.size ≤ x) : Turn S a c :=
  ⟨k.os.trans h.os, k.tape.trans h.tape, k.output.trans h.output, Nat.le_trans h.size k.size, fun i hi hn => (k.block i (Nat.lt_of_lt_of_le hi h.size) (fun hx => (hs i hx).elim hn (fun h => by omega))).trans (h.block i hi hn)⟩
theorem Turn.other {S : List Nat} {w w' : World} (h : Turn S w w') {b : Nat} {o : Obj} (ho : w.heap[b]? = some o) (hn : b ∉ S) : w'.heap[b]? = some o :=
  (h.block b (lt_of_obj ho) hn).trans ho
theorem Grew.turn {w w' : World} (h : Grew w w') (S : List Nat) : Turn S w w' := ⟨h.1.os, h.1.tape, h.1.output, h.2, fun k hk _ => h.1.block k hk⟩
theorem Turn.grew {S : List Nat} {w0 w w' : World} (h : Turn S w w') (hg : Grew w0 w) (hs : ∀ x ∈ S, w0.heap.size ≤ x) : Grew w0 w' :=
  ⟨⟨h.os.trans hg.1.os, h.tape.trans hg.1.tape, h.output.trans hg.1.output, Nat.le_trans hg.2 h.size, fun k hk => (h.block k (Nat.lt_of_lt_of_le hk hg.2) (fun hx => by have := hs k hx; omega)).trans (hg.1.block k hk)⟩, Nat.le_trans hg.2 h.size⟩

theorem cell_of {w : World} {b : Nat} {cs : Array Value} {ty : TypeId} {fr : Nat × Nat} (h : w.heap[b]? = some (.cells cs ty fr)) (j : Nat) : w.cell? ⟨b, j, none⟩ = cs[j]? := by
  unfold World.cell?; rw [h]; simp
theorem free_of {w : World} {b : Nat} {cs : Array Value} {ty : TypeId} (h : w.heap[b]? = some (.cells cs ty (0, 0))) (j : Nat) : w.frozen? ⟨b, j, none⟩ = false := by
  unfold World.frozen?; rw [h]; simp
theorem heap_set {w : World} {b : Nat} {cs : Array Value} {ty : TypeId} {fr : Nat × Nat} (h : w.heap[b]? = some (.cells cs ty fr)) (j : Nat) (u : Value) :
    (w.setCell ⟨b, j, none⟩ u).heap[b]? = some (.cells (cs.setIfInBounds j u) ty fr) := by
  simp only [World.setCell, Array.getElem?_modify, if_true]
  rw [h]; simp
theorem heap_alloc {w : World} {b : Nat} {o : Obj} (h : w.heap[b]? = some o) (x : Obj) : (w.alloc x).heap[b]? = some o := by
  rw [Below.heap_alloc _ _ _ (lt_of_obj h)]; exact h
theorem heap_other {w : World} {b : Nat} {o : Obj} (h : w.heap[b]? = some o) {p : Addr} (hp : b ≠ p.block) (u : Value) : (w.setCell p u).heap[b]? = some o := by
  rw [Below.heap_setCell _ _ _ _ hp]; exact h
theorem heap_drewN {w : World} {b : Nat} {o : Obj} (h : w.heap[b]? = some o) (n : Nat) : (w.drewN n).heap[b]? = some o := h
theorem Turn.set3 {S : List Nat} {w w' : World} (h : Turn S w w') (N : Nat) (hN : w.heap.size ≤ N) (x y z : Value) : Turn S w (((w'.setCell ⟨N, 0, none⟩ x).setCell ⟨N, 1, none⟩ y).setCell ⟨N, 2, none⟩ z) :=
  ((h.set (p := ⟨N, 0, none⟩) (Or.inr hN) x).set (p := ⟨N, 1, none⟩) (Or.inr hN) y).set (p := ⟨N, 2, none⟩) (Or.inr hN) z
theorem alloc_size (w : World) (o : Obj) : (w.alloc o).heap.size = w.heap.size + 1 := by simp

end Go.Proofs.YtohapnninjdlfaaGreatDoor

namespace Go.Proofs.YtohapnninjdlfaaGreatDoor
open Go.RowKit

theorem infoB : (Tryz.prog.info? 5).map (fun i => (i.zero, i.size, i.bytes)) = some (some (.int .u8 0), 1, 1) := by kernel_rfl

/- The bytes of a list, as the cells of a row. -/
def U8 (l : List Int) : List Value := l.map (Value.int .u8)
theorem U8_snoc (l : List Int) (c : Int) : U8 (l ++ [c]) = U8 l ++ [.int .u8 c] := by simp [U8]

/- A slice value that owns the bytes l, in blocks from base on; below base all is as in w0. -/
def Has (base : Nat) (w0 w : World) (v : Value) (l : List Int) : Prop := w.ownsRow base 5 1 v l.length (U8 l) ∧ Below base w0 w ∧ base ≤ w.heap.size

theorem Has.nil (w : World) : Has w.heap.size w w (.slice none 0 0) [] := ⟨World.ownsRow_nil _ _ _ _, Below.refl _ _, Nat.le_refl _⟩

theorem wp_appB {w0 w : World} {ops : Array Oper} {rest : List Oper} {o : Oper} {a : Act} {Q : Exit → Act → World → Prop} (hgd : o.guard = none) (s x : Operand)
    (ho : o.op = .call { callee := .builtin .append, args := #[s, x], argTypes := #[22, 22] }) {base : Nat} {v : Value} {l : List Int} {c : Int} {t : TypeId}
    (hs : a.eval s = v) (hx : a.eval x = .slice (some ⟨w.heap.size, 0, none⟩) 1 1) (hh : Has base w0 w v l) (hlen : l.length ≤ 70368744177664)
    (h : ∀ v' w', Has base w0 w' v' (l ++ [c]) → wpList Tryz.prog ops Q rest (a.put o.dst v') w') :
    wpList Tryz.prog ops Q (o :: rest) a (w.alloc (.cells #[.int .u8 c] t)) := by
  obtain ⟨i0, hi, hz0, hz1, hz2⟩ := info_parts infoB
  obtain ⟨hown, hb, hle⟩ := hh
  refine wpList_append_own _ hgd s x 22 ho base 5 i0 (.int .u8 0) 1 1 Tryz.underlying22 hi hz0 hz1 hz2 rfl (by decide) v l.length (U8 l) hs (hown.alloc _) ⟨w.heap.size, 0, none⟩ 1 1 [.int .u8 c] hx rfl (cell_one_new _ _ _) (by simp [Value.oneCell']) (by unfold maxLen; omega) (by omega) (by simp; omega) ?_
  intro v' w' ho' hg _
  refine h v' w' ⟨?_, (hb.alloc hle _).grown hg (by simp; omega) (fun k hk => (hown.lt k hk).1), ?_⟩
  · rw [U8_snoc, List.length_append]; exact ho'
  · have := hg.size; simp at this; omega

/- Or and and of bytes. -/
theorem or128 (x : Int) (h0 : 0 ≤ x) (h1 : x < 256) : bits .or .u8 x 128 = x % 128 + 128 := by
  obtain ⟨a, rfl⟩ := Int.eq_ofNat_of_zero_le h0
  have h := (bits_nat .u8 8 (by decide) wraps_u8 a 128 (by omega) (by omega)).2
  have e : ∀ a : Nat, a < 256 → a ||| 128 = a % 128 + 128 := by decide +kernel
  have := e a (by omega)
  rw [show (128 : Int) = ((128 : Nat) : Int) from rfl, h, this]
  omega
theorem and127 (x : Int) (h0 : 0 ≤ x) (h1 : x < 256) : bits .and .u8 x 127 = x % 128 := bits_mask .u8 8 (by decide) wraps_u8 7 (by decide) x h0 (by omega)
theorem and127_i64 (X : Int) : bits .and .i64 X 127 = X % 128 := by
  have h : (BitVec.ofInt 64 X &&& BitVec.ofInt 64 127).toNat = (X % 128).toNat := by
    rw [BitVec.toNat_and, BitVec.toNat_ofInt, BitVec.toNat_ofInt]
    rw [show ((127 : Int) % ((2 ^ 64 : Nat) : Int)).toNat = 2 ^ 7 - 1 from by decide, Nat.and_two_pow_sub_one_eq_mod]
    omega
  show IntKind.i64.wrap (((BitVec.ofInt 64 X &&& BitVec.ofInt 64 127).toNat : Nat) : Int) = _
  rw [h, IntKind.wrap_i64]
  omega

/- The slice value v reads, in w, as the bytes l (v is nil, or empty, or leads to them). -/
def Reads (w : World) (v : Value) (l : List Int) : Prop :=
  ∃ a cap, v = .slice a l.length cap ∧ l.length ≤ cap ∧ cap ≤ maxLen ∧ (a = none → cap = 0) ∧ (l = [] ∨ ∃ b off, a = some ⟨b, off, none⟩ ∧ ∀ j, j < l.length → w.cell? ⟨b, off + j, none⟩ = some (.int .u8 (l.getD j 0)))
theorem Reads.below {w w' : World} {v : Value} {l : List Int} (h : Reads w v l) (hb : Below w.heap.size w w') : Reads w' v l := by
  obtain ⟨a, cap, hv, hlc, hm, hn, h⟩ := h
  refine ⟨a, cap, hv, hlc, hm, hn, h.imp_right ?_⟩
  rintro ⟨b, off, ha, hc⟩
  refine ⟨b, off, ha, fun j hj => ?_⟩
  have := hc j hj
  rw [hb.cell (block_lt_of_cell this)]; exact this
theorem Has.below {base : Nat} {w0 w : World} {v : Value} {l : List Int} (h : Has base w0 w v l) : Below base w0 w := h.2.1
theorem Has.reads {base : Nat} {w0 w : World} {v : Value} {l : List Int} (h : Has base w0 w v l) : Reads w v l := by
  obtain ⟨ho, _, _⟩ := h
  have ho' := ho
  obtain ⟨hl, h | ⟨g, cap, cur, hv, hg, hh, h1, h2, h3, h4⟩⟩ := ho
  · obtain ⟨hv, hn⟩ := h
    have : l = [] := List.eq_nil_of_length_eq_zero hn
    subst this
    exact ⟨none, 0, hv, Nat.le_refl _, Nat.zero_le _, fun _ => rfl, Or.inl rfl⟩
  · subst hv
    refine ⟨_, cap, rfl, h1, h2, (fun h => by cases h), Or.inr ⟨g, 0, rfl, fun j hj => ?_⟩⟩
    rw [Nat.zero_add, ho'.cellAt j (by omega)]
    simp [U8, List.getD, hj]
theorem Has.grew {base : Nat} {w0 w w' : World} {v : Value} {l : List Int} (h : Has base w0 w v l) (hb : Below w.heap.size w w') : Has base w0 w' v l := by
  obtain ⟨ho, h1, h2⟩ := h
  refine ⟨ho.kept (w' := w') (row := none) ⟨hb.os, hb.tape, hb.output, hb.size, fun k hk _ => hb.block k hk⟩ ?_, h1.trans (hb.mono h2), Nat.le_trans h2 hb.size⟩
  cases v.ownBlock <;> simp
theorem Reads.str {w : World} {v : Value} {l : List Int} (h : Reads w v l) : (convert 22 9 v).run Tryz.prog w = .ok (.string (strOfNums l)) w := by
  obtain ⟨a, cap, rfl, _, _, _, rfl | ⟨b, off, rfl, hc⟩⟩ := h
  · cases a with
    | none => exact run_convert_bytes_nil w 22 5 Tryz.underlying22 Tryz.underlying5 0 cap 9 Tryz.underlying9
    | some a => exact run_convert_bytes_back w 22 9 5 a cap [] Tryz.underlying22 Tryz.underlying5 Tryz.underlying9 (by simp)
  · exact run_convert_bytes_arg w 22 5 Tryz.underlying22 Tryz.underlying5 b off l.length cap l rfl hc 9 Tryz.underlying9
theorem Reads.len {w : World} {v : Value} {l : List Int} (h : Reads w v l) : ∃ a cap, v = .slice a l.length cap := by
  obtain ⟨a, cap, hv, _, _, _, _⟩ := h; exact ⟨a, cap, hv⟩

/- Bytes read from a slice, appended to a slice of the call's own. -/
theorem wp_appS {w0 w : World} {ops : Array Oper} {rest : List Oper} {o : Oper} {a : Act} {Q : Exit → Act → World → Prop} (hgd : o.guard = none) (s x : Operand)
    (ho : o.op = .call { callee := .builtin .append, args := #[s, x], argTypes := #[22, 22] }) {base : Nat} {v u : Value} {l r : List Int}
    (hs : a.eval s = v) (hx : a.eval x = u) (hh : Has base w0 w v l) (hR : Reads w u r) (hlen : l.length + r.length ≤ 140737488355328)
    (h : ∀ v' w', Has base w0 w' v' (l ++ r) → wpList Tryz.prog ops Q rest (a.put o.dst v') w') :
    wpList Tryz.prog ops Q (o :: rest) a w := by
  obtain ⟨i0, hi, hz0, hz1, hz2⟩ := info_parts infoB
  obtain ⟨hown, hb, hle⟩ := hh
  have main : ∀ (ad : Addr) (c : Nat), u = .slice (some ad) r.length c → (∀ (j : Nat) (z : Value), (U8 r)[j]? = some z → w.cell? (ad.add j) = some z) → wpList Tryz.prog ops Q (o :: rest) a w := by
    intro ad c hu hn
    refine wpList_append_own _ hgd s x 22 ho base 5 i0 (.int .u8 0) 1 1 Tryz.underlying22 hi hz0 hz1 hz2 rfl (by decide) v l.length (U8 l) hs hown ad r.length c (U8 r) (hx.trans hu) (by simp [U8]) hn (by simp [U8, Value.oneCell']) (by unfold maxLen; omega) (by omega) hle ?_
    intro v' w' ho' hg _
    refine h v' w' ⟨?_, hb.grown hg hle (fun k hk => (hown.lt k hk).1), Nat.le_trans hle hg.size⟩
    rw [List.length_append, show U8 (l ++ r) = U8 l ++ U8 r from by simp [U8]]; exact ho'
  obtain ⟨ad, cap, hu, _, _, hn, hr⟩ := hR
  rcases hr with rfl | ⟨b, off, rfl, hc⟩
  · cases ad with
    | none =>
      have hc0 := hn rfl
      subst hc0
      refine wpList_append_own_none hgd s x 22 ho base 5 i0 1 Tryz.underlying22 hi v l.length (U8 l) hs hown (hx.trans hu) ?_
      rw [List.append_nil] at h
      exact h v w ⟨hown, hb, hle⟩
    | some ad => exact main ad cap hu (fun j z hz => by simp [U8] at hz)
  · refine main _ cap hu (fun j z hz => ?_)
    obtain ⟨hj, hz⟩ := List.getElem?_eq_some_iff.1 hz
    have hj' : j < r.length := by simpa [U8] using hj
    have := hc j hj'
    have e : (Addr.add ⟨b, off, none⟩ j) = ⟨b, off + j, none⟩ := by simp [Addr.add]
    rw [e, this, ← hz]
    simp [U8, List.getD, hj']

end Go.Proofs.YtohapnninjdlfaaGreatDoor

namespace Go.Proofs.YtohapnninjdlfaaGreatDoor
open Go.RowKit
set_option linter.unusedVariables false
set_option linter.unusedSimpArgs false

/- No byte lies in the block. -/
def NoB (w : World) (b : Nat) : Prop := ∀ (j : Nat) (n : Int), w.cell? ⟨b, j, none⟩ ≠ some (.int .u8 n)
theorem Reads.turn {w w' : World} {v : Value} {l : List Int} {S : List Nat} (h : Reads w v l) (ht : Turn S w w') (hn : ∀ b ∈ S, NoB w b) : Reads w' v l := by
  obtain ⟨a, cap, hv, h1, h2, h3, h4⟩ := h
  refine ⟨a, cap, hv, h1, h2, h3, h4.imp_right ?_⟩
  rintro ⟨b, off, ha, hc⟩
  refine ⟨b, off, ha, fun j hj => ?_⟩
  have hcj := hc j hj
  have hlt : b < w.heap.size := block_lt_of_cell hcj
  have hne : b ∉ S := fun hb => hn b hb _ _ hcj
  rw [← hcj]
  exact World.cell?_of_block (w := w) (a := ⟨b, off + j, none⟩) (ht.block b hlt hne)
theorem Grew.reads {w w' : World} (g : Grew w w') {v : Value} {l : List Int} (h : Reads w v l) : Reads w' v l := h.below g.1
/- No row of elements of type e lies in the block. -/
def NoT (w : World) (x : Nat) (e : TypeId) : Prop := ∀ cs f, w.heap[x]? ≠ some (.cells cs e f)
theorem NoT.of {w : World} {x : Nat} {e t : TypeId} {cs : Array Value} {f : Nat × Nat} (h : w.heap[x]? = some (.cells cs t f)) (hne : t ≠ e) : NoT w x e := by
  intro cs' f' h'
  rw [h] at h'
  injection h' with h'
  injection h' with _ h2 _
  exact hne h2
theorem row_turn {w w' : World} {B : Nat} {e : TypeId} {k : Nat} {v : Value} {n : Nat} {cs : List Value} {S : List Nat} (h : w.ownsRow B e k v n cs) (t : Turn S w w') (hS : ∀ x ∈ S, NoT w x e) : w'.ownsRow B e k v n cs := by
  obtain ⟨h1, h2 | ⟨g, cap, cur, hv, hB, hg, h3⟩⟩ := h
  · exact ⟨h1, Or.inl h2⟩
  · exact ⟨h1, Or.inr ⟨g, cap, cur, hv, hB, t.other hg (fun hx => hS g hx _ _ hg), h3⟩⟩
theorem row_low {w : World} {B B' : Nat} {e : TypeId} {k : Nat} {v : Value} {n : Nat} {cs : List Value} (h : w.ownsRow B e k v n cs) (hb : B' ≤ B) : w.ownsRow B' e k v n cs := by
  obtain ⟨h1, h2 | ⟨g, cap, cur, hv, hB, hg, h3⟩⟩ := h
  · exact ⟨h1, Or.inl h2⟩
  · exact ⟨h1, Or.inr ⟨g, cap, cur, hv, Nat.le_trans hb hB, hg, h3⟩⟩
theorem row_set {w : World} {B : Nat} {e : TypeId} {k : Nat} {v : Value} {n : Nat} {cs : List Value} {q : Addr} (h : w.ownsRow B e k v n cs) (hq : NoT w q.block e) (x : Value) : (w.setCell q x).ownsRow B e k v n cs := by
  obtain ⟨h1, h2 | ⟨g, cap, cur, hv, hB, hg, h3⟩⟩ := h
  · exact ⟨h1, Or.inl h2⟩
  · exact ⟨h1, Or.inr ⟨g, cap, cur, hv, hB, heap_other hg (fun hx => hq _ _ (by rw [← hx]; exact hg)) x, h3⟩⟩
theorem row_one {w : World} {B : Nat} {e : TypeId} {k : Nat} {v : Value} {n : Nat} {cs : List Value} (h : w.ownsRow B e k v n cs) : ∃ a c, v = .slice a n c := by
  obtain ⟨h1, ⟨rfl, rfl⟩ | ⟨g, cap, cur, hv, _⟩⟩ := h
  · exact ⟨none, 0, rfl⟩
  · exact ⟨_, _, hv⟩
theorem row_cell {w : World} {B : Nat} {e : TypeId} {k : Nat} {v : Value} {n : Nat} {cs : List Value} (h : w.ownsRow B e k v n cs) : v.oneCell' = true := by
  obtain ⟨a, c, rfl⟩ := row_one h
  cases a <;> rfl
/- Only block b and blocks from B on may have turned. -/
structure TB (b B : Nat) (w w' : World) : Prop where
  os : w'.os = w.os
  tape : w'.tape = w.tape
  output : w'.output = w.output
  size : w.heap.size ≤ w'.heap.size
  block : ∀ k, k < w.heap.size → k ≠ b → k < B → w'.heap[k]? = w.heap[k]?
theorem TB.refl (b B : Nat) (w : World) : TB b B w w := ⟨rfl, rfl, rfl, Nat.le_refl _, fun _ _ _ _ => rfl⟩
theorem TB.trans {b B : Nat} {x y z : World} (h : TB b B x y) (k : TB b B y z) : TB b B x z :=
  ⟨k.os.trans h.os, k.tape.trans h.tape, k.output.trans h.output, Nat.le_trans h.size k.size, fun i hi h1 h2 => (k.block i (Nat.lt_of_lt_of_le hi h.size) h1 h2).trans (h.block i hi h1 h2)⟩
theorem TB.of_turn {b B : Nat} {S : List Nat} {w w' : World} (h : Turn S w w') (hS : ∀ x ∈ S, x = b ∨ B ≤ x) : TB b B w w' :=
  ⟨h.os, h.tape, h.output, h.size, fun k hk h1 h2 => h.block k hk (fun hx => (hS k hx).elim h1 (fun h => by omega))⟩
theorem TB.turn {b B : Nat} {w0 w w' : World} (h : TB b B w w') (t : Turn [b] w0 w) (hB : w0.heap.size ≤ B) : Turn [b] w0 w' :=
  ⟨h.os.trans t.os, h.tape.trans t.tape, h.output.trans t.output, Nat.le_trans t.size h.size, fun k hk hn => (h.block k (Nat.lt_of_lt_of_le hk t.size) (by simpa using hn) (by omega)).trans (t.block k hk hn)⟩
theorem TB.other {b B : Nat} {w w' : World} (h : TB b B w w') {x : Nat} {o : Obj} (ho : w.heap[x]? = some o) (h1 : x ≠ b) (h2 : x < B) : w'.heap[x]? = some o :=
  (h.block x (lt_of_obj ho) h1 h2).trans ho
theorem TB.low {b B B' : Nat} {w w' : World} (h : TB b B w w') (hb : B' ≤ B) : TB b B' w w' := ⟨h.os, h.tape, h.output, h.size, fun k hk h1 h2 => h.block k hk h1 (by omega)⟩
/- A row whose block lies below B stays. -/
theorem row_tb {w w' : World} {b B B0 : Nat} {e : TypeId} {k : Nat} {v : Value} {n : Nat} {cs : List Value} (h : w.ownsRow B0 e k v n cs) (t : TB b B w w') (hb : NoT w b e) (hl : ∀ g, v.ownBlock = some g → g < B) : w'.ownsRow B0 e k v n cs := by
  obtain ⟨h1, h2 | ⟨g, cap, cur, hv, hB, hg, h3⟩⟩ := h
  · exact ⟨h1, Or.inl h2⟩
  · exact ⟨h1, Or.inr ⟨g, cap, cur, hv, hB, t.other hg (fun hx => hb _ _ (by rw [← hx]; exact hg)) (hl g (by rw [hv]; rfl)), h3⟩⟩
theorem row_lt {w : World} {B : Nat} {e : TypeId} {k : Nat} {v : Value} {n : Nat} {cs : List Value} (h : w.ownsRow B e k v n cs) : ∀ g, v.ownBlock = some g → g < w.heap.size := fun g hg => (h.lt g hg).2
theorem own_turn {b B : Nat} {w w' : World} {v : Value} {e : TypeId} {k n : Nat} {cs : List Value} (h : w.ownsRow B e k v n cs) (g : w.grownBy w' v.ownBlock) : TB b B w w' :=
  ⟨g.os, g.tape, g.output, g.size, fun i hi _ hB => g.block i hi (fun hx => by have := (h.lt i hx.symm).1; omega)⟩
/- One element more. -/
theorem wp_app1 {w : World} {ops : Array Oper} {rest : List Oper} {o : Oper} {a : Act} {Q : Exit → Act → World → Prop} (hgd : o.guard = none) (s x : Operand) (t e : TypeId) (k bytes : Nat) (z : Value)
    (hu : Tryz.prog.underlying t = some (.slice e)) (hi : (Tryz.prog.info? e).map (fun i => (i.zero, i.size, i.bytes)) = some (some z, k, bytes)) (hz : z.cells.size = k) (hk : 0 < k) (hbt : bytes ≤ 1000)
    (ho : o.op = .call { callee := .builtin .append, args := #[s, x], argTypes := #[t, t] }) {B : Nat} {v : Value} {n : Nat} {cs : List Value} {new : Array Value} {t' : TypeId} (b : Nat)
    (hs : a.eval s = v) (hx : a.eval x = .slice (some ⟨w.heap.size, 0, none⟩) 1 1) (hh : w.ownsRow B e k v n cs) (hB : B ≤ w.heap.size) (hsz : new.size = k) (h1 : ∀ u ∈ new.toList, u.oneCell' = true) (hn : n ≤ 70000)
    (h : ∀ v' w', w'.ownsRow B e k v' (n + 1) (cs ++ new.toList) → TB b B w w' → (∀ x < w.heap.size, some x ≠ v.ownBlock → w'.heap[x]? = w.heap[x]?) → wpList Tryz.prog ops Q rest (a.put o.dst v') w') :
    wpList Tryz.prog ops Q (o :: rest) a (w.alloc (.cells new t')) := by
  obtain ⟨i0, hi0, hz0, hz1, hz2⟩ := info_parts hi
  refine wpList_append_own _ hgd s x t ho B e i0 z k bytes hu hi0 hz0 hz1 hz2 hz hk v n cs hs (hh.alloc _) ⟨w.heap.size, 0, none⟩ 1 1 new.toList hx (by simp [hsz]) ?_ h1 (by unfold maxLen; omega) ?_ (by simp; omega) ?_
  · intro j u hj
    have e : (Addr.add ⟨w.heap.size, 0, none⟩ j) = ⟨w.heap.size, j, none⟩ := by unfold Addr.add; split <;> simp_all
    rw [e, cell_of (heap_alloc_last w _), ← Array.getElem?_toList]
    exact hj
  · have : (n + 1) * bytes ≤ 70001 * 1000 := Nat.mul_le_mul (by omega) hbt
    omega
  · intro v' w' ho' hg _
    have hg' : ∀ y < w.heap.size, some y ≠ v.ownBlock → w'.heap[y]? = w.heap[y]? := fun y hy hne => by
      rw [hg.block y (by simp; omega) hne, Below.heap_alloc _ _ _ hy]
    refine h v' w' ho' ⟨hg.os, hg.tape, hg.output, by have := hg.size; simp at this; omega, fun y hy _ hB' => hg' y hy (fun hx => by have := (hh.lt y hx.symm).1; omega)⟩ hg'
/- All elements of another row. -/
theorem wp_appN {w : World} {ops : Array Oper} {rest : List Oper} {o : Oper} {a : Act} {Q : Exit → Act → World → Prop} (hgd : o.guard = none) (s x : Operand) (t e : TypeId) (k bytes : Nat) (z : Value)
    (hu : Tryz.prog.underlying t = some (.slice e)) (hi : (Tryz.prog.info? e).map (fun i => (i.zero, i.size, i.bytes)) = some (some z, k, bytes)) (hz : z.cells.size = k) (hk : 0 < k) (hbt : bytes ≤ 1000)
    (ho : o.op = .call { callee := .builtin .append, args := #[s, x], argTypes := #[t, t] }) {B B' : Nat} {v u : Value} {n m : Nat} {cs ds : List Value} (b : Nat)
    (hs : a.eval s = v) (hx : a.eval x = u) (hh : w.ownsRow B e k v n cs) (hr : w.ownsRow B' e k u m ds) (hB : B ≤ w.heap.size) (h1 : ∀ y ∈ ds, y.oneCell' = true) (hn : n + m ≤ 70000)
    (h : ∀ v' w', w'.ownsRow B e k v' (n + m) (cs ++ ds) → TB b B w w' → (∀ x < w.heap.size, some x ≠ v.ownBlock → w'.heap[x]? = w.heap[x]?) → wpList Tryz.prog ops Q rest (a.put o.dst v') w') :
    wpList Tryz.prog ops Q (o :: rest) a w := by
  obtain ⟨i0, hi0, hz0, hz1, hz2⟩ := info_parts hi
  have hr' := hr
  obtain ⟨hl, ⟨rfl, rfl⟩ | ⟨g, cap, cur, rfl, _, hg, _⟩⟩ := hr
  · have : ds = [] := List.eq_nil_of_length_eq_zero (by omega)
    subst this
    rw [List.append_nil] at h
    exact wpList_append_own_none hgd s x t ho B e i0 k hu hi0 v n cs hs hh hx (h v w hh (TB.refl _ _ _) (fun _ _ _ => rfl))
  · refine wpList_append_own _ hgd s x t ho B e i0 z k bytes hu hi0 hz0 hz1 hz2 hz hk v n cs hs hh ⟨g, 0, none⟩ m cap ds hx hl (fun j y hj => ?_) h1 (by unfold maxLen; omega) ?_ hB ?_
    · have e : (Addr.add ⟨g, 0, none⟩ j) = ⟨g, j, none⟩ := by unfold Addr.add; split <;> simp_all
      rw [e]
      obtain ⟨hj', hy⟩ := List.getElem?_eq_some_iff.1 hj
      have := hr'.cellAt j (by omega)
      rw [this, hj]
    · have : (n + m) * bytes ≤ 70000 * 1000 := Nat.mul_le_mul hn hbt
      omega
    · intro v' w' ho' hg' _
      exact h v' w' ho' (own_turn hh hg') (fun x hx hne => hg'.block x hx hne)
end Go.Proofs.YtohapnninjdlfaaGreatDoor
