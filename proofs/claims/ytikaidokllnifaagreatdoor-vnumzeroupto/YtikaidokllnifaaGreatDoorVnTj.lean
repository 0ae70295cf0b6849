/-
  Steps of vnum: table.init; no statement is proved here.
-/
import Derived.Test.YtikaidokllnifaaGreatDoorVnC
import Derived.Deep.RegionHeld3
import Derived.Test.YtikaidokllnifaaGreatDoorSvT
set_option maxRecDepth 100000
set_option maxHeartbeats 8000000
namespace Go.Proofs.YtikaidokllnifaaGreatDoor
open Go.RowKit
set_option linter.unusedVariables false
set_option linter.unusedSimpArgs false
/- The step at S with the cells es, its checker at C. -/
structure StA (gv : Value) (L : List RT) (W0 w : World) (C : Nat) (lv fv ov : Value) (g c : Nat) (lo : List LO) (fr : List Int) (ops : List VT) (fs : List FV) (x : FV) (S : Nat) (es : Array Value) : Prop where
  hG : GRP L W0 gv
  h : CHG gv W0.heap.size w C lv fv ov (.slice (some ⟨g, 0, none⟩) (fs.length + 1) c) lo fr ops (fs ++ [x])
  g0 : Grew W0 w
  hh : x.height ≤ ops.length
  hn : ops.length ≤ 4000000
  N : w.heap[S]? = some (.cells es 96 (0, 0))
  hc : es[9]? = some (.pointer (some ⟨C, 0, none⟩))
theorem freshV6 {w w1 : World} {t : TypeId} {a b c d e f : Value} (g : Grew (w.alloc (.cells #[a, b, c, d, e, f] t)) w1) :
    w.heap.size < w1.heap.size ∧ w1.cell? ⟨w.heap.size, 0, none⟩ = some a ∧ w1.cell? ⟨w.heap.size, 1, none⟩ = some b ∧ w1.cell? ⟨w.heap.size, 2, none⟩ = some c ∧
    w1.cell? ⟨w.heap.size, 3, none⟩ = some d ∧ w1.cell? ⟨w.heap.size, 4, none⟩ = some e ∧ w1.cell? ⟨w.heap.size, 5, none⟩ = some f := by
  have B1 := (g.turn []).other (heap_alloc_last w (.cells #[a, b, c, d, e, f] t)) (by simp)
  refine ⟨lt_of_obj B1, ?_, ?_, ?_, ?_, ?_, ?_⟩ <;> (rw [cell_of B1]; rfl)
section
variable {gv : Value} {L : List RT} {W0 w : World} {C : Nat} {lv fv ov : Value} {g c : Nat} {lo : List LO} {fr : List Int} {ops : List VT} {fs : List FV} {x : FV} {S : Nat} {es : Array Value}
theorem StA.grew (A : StA gv L W0 w C lv fv ov g c lo fr ops fs x S es) {w' : World} (k : Grew w w') : StA gv L W0 w' C lv fv ov g c lo fr ops fs x S es :=
  ⟨A.hG, A.h.grew k, A.g0.trans k, A.hh, A.hn, (k.turn []).other A.N (by simp), A.hc⟩
theorem StA.cell (A : StA gv L W0 w C lv fv ov g c lo fr ops fs x S es) {k : Nat} {v : Value} (h : es[k]? = some v) : w.cell? ⟨S, k, none⟩ = some v := (cell_of A.N k).trans h
theorem StA.hB (A : StA gv L W0 w C lv fv ov g c lo fr ops fs x S es) : W0.heap.size ≤ w.heap.size := A.g0.2
/- What a step ends with. -/
def MP (gv : Value) (W0 w X : World) (C : Nat) (lv : Value) (g c : Nat) (fs : List FV) (x : FV) (e : Int) (lo : List LO) (fr : List Int) (ops : List VT) : Ending → World → Prop := fun en w' => en = .returned (.int .i64 e) ∧ KB W0.heap.size w w' ∧ SK X w' ∧ (e = 0 → ∃ fv' ov', CHG gv W0.heap.size w' C lv fv' ov' (.slice (some ⟨g, 0, none⟩) (fs.length + 1) c) lo fr ops (fs ++ [x]))
/- A list of one, two, three types in a block of its own. -/
theorem lv_1 {w : World} {b : Nat} {n h : Int} {z : Bool} (c0 : w.cell? ⟨b, 0, none⟩ = some (.int .i64 n)) (c1 : w.cell? ⟨b, 1, none⟩ = some (.bool z)) (c2 : w.cell? ⟨b, 2, none⟩ = some (.int .i64 h)) : LV w (.slice (some ⟨b, 0, none⟩) 1 1) [⟨n, z, h⟩] := by
  refine ⟨_, _, rfl, Nat.le_refl _, by decide, (fun h => by cases h), Or.inr ⟨b, 0, rfl, fun i x hx => ?_⟩⟩
  match i with
  | 0 => simp at hx; subst hx; exact ⟨c0, c1, c2⟩
  | n + 1 => simp at hx
theorem lv_2 {w : World} {b : Nat} {n h n' h' : Int} {z z' : Bool} (c0 : w.cell? ⟨b, 0, none⟩ = some (.int .i64 n)) (c1 : w.cell? ⟨b, 1, none⟩ = some (.bool z)) (c2 : w.cell? ⟨b, 2, none⟩ = some (.int .i64 h)) (c3 : w.cell? ⟨b, 3, none⟩ = some (.int .i64 n')) (c4 : w.cell? ⟨b, 4, none⟩ = some (.bool z')) (c5 : w.cell? ⟨b, 5, none⟩ = some (.int .i64 h')) : LV w (.slice (some ⟨b, 0, none⟩) 2 2) [⟨n, z, h⟩, ⟨n', z', h'⟩] := by
  refine ⟨_, _, rfl, Nat.le_refl _, by decide, (fun h => by cases h), Or.inr ⟨b, 0, rfl, fun i x hx => ?_⟩⟩
  match i with
  | 0 => simp at hx; subst hx; exact ⟨c0, c1, c2⟩
  | 1 => simp at hx; subst hx; exact ⟨c3, c4, c5⟩
  | n + 2 => simp at hx
theorem lv_3 {w : World} {b : Nat} {n h n' h' n2 h2 : Int} {z z' z2 : Bool} (c0 : w.cell? ⟨b, 0, none⟩ = some (.int .i64 n)) (c1 : w.cell? ⟨b, 1, none⟩ = some (.bool z)) (c2 : w.cell? ⟨b, 2, none⟩ = some (.int .i64 h)) (c3 : w.cell? ⟨b, 3, none⟩ = some (.int .i64 n')) (c4 : w.cell? ⟨b, 4, none⟩ = some (.bool z')) (c5 : w.cell? ⟨b, 5, none⟩ = some (.int .i64 h')) (c6 : w.cell? ⟨b, 6, none⟩ = some (.int .i64 n2)) (c7 : w.cell? ⟨b, 7, none⟩ = some (.bool z2)) (c8 : w.cell? ⟨b, 8, none⟩ = some (.int .i64 h2)) : LV w (.slice (some ⟨b, 0, none⟩) 3 3) [⟨n, z, h⟩, ⟨n', z', h'⟩, ⟨n2, z2, h2⟩] := by
  refine ⟨_, _, rfl, Nat.le_refl _, by decide, (fun h => by cases h), Or.inr ⟨b, 0, rfl, fun i x hx => ?_⟩⟩
  match i with
  | 0 => simp at hx; subst hx; exact ⟨c0, c1, c2⟩
  | 1 => simp at hx; subst hx; exact ⟨c3, c4, c5⟩
  | 2 => simp at hx; subst hx; exact ⟨c6, c7, c8⟩
  | n + 3 => simp at hx
/- The checker's calls as a step sees them, in any world that has grown out of it. -/
theorem StA.push (A : StA gv L W0 w C lv fv ov g c lo fr ops fs x S es) (tn th : Int) (tz : Bool) {X : World} (k : Grew w X) :
    Calls Tryz.prog 65 #[.pointer (some ⟨C, 0, none⟩), .agg #[.int .i64 tn, .bool tz, .int .i64 th]] X (MP gv W0 w X C lv g c fs x 0 lo fr (ops ++ [⟨tn, tz, th⟩])) := by
  refine (pushW (A.grew k).h (by simp) (by have := A.hn; omega) tn th tz).mono ?_
  rintro en w' ⟨ov', rfl, h1, h2, h3, _⟩
  exact ⟨rfl, (k.kb A.hB).trans h2, Two.sk (A.grew k).h h3, fun _ => ⟨fv, ov', h1⟩⟩
theorem StA.pops (A : StA gv L W0 w C lv fv ov g c lo fr ops fs x S es) {v : Value} {l : List VT} {X : World} (k : Grew w X) (hl : LV X v l) :
    Calls Tryz.prog 35 #[.pointer (some ⟨C, 0, none⟩), v] X (MP gv W0 w X C lv g c fs x (popsR (matB L) x.height x.dead l.reverse ops).1 lo fr (popsR (matB L) x.height x.dead l.reverse ops).2) := by
  refine (popsA A.hG (A.grew k).h (A.grew k).g0 A.hh hl).mono ?_
  rintro en w' ⟨ov', rfl, h1, h3, h2⟩
  exact ⟨rfl, (k.kb A.hB).trans h1, Two.skN (A.grew k).h h3, fun he => ⟨fv, ov', (h2 he).1⟩⟩
theorem StA.own (A : StA gv L W0 w C lv fv ov g c lo fr ops fs x S es) {b : Nat} (hb : w.heap.size ≤ b) : ov.ownBlock ≠ some b := by
  intro e
  have := (World.ownsRow.lt A.h.rops b e).2
  omega
theorem StA.swap (A : StA gv L W0 w C lv fv ov g c lo fr ops fs x S es) {u : Value} {b n c' : Nat} {li lu : List VT} {X : World} (k : Grew w X) (hi : LV X u li) (hu : LV X (.slice (some ⟨b, 0, none⟩) n c') lu) (hb : w.heap.size ≤ b ∧ b < X.heap.size) (hl : lu.length ≤ 1000) :
    Calls Tryz.prog 146 #[.pointer (some ⟨C, 0, none⟩), u, .slice (some ⟨b, 0, none⟩) n c'] X (MP gv W0 w X C lv g c fs x (popsR (matB L) x.height x.dead li.reverse ops).1 lo fr ((popsR (matB L) x.height x.dead li.reverse ops).2 ++ lu)) := by
  refine (swapA A.hG (A.grew k).h (A.grew k).g0 A.hh hi hu (by have := A.hn; omega) (fun a n' c2 e => ?_)).mono ?_
  · injection e with e1 _ _
    injection e1 with e1
    subst e1
    exact ⟨A.own hb.1, hb.2⟩
  · rintro en w' ⟨ov', rfl, h1, h3, h2⟩
    exact ⟨rfl, (k.kb A.hB).trans h1, Two.sk (A.grew k).h h3, fun he => ⟨fv, ov', (h2 he).1⟩⟩
end
section
variable {gv : Value} {L : List RT} {W0 w : World} {C : Nat} {lv fv ov : Value} {g c : Nat} {lo : List LO} {fr : List Int} {ops : List VT} {fs : List FV} {x : FV} {S : Nat} {es : Array Value}
theorem MP.alloc {X : World} {e : Int} {en : Ending} {w' : World} (hB : W0.heap.size ≤ w.heap.size) (h : MP gv W0 w X C lv g c fs x e lo fr ops en w') (o : Obj) : MP gv W0 w X C lv g c fs x e lo fr ops en (w'.alloc o) := by
  obtain ⟨h1, h2, h3, h4⟩ := h
  have gg : Grew w' (w'.alloc o) := (Grew.refl _).alloc o
  exact ⟨h1, h2.trans (gg.kb (Nat.le_trans hB h2.2)), h3.trans gg.sk, fun he => by
    obtain ⟨fv', ov', hc⟩ := h4 he
    exact ⟨fv', ov', hc.grew gg⟩⟩
/- The call that pops one operand. -/
theorem StA.pop (A : StA gv L W0 w C lv fv ov g c lo fr ops fs x S es) {X : World} (k : Grew w X) :
    Calls Tryz.prog 127 #[.pointer (some ⟨C, 0, none⟩)] X fun en w' => en = .returned (.tuple #[(popP x.height x.dead ops).2.1.v, .int .i64 (popP x.height x.dead ops).1]) ∧ KB W0.heap.size w w' ∧ SK X w' ∧ ∃ ov', CHG gv W0.heap.size w' C lv fv ov' (.slice (some ⟨g, 0, none⟩) (fs.length + 1) c) lo fr (popP x.height x.dead ops).2.2 (fs ++ [x]) := by
  refine (popA (A.grew k).h A.hh).mono ?_
  rintro en w' ⟨ov', rfl, h1, h2, h3, _⟩
  exact ⟨rfl, (k.kb A.hB).trans h2, Two.skN (A.grew k).h h3, ov', h1⟩
/- The call that pops one operand of a type. -/
theorem StA.popT (A : StA gv L W0 w C lv fv ov g c lo fr ops fs x S es) (tn th : Int) (tz : Bool) {X : World} (k : Grew w X) :
    Calls Tryz.prog 70 #[.pointer (some ⟨C, 0, none⟩), .agg #[.int .i64 tn, .bool tz, .int .i64 th]] X fun en w' => en = .returned (.tuple #[(popTP (matB L) x.height x.dead ops ⟨tn, tz, th⟩).2.1.v, .int .i64 (popTP (matB L) x.height x.dead ops ⟨tn, tz, th⟩).1]) ∧ KB W0.heap.size w w' ∧ SK X w' ∧ ∃ ov', CHG gv W0.heap.size w' C lv fv ov' (.slice (some ⟨g, 0, none⟩) (fs.length + 1) c) lo fr (popTP (matB L) x.height x.dead ops ⟨tn, tz, th⟩).2.2 (fs ++ [x]) := by
  refine (popTypeA A.hG (A.grew k).h (A.grew k).g0 A.hh ⟨tn, tz, th⟩).mono ?_
  rintro en w' ⟨ov', rfl, h1, h2, h3, _⟩
  exact ⟨rfl, (k.kb A.hB).trans h2, Two.skN (A.grew k).h h3, ov', h1⟩
/- What was made since w stays. -/
def FR (w X w' : World) : Prop := ∀ (k : Nat) (o : Obj), w.heap.size ≤ k → X.heap[k]? = some o → w'.heap[k]? = some o
theorem StA.kept (A : StA gv L W0 w C lv fv ov g c lo fr ops fs x S es) {q : Value} {X w' : World} (t : Two C q X w') (hq : ∀ b, w.heap.size ≤ b → q.ownBlock ≠ some b) : FR w X w' := fun k o hk ho =>
  (t k (lt_of_obj ho) (by have := A.h.lt; omega) (Ne.symm (hq k hk))).trans ho
theorem StA.pushQ (A : StA gv L W0 w C lv fv ov g c lo fr ops fs x S es) (tn th : Int) (tz : Bool) {X : World} (k : Grew w X) :
    Calls Tryz.prog 65 #[.pointer (some ⟨C, 0, none⟩), .agg #[.int .i64 tn, .bool tz, .int .i64 th]] X fun en w' => MP gv W0 w X C lv g c fs x 0 lo fr (ops ++ [⟨tn, tz, th⟩]) en w' ∧ FR w X w' := by
  refine (pushW (A.grew k).h (by simp) (by have := A.hn; omega) tn th tz).mono ?_
  rintro en w' ⟨ov', rfl, h1, h2, h3, _⟩
  exact ⟨⟨rfl, (k.kb A.hB).trans h2, Two.sk (A.grew k).h h3, fun _ => ⟨fv, ov', h1⟩⟩, A.kept h3 (fun b hb => A.own hb)⟩
theorem StA.popTQ (A : StA gv L W0 w C lv fv ov g c lo fr ops fs x S es) (tn th : Int) (tz : Bool) {X : World} (k : Grew w X) :
    Calls Tryz.prog 70 #[.pointer (some ⟨C, 0, none⟩), .agg #[.int .i64 tn, .bool tz, .int .i64 th]] X fun en w' => (en = .returned (.tuple #[(popTP (matB L) x.height x.dead ops ⟨tn, tz, th⟩).2.1.v, .int .i64 (popTP (matB L) x.height x.dead ops ⟨tn, tz, th⟩).1]) ∧ KB W0.heap.size w w' ∧ SK X w' ∧ ∃ ov', CHG gv W0.heap.size w' C lv fv ov' (.slice (some ⟨g, 0, none⟩) (fs.length + 1) c) lo fr (popTP (matB L) x.height x.dead ops ⟨tn, tz, th⟩).2.2 (fs ++ [x])) ∧ FR w X w' := by
  refine (popTypeA A.hG (A.grew k).h (A.grew k).g0 A.hh ⟨tn, tz, th⟩).mono ?_
  rintro en w' ⟨ov', rfl, h1, h2, h3, _⟩
  exact ⟨⟨rfl, (k.kb A.hB).trans h2, Two.skN (A.grew k).h h3, ov', h1⟩, A.kept h3 (by simp [Value.ownBlock])⟩
theorem StA.swapQ (A : StA gv L W0 w C lv fv ov g c lo fr ops fs x S es) {u : Value} {b n c' : Nat} {li lu : List VT} {X : World} (k : Grew w X) (hi : LV X u li) (hu : LV X (.slice (some ⟨b, 0, none⟩) n c') lu) (hb : w.heap.size ≤ b ∧ b < X.heap.size) (hl : lu.length ≤ 1000) :
    Calls Tryz.prog 146 #[.pointer (some ⟨C, 0, none⟩), u, .slice (some ⟨b, 0, none⟩) n c'] X fun en w' => MP gv W0 w X C lv g c fs x (popsR (matB L) x.height x.dead li.reverse ops).1 lo fr ((popsR (matB L) x.height x.dead li.reverse ops).2 ++ lu) en w' ∧ FR w X w' := by
  refine (swapA A.hG (A.grew k).h (A.grew k).g0 A.hh hi hu (by have := A.hn; omega) (fun a n' c2 e => ?_)).mono ?_
  · injection e with e1 _ _
    injection e1 with e1
    subst e1
    exact ⟨A.own hb.1, hb.2⟩
  · rintro en w' ⟨ov', rfl, h1, h3, h2⟩
    exact ⟨⟨rfl, (k.kb A.hB).trans h1, Two.sk (A.grew k).h h3, fun he => ⟨fv, ov', (h2 he).1⟩⟩, A.kept h3 (fun b hb => A.own hb)⟩
theorem drop_any (A : StA gv L W0 w C lv fv ov g c lo fr ops fs x S es) :
    Calls Tryz.prog 71 #[.pointer (some ⟨S, 0, none⟩)] w (MP gv W0 w w C lv g c fs x (popP x.height x.dead ops).1 lo fr (popP x.height x.dead ops).2.2) := by
  have CP : Hid (∀ X, Grew w X → Calls Tryz.prog 127 #[.pointer (some ⟨C, 0, none⟩)] X fun en w' => en = .returned (.tuple #[(popP x.height x.dead ops).2.1.v, .int .i64 (popP x.height x.dead ops).1]) ∧ KB W0.heap.size w w' ∧ SK X w' ∧ ∃ ov', CHG gv W0.heap.size w' C lv fv ov' (.slice (some ⟨g, 0, none⟩) (fs.length + 1) c) lo fr (popP x.height x.dead ops).2.2 (fs ++ [x])) := fun X k => A.pop k
  have s0 := A.cell A.hc
  have HB := Hid.mk' A.hB
  clear A
  generalize popP x.height x.dead ops = RR at *
  obtain ⟨e, ⟨vn, vz, vh⟩, o'⟩ := RR
  simp only [VT.v] at CP
  go_enter Tryz.func71, Tryz.ntmps71
  go_wp2_with fail
  refine (CP.out _ (Grew.refl _)).mono ?_
  rintro en w1 ⟨rfl, kb, sk, hk⟩
  have HF := Hid.mk' (And.intro kb (And.intro sk hk))
  clear kb sk hk CP
  go_wp2_with fail
  go_ret
  obtain ⟨k1, k2, ov', k3⟩ := HF.out
  exact MP.alloc HB.out ⟨rfl, k1, k2, fun _ => ⟨fv, ov', k3⟩⟩ _
end
section
variable {gv : Value} {L : List RT} {W0 w : World} {C : Nat} {lv fv ov : Value} {g c : Nat} {lo : List LO} {fr : List Int} {ops : List VT} {fs : List FV} {x : FV} {S : Nat} {es : Array Value}
theorem StA.popsQ (A : StA gv L W0 w C lv fv ov g c lo fr ops fs x S es) {v : Value} {l : List VT} {X : World} (k : Grew w X) (hl : LV X v l) :
    Calls Tryz.prog 35 #[.pointer (some ⟨C, 0, none⟩), v] X fun en w' => MP gv W0 w X C lv g c fs x (popsR (matB L) x.height x.dead l.reverse ops).1 lo fr (popsR (matB L) x.height x.dead l.reverse ops).2 en w' ∧ FR w X w' := by
  refine (popsA A.hG (A.grew k).h (A.grew k).g0 A.hh hl).mono ?_
  rintro en w' ⟨ov', rfl, h1, h3, h2⟩
  exact ⟨⟨rfl, (k.kb A.hB).trans h1, Two.skN (A.grew k).h h3, fun he => ⟨fv, ov', (h2 he).1⟩⟩, A.kept h3 (by simp [Value.ownBlock])⟩
theorem tableInit_in (A : StA gv L W0 w C lv fv ov g c lo fr ops fs x S es) {n : Nat} (h32 : n < 4294967296) (hx : es[11]? = some (.int .u32 (n : Int))) {n2 : Nat} (h322 : n2 < 4294967296) (hy : es[12]? = some (.int .u32 (n2 : Int))) {mv2 : Value} {M2 : List TBt} (hm2 : es[2]? = some mv2) (hM2 : LTb w mv2 M2) {tv : Value} {TT : List RT} (ht : es[0]? = some tv) (hT : LR w tv TT) (hfit : Fit TT) (htab : Tab w) {mv : Value} {M : List VT} (hm : es[6]? = some mv) (hM : LV w mv M) {p : VT} (hp : M[n]? = some p) {p2 : TBt} (hp2 : M2[n2]? = some p2) (hval : valS TT p p2.el = true) :
    Calls Tryz.prog 90 #[.pointer (some ⟨S, 0, none⟩)] w (MP gv W0 w w C lv g c fs x (popsR (matB L) x.height x.dead [⟨if p2.lim.wide then 2 else 1, false, 0⟩, ⟨1, false, 0⟩, ⟨1, false, 0⟩].reverse ops).1 lo fr (popsR (matB L) x.height x.dead [⟨if p2.lim.wide then 2 else 1, false, 0⟩, ⟨1, false, 0⟩, ⟨1, false, 0⟩].reverse ops).2) := by
  have CAt : Hid (∀ X, Grew w X → Calls Tryz.prog 158 #[mv, .int .u32 (n : Int)] X fun en w' => en = .returned (.tuple #[.agg #[.int .i64 p.num, .bool p.null, .int .i64 p.heap], .int .i64 0]) ∧ Grew X w') := fun X k => atVT_in (hM.grew k) hp h32
  have CA2 : Hid (∀ X, Grew w X → Calls Tryz.prog 152 #[mv2, .int .u32 (n2 : Int)] X fun en w' => en = .returned (.tuple #[.agg #[.int .i64 p2.el.num, .bool p2.el.null, .int .i64 p2.el.heap, .bool p2.lim.wide, .int .u64 p2.lim.mn, .int .u64 p2.lim.mx, .bool p2.lim.hm], .int .i64 0]) ∧ Grew X w') := fun X k => atTB_in (hM2.grew k) hp2 h322
  have CY := Hid.mk' hy
  have CM2 := Hid.mk' hm2
  have CT0 := Hid.mk' ht
  have CV : Hid (∀ X, Grew w X → Calls Tryz.prog 135 #[tv, .agg #[.int .i64 p.num, .bool p.null, .int .i64 p.heap], .agg #[.int .i64 p2.el.num, .bool p2.el.null, .int .i64 p2.el.heap]] X fun en w' => en = .returned (.bool true) ∧ Grew X w') := fun X k => by
    have h := subVal_any (hT.grew k) hfit (htab.grew k) p p2.el
    rw [hval] at h
    exact h
  obtain ⟨AT, hAT⟩ : ∃ AT : Int, AT = if p2.lim.wide then 2 else 1 := ⟨_, rfl⟩
  rw [← hAT]
  have CA : Hid (∀ X, Calls Tryz.prog 27 #[.agg #[.bool p2.lim.wide, .int .u64 p2.lim.mn, .int .u64 p2.lim.mx, .bool p2.lim.hm]] X fun en w' => en = .returned (.agg #[.int .i64 AT, .bool false, .int .i64 0]) ∧ Grew X w') := fun X => by rw [hAT]; exact addr_any p2.lim.wide p2.lim.mn p2.lim.mx p2.lim.hm X
  have CI : Hid (∀ X, Calls Tryz.prog 137 #[] X fun en w' => en = .returned (.agg #[.int .i64 1, .bool false, .int .i64 0]) ∧ Grew X w') := i32_any
  have CLi : Hid (∀ v X, Calls Tryz.prog 144 #[v] X fun en w' => en = .returned v ∧ w' = X) := list_any
  have CP : Hid (∀ X v, Grew w X → LV X v [⟨AT, false, 0⟩, ⟨1, false, 0⟩, ⟨1, false, 0⟩] → Calls Tryz.prog 35 #[.pointer (some ⟨C, 0, none⟩), v] X (fun en w' => MP gv W0 w X C lv g c fs x (popsR (matB L) x.height x.dead [⟨AT, false, 0⟩, ⟨1, false, 0⟩, ⟨1, false, 0⟩].reverse ops).1 lo fr (popsR (matB L) x.height x.dead [⟨AT, false, 0⟩, ⟨1, false, 0⟩, ⟨1, false, 0⟩].reverse ops).2 en w' ∧ FR w X w')) := fun X v k hl => A.popsQ k hl
  generalize (popsR (matB L) x.height x.dead [⟨AT, false, 0⟩, ⟨1, false, 0⟩, ⟨1, false, 0⟩].reverse ops) = RR at *
  have HB0 := Hid.mk' A.hB
  clear hAT
  obtain ⟨ta, tc, htv, _⟩ := hT.one
  subst htv
  obtain ⟨ma2, mc2, hmv2, _⟩ := hM2.one
  subst hmv2
  clear hy h322 hp2 hm2 hM2 ht hT hfit htab hval
  have s0 := A.cell hm
  have s1 := A.cell hx
  have s2 := A.cell A.hc
  have hS := lt_of_obj A.N
  have hne1 : S ≠ w.heap.size := Nat.ne_of_lt hS
  have hne2 : w.heap.size ≠ S := Nat.ne_of_gt hS
  have HAA := Hid.mk' A
  have HC9 := Hid.mk' A.hc
  obtain ⟨ma, mc, hmv, _⟩ := hM.one
  subst hmv
  have CM3 := Hid.mk' hm
  clear A hx hm hM hp h32
  go_enter Tryz.func90, Tryz.ntmps90
  go_wp2_with fail
  go_region_held3 (fun w' => w'.cell? ⟨S, 6, none⟩ = some (.slice ma M.length mc) ∧ w'.cell? ⟨S, 11, none⟩ = some (.int .u32 (n : Int))) (go_keep) (first
    | (with_reducible refine (CAt.out _ ?gr).mono ?_
       case gr => exact (by repeat (first | with_reducible exact .refl _ | refine .alloc ?_ _ | refine .drewN ?_ _ | refine .drew ?_))
       rintro en v1 ⟨rfl, g1⟩
       have gg1 : Grew w v1 := Grew.trans (by repeat (first | with_reducible exact .refl _ | refine .alloc ?_ _ | refine .drewN ?_ _ | refine .drew ?_)) g1
       have GZ1 := Hid.mk' gg1
       have s10 := cell_grew s0 gg1
       have s11 := cell_grew s1 gg1
       first
       | (have gz : Grew (w.alloc (.cells #[.int .i64 0, .bool false, .int .i64 0] 39)) v1 := (by first | exact g1 | exact ((Grew.refl _).drew).trans g1 | exact ((Grew.refl _).drewN _).trans g1)
          have Bz := (gz.turn []).other (heap_alloc_last w (.cells #[.int .i64 0, .bool false, .int .i64 0] 39)) (by simp)
          have HBz := Hid.mk' Bz
          have hlz := lt_of_obj Bz
          have ya0 := cell_of Bz 0; have r0 := free_of Bz 0; have ya1 := cell_of Bz 1; have r1 := free_of Bz 1; have ya2 := cell_of Bz 2; have r2 := free_of Bz 2
          simp at ya0 ya1 ya2
          clear gz Bz)
       | skip
       clear g1 gg1))
  all_goals
    clear s10 s11 s0 s1 s2 CAt
    go_wp2_with fail
    first
    | (have hh0 := hlz
       have B2 : (((v1.setCell ⟨w.heap.size, 0, none⟩ (.int .i64 p.num)).setCell ⟨w.heap.size, 1, none⟩ (.bool p.null)).setCell ⟨w.heap.size, 2, none⟩ (.int .i64 p.heap)).heap[w.heap.size]? = some (.cells #[.int .i64 p.num, .bool p.null, .int .i64 p.heap] 39 (0, 0)) := (heap_set (heap_set (heap_set HBz.out 0 (.int .i64 p.num)) 1 (.bool p.null)) 2 (.int .i64 p.heap))
       have gg2 : Grew w (((v1.setCell ⟨w.heap.size, 0, none⟩ (.int .i64 p.num)).setCell ⟨w.heap.size, 1, none⟩ (.bool p.null)).setCell ⟨w.heap.size, 2, none⟩ (.int .i64 p.heap)) := (((GZ1.out.set (p := ⟨w.heap.size, 0, none⟩) (Nat.le_refl _) (.int .i64 p.num)).set (p := ⟨w.heap.size, 1, none⟩) (Nat.le_refl _) (.bool p.null)).set (p := ⟨w.heap.size, 2, none⟩) (Nat.le_refl _) (.int .i64 p.heap))
       have hq : w.heap.size ≤ w.heap.size := Nat.le_refl _
       have HBa := Hid.mk' B2
       have GD := Hid.mk' gg2
       have HQA := Hid.mk' hq
       clear hh0 hlz ya0 r0 ya1 r1 ya2 r2 HBz B2 gg2 hq hne1 hne2 hS
       generalize (((v1.setCell ⟨w.heap.size, 0, none⟩ (.int .i64 p.num)).setCell ⟨w.heap.size, 1, none⟩ (.bool p.null)).setCell ⟨w.heap.size, 2, none⟩ (.int .i64 p.heap)) = wd at *
       obtain ⟨qa, hqq⟩ : ∃ qa, qa = w.heap.size := ⟨_, rfl⟩
       rw [← hqq] at HBa
       replace HQA := Hid.mk' (show w.heap.size ≤ qa from Nat.le_of_eq hqq.symm)
       simp only [← hqq]
       clear hqq)
    | (have B2 : (v1.alloc (.cells #[.int .i64 p.num, .bool p.null, .int .i64 p.heap] 39)).heap[v1.heap.size]? = some (.cells #[.int .i64 p.num, .bool p.null, .int .i64 p.heap] 39 (0, 0)) := heap_alloc_last _ _
       have gg2 : Grew w (v1.alloc (.cells #[.int .i64 p.num, .bool p.null, .int .i64 p.heap] 39)) := GZ1.out.alloc _
       have HBa := Hid.mk' B2
       have GD := Hid.mk' gg2
       clear B2 gg2 hne1 hne2 hS
       generalize v1.alloc (.cells #[.int .i64 p.num, .bool p.null, .int .i64 p.heap] 39) = wd at *
       obtain ⟨qa, hqq⟩ : ∃ qa, qa = v1.heap.size := ⟨_, rfl⟩
       rw [← hqq] at HBa
       have HQA := Hid.mk' (show w.heap.size ≤ qa by rw [hqq]; exact GZ1.out.2)
       simp only [← hqq]
       clear hqq)
    have A2 := HAA.out.grew GD.out
    have s9 := A2.cell A2.hc
    have hSa := lt_of_obj A2.N
    have HNa := Hid.mk' A2.N
    have hqa := lt_of_obj HBa.out
    have ya0 := cell_of HBa.out 0; have ya1 := cell_of HBa.out 1; have ya2 := cell_of HBa.out 2
    simp at ya0 ya1 ya2
    clear A2 GZ1
    have Ad := HAA.out.grew GD.out
    have s0 := Ad.cell CM2.out
    have s1 := Ad.cell CY.out
    have s2 := Ad.cell Ad.hc
    have s3 := Ad.cell CT0.out
    have hS := lt_of_obj Ad.N
    have hne1 : S ≠ wd.heap.size := Nat.ne_of_lt hS
    have hne2 : wd.heap.size ≠ S := Nat.ne_of_gt hS
    have CAt := Hid.mk' (fun X k => CA2.out X (GD.out.trans k))
    have HA0 := HAA
    replace HAA := Hid.mk' Ad
    clear Ad CA2 hSa hqa s9
    go_wp2_with fail
    go_region_held3 (fun wd' => wd'.cell? ⟨S, 2, none⟩ = some (.slice ma2 M2.length mc2) ∧ wd'.cell? ⟨S, 12, none⟩ = some (.int .u32 (n2 : Int))) (go_keep) (first
      | (with_reducible refine (CAt.out _ ?gr).mono ?_
         case gr => exact (by repeat (first | with_reducible exact .refl _ | refine .alloc ?_ _ | refine .drewN ?_ _ | refine .drew ?_))
         rintro en w1 ⟨rfl, g1⟩
         have gg1 : Grew wd w1 := Grew.trans (by repeat (first | with_reducible exact .refl _ | refine .alloc ?_ _ | refine .drewN ?_ _ | refine .drew ?_)) g1
         have G1 := Hid.mk' gg1
         have s10 := cell_grew s0 gg1
         have s11 := cell_grew s1 gg1
         first
         | (have gz : Grew (wd.alloc (.cells #[.int .i64 0, .bool false, .int .i64 0, .bool false, .int .u64 0, .int .u64 0, .bool false] 179)) w1 := (by first | exact g1 | exact ((Grew.refl _).drew).trans g1 | exact ((Grew.refl _).drewN _).trans g1)
            have Bz := (gz.turn []).other (heap_alloc_last wd (.cells #[.int .i64 0, .bool false, .int .i64 0, .bool false, .int .u64 0, .int .u64 0, .bool false] 179)) (by simp)
            have HBz := Hid.mk' Bz
            have hlz := lt_of_obj Bz
            have y0 := cell_of Bz 0; have r0 := free_of Bz 0; have y1 := cell_of Bz 1; have r1 := free_of Bz 1; have y2 := cell_of Bz 2; have r2 := free_of Bz 2; have y3 := cell_of Bz 3; have r3 := free_of Bz 3; have y4 := cell_of Bz 4; have r4 := free_of Bz 4; have y5 := cell_of Bz 5; have r5 := free_of Bz 5; have y6 := cell_of Bz 6; have r6 := free_of Bz 6
            simp at y0 y1 y2 y3 y4 y5 y6
            clear gz Bz)
         | skip
         clear g1 gg1))
    all_goals
      clear s10 s11 s0 s1 s2 s3 CAt
      go_wp2_with fail
      first
      | (have hh0 := hlz
         have B2 : (((((((w1.setCell ⟨wd.heap.size, 0, none⟩ (.int .i64 p2.el.num)).setCell ⟨wd.heap.size, 1, none⟩ (.bool p2.el.null)).setCell ⟨wd.heap.size, 2, none⟩ (.int .i64 p2.el.heap)).setCell ⟨wd.heap.size, 3, none⟩ (.bool p2.lim.wide)).setCell ⟨wd.heap.size, 4, none⟩ (.int .u64 p2.lim.mn)).setCell ⟨wd.heap.size, 5, none⟩ (.int .u64 p2.lim.mx)).setCell ⟨wd.heap.size, 6, none⟩ (.bool p2.lim.hm)).heap[wd.heap.size]? = some (.cells #[.int .i64 p2.el.num, .bool p2.el.null, .int .i64 p2.el.heap, .bool p2.lim.wide, .int .u64 p2.lim.mn, .int .u64 p2.lim.mx, .bool p2.lim.hm] 179 (0, 0)) := (heap_set (heap_set (heap_set (heap_set (heap_set (heap_set (heap_set HBz.out 0 (.int .i64 p2.el.num)) 1 (.bool p2.el.null)) 2 (.int .i64 p2.el.heap)) 3 (.bool p2.lim.wide)) 4 (.int .u64 p2.lim.mn)) 5 (.int .u64 p2.lim.mx)) 6 (.bool p2.lim.hm))
         have gg2 : Grew wd (((((((w1.setCell ⟨wd.heap.size, 0, none⟩ (.int .i64 p2.el.num)).setCell ⟨wd.heap.size, 1, none⟩ (.bool p2.el.null)).setCell ⟨wd.heap.size, 2, none⟩ (.int .i64 p2.el.heap)).setCell ⟨wd.heap.size, 3, none⟩ (.bool p2.lim.wide)).setCell ⟨wd.heap.size, 4, none⟩ (.int .u64 p2.lim.mn)).setCell ⟨wd.heap.size, 5, none⟩ (.int .u64 p2.lim.mx)).setCell ⟨wd.heap.size, 6, none⟩ (.bool p2.lim.hm)) := (((((((G1.out.set (p := ⟨wd.heap.size, 0, none⟩) (Nat.le_refl _) (.int .i64 p2.el.num)).set (p := ⟨wd.heap.size, 1, none⟩) (Nat.le_refl _) (.bool p2.el.null)).set (p := ⟨wd.heap.size, 2, none⟩) (Nat.le_refl _) (.int .i64 p2.el.heap)).set (p := ⟨wd.heap.size, 3, none⟩) (Nat.le_refl _) (.bool p2.lim.wide)).set (p := ⟨wd.heap.size, 4, none⟩) (Nat.le_refl _) (.int .u64 p2.lim.mn)).set (p := ⟨wd.heap.size, 5, none⟩) (Nat.le_refl _) (.int .u64 p2.lim.mx)).set (p := ⟨wd.heap.size, 6, none⟩) (Nat.le_refl _) (.bool p2.lim.hm))
         have hq : wd.heap.size ≤ wd.heap.size := Nat.le_refl _
         have HB2 := Hid.mk' B2
         have HG2 := Hid.mk' gg2
         have HQ2 := Hid.mk' hq
         clear hh0 hlz y0 r0 y1 r1 y2 r2 y3 r3 y4 r4 y5 r5 y6 r6 HBz B2 gg2 hq hne1 hne2 hS
         generalize (((((((w1.setCell ⟨wd.heap.size, 0, none⟩ (.int .i64 p2.el.num)).setCell ⟨wd.heap.size, 1, none⟩ (.bool p2.el.null)).setCell ⟨wd.heap.size, 2, none⟩ (.int .i64 p2.el.heap)).setCell ⟨wd.heap.size, 3, none⟩ (.bool p2.lim.wide)).setCell ⟨wd.heap.size, 4, none⟩ (.int .u64 p2.lim.mn)).setCell ⟨wd.heap.size, 5, none⟩ (.int .u64 p2.lim.mx)).setCell ⟨wd.heap.size, 6, none⟩ (.bool p2.lim.hm)) = w2 at *
         obtain ⟨q, hqq⟩ : ∃ q, q = wd.heap.size := ⟨_, rfl⟩
         rw [← hqq] at HB2
         simp only [← hqq]
         clear hqq HQ2)
      | (have B2 : (w1.alloc (.cells #[.int .i64 p2.el.num, .bool p2.el.null, .int .i64 p2.el.heap, .bool p2.lim.wide, .int .u64 p2.lim.mn, .int .u64 p2.lim.mx, .bool p2.lim.hm] 179)).heap[w1.heap.size]? = some (.cells #[.int .i64 p2.el.num, .bool p2.el.null, .int .i64 p2.el.heap, .bool p2.lim.wide, .int .u64 p2.lim.mn, .int .u64 p2.lim.mx, .bool p2.lim.hm] 179 (0, 0)) := heap_alloc_last _ _
         have gg2 : Grew wd (w1.alloc (.cells #[.int .i64 p2.el.num, .bool p2.el.null, .int .i64 p2.el.heap, .bool p2.lim.wide, .int .u64 p2.lim.mn, .int .u64 p2.lim.mx, .bool p2.lim.hm] 179)) := G1.out.alloc _
         have HB2 := Hid.mk' B2
         have HG2 := Hid.mk' gg2
         clear B2 gg2 hne1 hne2 hS
         generalize w1.alloc (.cells #[.int .i64 p2.el.num, .bool p2.el.null, .int .i64 p2.el.heap, .bool p2.lim.wide, .int .u64 p2.lim.mn, .int .u64 p2.lim.mx, .bool p2.lim.hm] 179) = w2 at *
         obtain ⟨q, hqq⟩ : ∃ q, q = w1.heap.size := ⟨_, rfl⟩
         rw [← hqq] at HB2
         simp only [← hqq]
         clear hqq)
      have A2 := HAA.out.grew HG2.out
      have s9 := A2.cell A2.hc
      have hS2 := lt_of_obj A2.N
      have HN2 := Hid.mk' A2.N
      have hq2 := lt_of_obj HB2.out
      have y0 := cell_of HB2.out 0; have y1 := cell_of HB2.out 1; have y2 := cell_of HB2.out 2; have y3 := cell_of HB2.out 3; have y4 := cell_of HB2.out 4; have y5 := cell_of HB2.out 5; have y6 := cell_of HB2.out 6
      simp at y0 y1 y2 y3 y4 y5 y6
      clear A2 G1
      have Ba := (HG2.out.turn []).other HBa.out (by simp)
      have hqa2 := lt_of_obj Ba
      have HBb := Hid.mk' Ba
      clear ya0 ya1 ya2
      have ya0 := cell_of Ba 0; have ya1 := cell_of Ba 1; have ya2 := cell_of Ba 2
      simp at ya0 ya1 ya2
      clear Ba
      have HGV := Hid.mk' (GD.out.trans HG2.out)
      have s3 := (HAA.out.grew HG2.out).cell CT0.out
      go_wp2_with fail
      go_region_held3 (fun w' => w'.cell? ⟨S, 0, none⟩ = some (.slice ta TT.length tc) ∧ w'.cell? ⟨qa, 0, none⟩ = some (.int .i64 p.num) ∧ w'.cell? ⟨qa, 1, none⟩ = some (.bool p.null) ∧ w'.cell? ⟨qa, 2, none⟩ = some (.int .i64 p.heap) ∧ w'.cell? ⟨q, 0, none⟩ = some (.int .i64 p2.el.num) ∧ w'.cell? ⟨q, 1, none⟩ = some (.bool p2.el.null) ∧ w'.cell? ⟨q, 2, none⟩ = some (.int .i64 p2.el.heap)) (go_keep) (first
      | (with_reducible refine (CV.out _ ?gr).mono ?_
         case gr => exact (by repeat (first | with_reducible exact HGV.out | with_reducible exact .refl _ | refine .alloc ?_ _ | refine .drewN ?_ _ | refine .drew ?_))
         rintro en w3 ⟨rfl, g3⟩
         have gg3 : Grew w2 w3 := Grew.trans (by repeat (first | with_reducible exact .refl _ | refine .alloc ?_ _ | refine .drewN ?_ _ | refine .drew ?_)) g3
         have HG3 := Hid.mk' gg3
         have t3 := cell_grew s3 gg3
         have tq0 := cell_grew y0 gg3; have uq0 := cell_grew ya0 gg3; have tq1 := cell_grew y1 gg3; have uq1 := cell_grew ya1 gg3; have tq2 := cell_grew y2 gg3; have uq2 := cell_grew ya2 gg3
         clear g3 gg3)
      | fail)
      all_goals
        have HGW := Hid.mk' (HGV.out.trans HG3.out)
        have A3 := HAA.out.grew (HG2.out.trans HG3.out)
        clear s9 s3 t3 y0 y1 y2 y3 y4 y5 y6 ya0 ya1 ya2 tq0 uq0 tq1 uq1 tq2 uq2 hS2 hq2 hqa2
        have s9 := A3.cell A3.hc
        have hS2 := lt_of_obj A3.N
        replace HN2 := Hid.mk' A3.N
        have B3 := (HG3.out.turn []).other HB2.out (by simp)
        have D3 := (HG3.out.turn []).other HBb.out (by simp)
        have hq2 := lt_of_obj B3
        have hqa2 := lt_of_obj D3
        replace HB2 := Hid.mk' B3
        replace HBb := Hid.mk' D3
        have y0 := cell_of B3 0; have y1 := cell_of B3 1; have y2 := cell_of B3 2; have y3 := cell_of B3 3; have y4 := cell_of B3 4; have y5 := cell_of B3 5; have y6 := cell_of B3 6
        have ya0 := cell_of D3 0; have ya1 := cell_of D3 1; have ya2 := cell_of D3 2
        simp at y0 y1 y2 y3 y4 y5 y6 ya0 ya1 ya2
        clear A3 B3 D3 CV HGV
        go_wp2_with fail
        go_region_held3 (fun w' => w'.cell? ⟨S, 9, none⟩ = some (.pointer (some ⟨C, 0, none⟩)) ∧ w'.cell? ⟨qa, 0, none⟩ = some (.int .i64 p.num) ∧ w'.cell? ⟨qa, 1, none⟩ = some (.bool p.null) ∧ w'.cell? ⟨qa, 2, none⟩ = some (.int .i64 p.heap) ∧ w'.cell? ⟨q, 0, none⟩ = some (.int .i64 p2.el.num) ∧ w'.cell? ⟨q, 1, none⟩ = some (.bool p2.el.null) ∧ w'.cell? ⟨q, 2, none⟩ = some (.int .i64 p2.el.heap) ∧ w'.cell? ⟨q, 3, none⟩ = some (.bool p2.lim.wide) ∧ w'.cell? ⟨q, 4, none⟩ = some (.int .u64 p2.lim.mn) ∧ w'.cell? ⟨q, 5, none⟩ = some (.int .u64 p2.lim.mx) ∧ w'.cell? ⟨q, 6, none⟩ = some (.bool p2.lim.hm)) (go_keep) (first
        | (with_reducible refine (CA.out _).mono ?_
           rintro en wa ⟨rfl, ga⟩
           have gg : Grew w3 wa := Grew.trans (by repeat (first | with_reducible exact GG1.out | with_reducible exact .refl _ | refine .alloc ?_ _ | refine .drewN ?_ _ | refine .drew ?_)) ga
           have GA1 := Hid.mk' (HGW.out.trans gg)
           have GG1 := Hid.mk' gg
           have t9 := cell_grew s9 gg
           have t0 := cell_grew y0 gg; have t1 := cell_grew y1 gg; have t2 := cell_grew y2 gg; have t3 := cell_grew y3 gg; have t4 := cell_grew y4 gg; have t5 := cell_grew y5 gg; have t6 := cell_grew y6 gg; have u0 := cell_grew ya0 gg; have u1 := cell_grew ya1 gg; have u2 := cell_grew ya2 gg
           clear ga gg)
        | (with_reducible refine (CI.out _).mono ?_
           rintro en wa ⟨rfl, ga⟩
           have gg : Grew w3 wa := Grew.trans (by repeat (first | with_reducible exact GG1.out | with_reducible exact .refl _ | refine .alloc ?_ _ | refine .drewN ?_ _ | refine .drew ?_)) ga
           have GA1 := Hid.mk' (HGW.out.trans gg)
           have GG1 := Hid.mk' gg
           have t9 := cell_grew s9 gg
           have t0 := cell_grew y0 gg; have t1 := cell_grew y1 gg; have t2 := cell_grew y2 gg; have t3 := cell_grew y3 gg; have t4 := cell_grew y4 gg; have t5 := cell_grew y5 gg; have t6 := cell_grew y6 gg; have u0 := cell_grew ya0 gg; have u1 := cell_grew ya1 gg; have u2 := cell_grew ya2 gg
           clear ga gg)
        | (with_reducible refine (CLi.out _ _).mono ?_
           rintro en wl ⟨rfl, hwl⟩
           obtain rfl := hwl.symm
           clear hwl)
        | (with_reducible refine (CP.out _ _ ?gr (lv_3 (by go_simp) (by go_simp) (by go_simp) (by go_simp) (by go_simp) (by go_simp) (by go_simp) (by go_simp) (by go_simp))).mono ?_
           case gr => exact (by repeat (first | with_reducible exact GA1.out | with_reducible exact HGW.out | with_reducible exact .refl _ | refine .alloc ?_ _ | refine .drewN ?_ _ | refine .drew ?_))
           rintro en w5 ⟨⟨rfl, kb, sk, hk⟩, qq⟩
           have sk2 : SK w w5 := SK.trans (Grew.sk (Grew.trans HGW.out (by repeat (first | with_reducible exact GG1.out | with_reducible exact .refl _ | refine .alloc ?_ _ | refine .drewN ?_ _ | refine .drew ?_)))) sk
           have N5 : w5.heap[S]? = some (.cells es 96 (0, 0)) := sk _ _ _ _ (by decide) (by decide) (Turn.other (Grew.turn (by repeat (first | with_reducible exact GG1.out | with_reducible exact .refl _ | refine .alloc ?_ _ | refine .drewN ?_ _ | refine .drew ?_)) []) HN2.out (by simp))
           have B5 : w5.heap[q]? = some (.cells #[.int .i64 p2.el.num, .bool p2.el.null, .int .i64 p2.el.heap, .bool p2.lim.wide, .int .u64 p2.lim.mn, .int .u64 p2.lim.mx, .bool p2.lim.hm] 179 (0, 0)) := sk _ _ _ _ (by decide) (by decide) (Turn.other (Grew.turn (by repeat (first | with_reducible exact GG1.out | with_reducible exact .refl _ | refine .alloc ?_ _ | refine .drewN ?_ _ | refine .drew ?_)) []) HB2.out (by simp))
           have D5 : w5.heap[qa]? = some (.cells #[.int .i64 p.num, .bool p.null, .int .i64 p.heap] 39 (0, 0)) := qq _ _ HQA.out (Turn.other (Grew.turn (by repeat (first | with_reducible exact GG1.out | with_reducible exact .refl _ | refine .alloc ?_ _ | refine .drewN ?_ _ | refine .drew ?_)) []) HBb.out (by simp))
           have t9 := (cell_of N5 9).trans HC9.out
           have t0 := cell_of B5 0; have t1 := cell_of B5 1; have t2 := cell_of B5 2; have t3 := cell_of B5 3; have t4 := cell_of B5 4; have t5 := cell_of B5 5; have t6 := cell_of B5 6; have u0 := cell_of D5 0; have u1 := cell_of D5 1; have u2 := cell_of D5 2
           simp at t0 t1 t2 t3 t4 t5 t6 u0 u1 u2
           have HF := Hid.mk' (And.intro kb (And.intro sk2 hk))
           clear kb hk sk sk2 N5 B5 D5 qq)
        | fail)
        all_goals
          go_wp2_with fail
          go_ret
          exact ⟨rfl, HF.out.1, HF.out.2.1, fun he => HF.out.2.2 (by first | exact he | trivial)⟩
end
end Go.Proofs.YtikaidokllnifaaGreatDoor
