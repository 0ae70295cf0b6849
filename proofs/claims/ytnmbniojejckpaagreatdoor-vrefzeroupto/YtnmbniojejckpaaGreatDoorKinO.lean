/-
  Sub's kinds and families, and the world of an order; no statement is proved here.
-/
import Derived.Test.YtnmbniojejckpaaGreatDoorRgL
import Derived.Test.YtnmbniojejckpaaGreatDoorKin
set_option maxRecDepth 100000
set_option maxHeartbeats 8000000
namespace Go.Proofs.YtnmbniojejckpaaGreatDoor
open Go.RowKit
set_option linter.unusedVariables false
set_option linter.unusedSimpArgs false
theorem kinOf_no {h : Int} (w : World) (hh : h < -12 ∨ -1 < h) : Calls Tryz.prog 142 #[.int .i64 h] w fun en w' => en = .returned (.tuple #[.agg #[.int .i64 0, .int .i64 0, .int .i64 0], .bool false]) ∧ Grew w w' := by
  obtain ⟨W, hW, hS, hA, hB, hG, hz⟩ := kin_world w
  have k1 := KT_size
  have a0 := cell_of hA 0
  have a1 := cell_of hA 1
  have a2 := cell_of hA 2
  have z0 := free_of hA 0
  have z1 := free_of hA 1
  have z2 := free_of hA 2
  simp at a0 a1 a2
  have hd : W.heap.size = w.heap.size + 2 := hz
  have K : Hid (Grew w W ∧ W.heap[w.heap.size]? = some (.cells #[.int .i64 0, .int .i64 0, .int .i64 0] 185 (0, 0))) := ⟨hG, hA⟩
  clear hW hA hB hG hz
  by_cases h1 : h < -12
  · have d1 : decide (h < -12) = true := by simpa using h1
    clear hh h1
    go_enter Tryz.func142, Tryz.ntmps142
    go_wp2_with (refine wpList_build_is rfl 205 _ rfl KT (by kernel_rfl) ?_)
    obtain ⟨g, hc⟩ := kin_set (a := 0) (b := 0) (c := 0) K.out.1 K.out.2
    have e0 := hc 0
    have e1 := hc 1
    have e2 := hc 2
    simp at e0 e1 e2
    have G : Hid (Grew w (((W.setCell ⟨w.heap.size, 0, none⟩ (.int .i64 0)).setCell ⟨w.heap.size, 1, none⟩ (.int .i64 0)).setCell ⟨w.heap.size, 2, none⟩ (.int .i64 0))) := g
    clear K hc g a0 a1 a2 z0 z1 z2 hS
    generalize (((W.setCell ⟨w.heap.size, 0, none⟩ (.int .i64 0)).setCell ⟨w.heap.size, 1, none⟩ (.int .i64 0)).setCell ⟨w.heap.size, 2, none⟩ (.int .i64 0)) = V at *
    refine bodyPost_ret (v := .tuple #[.agg #[.int .i64 0, .int .i64 0, .int .i64 0], .bool false]) (by simp [results, Tryz.results142, go_sem, e0, e1, e2]) rfl ⟨rfl, G.out⟩
  · have d1 : decide (h < -12) = false := by simpa using h1
    have d2 : decide (-1 < h) = true := by simp; omega
    have d3 : decide (h ≤ -1) = false := by simp; omega
    clear hh h1
    go_enter Tryz.func142, Tryz.ntmps142
    go_wp2_with (refine wpList_build_is rfl 205 _ rfl KT (by kernel_rfl) ?_)
    obtain ⟨g, hc⟩ := kin_set (a := 0) (b := 0) (c := 0) K.out.1 K.out.2
    have e0 := hc 0
    have e1 := hc 1
    have e2 := hc 2
    simp at e0 e1 e2
    have G : Hid (Grew w (((W.setCell ⟨w.heap.size, 0, none⟩ (.int .i64 0)).setCell ⟨w.heap.size, 1, none⟩ (.int .i64 0)).setCell ⟨w.heap.size, 2, none⟩ (.int .i64 0))) := g
    clear K hc g a0 a1 a2 z0 z1 z2 hS
    generalize (((W.setCell ⟨w.heap.size, 0, none⟩ (.int .i64 0)).setCell ⟨w.heap.size, 1, none⟩ (.int .i64 0)).setCell ⟨w.heap.size, 2, none⟩ (.int .i64 0)) = V at *
    refine bodyPost_ret (v := .tuple #[.agg #[.int .i64 0, .int .i64 0, .int .i64 0], .bool false]) (by simp [results, Tryz.results142, go_sem, e0, e1, e2]) rfl ⟨rfl, G.out⟩
theorem kinOf_any (h : Int) (w : World) : Calls Tryz.prog 142 #[.int .i64 h] w fun en w' => en = .returned (kinV (kinP h)) ∧ Grew w w' := by
  by_cases hh : h < -12 ∨ -1 < h
  · rw [kinP_no hh]
    exact kinOf_no w hh
  · have : h = -1 ∨ h = -2 ∨ h = -3 ∨ h = -4 ∨ h = -5 ∨ h = -6 ∨ h = -7 ∨ h = -8 ∨ h = -9 ∨ h = -10 ∨ h = -11 ∨ h = -12 := by omega
    rcases this with rfl | rfl | rfl | rfl | rfl | rfl | rfl | rfl | rfl | rfl | rfl | rfl
    · exact kinOf_1 w
    · exact kinOf_2 w
    · exact kinOf_3 w
    · exact kinOf_4 w
    · exact kinOf_5 w
    · exact kinOf_6 w
    · exact kinOf_7 w
    · exact kinOf_8 w
    · exact kinOf_9 w
    · exact kinOf_10 w
    · exact kinOf_11 w
    · exact kinOf_12 w
def kindH (k : Int) : Int := if k = 1 then -1 else if k = 2 then -8 else if k = 3 then -9 else 0
theorem kindOf_any (k : Int) (p r f : Value) (w : World) (hp : p.oneCell' = true) (hr : r.oneCell' = true) (hf : f.oneCell' = true) : Calls Tryz.prog 141 #[.agg #[.int .i64 k, p, r, f]] w fun en w' => en = .returned (.int .i64 (kindH k)) ∧ Grew w w' := by
  by_cases h1 : k = 1
  · subst h1
    go_enter Tryz.func141, Tryz.ntmps141
    go_wp2_with fail
    go_ret
    exact ⟨rfl, (Grew.refl w).alloc _⟩
  · have d1 : (k == 1) = false := by simpa using h1
    by_cases h2 : k = 2
    · subst h2
      go_enter Tryz.func141, Tryz.ntmps141
      go_wp2_with fail
      go_ret
      exact ⟨rfl, (Grew.refl w).alloc _⟩
    · have d2 : (k == 2) = false := by simpa using h2
      by_cases h3 : k = 3
      · subst h3
        go_enter Tryz.func141, Tryz.ntmps141
        go_wp2_with fail
        go_ret
        exact ⟨rfl, (Grew.refl w).alloc _⟩
      · have d3 : (k == 3) = false := by simpa using h3
        have e : kindH k = 0 := by unfold kindH; rw [if_neg h1, if_neg h2, if_neg h3]
        rw [e]
        clear h1 h2 h3 e
        go_enter Tryz.func141, Tryz.ntmps141
        go_wp2_with fail
        go_ret
        exact ⟨rfl, (Grew.refl w).alloc _⟩
/- The world of an order: its object lies at ob, above w, and all that lay in w is as it was. -/
structure OW (ob : Nat) (L : List RT) (w W : World) : Prop where
  fit : Fit L
  cl : closedP 0 L = true
  tab : Tab w
  g : Grew w W
  lo : w.heap.size ≤ ob
  o : ∃ v tv iv, W.heap[ob]? = some (oobj v tv iv) ∧ LR w v L ∧ PtS w.heap.size w W tv (flatT L) ∧ (iv = NILS ∨ RowI w.heap.size W iv (idsU L))
/- What an iterator reads. -/
def CK (w W : World) : Prop := ∀ (b j : Nat) (v : Value), w.cell? ⟨b, j, none⟩ = some v → W.cell? ⟨b, j, none⟩ = some v
def RD (ob : Nat) (L : List RT) (w W : World) : Prop := w.heap.size ≤ ob ∧ CK w W ∧ ∃ v tv iv, W.heap[ob]? = some (oobj v tv iv) ∧ PtS 0 w W tv (flatT L)
theorem rowKept {w w' : World} {B : Nat} {e : TypeId} {k : Nat} {v : Value} {n : Nat} {cs : List Value} (h : w.ownsRow B e k v n cs) (hk : ∀ (x : Nat) (o : Obj), w.heap[x]? = some o → o.isCells = true → v.ownBlock = some x → w'.heap[x]? = some o) : w'.ownsRow B e k v n cs := by
  refine row_same h (fun g hg => ?_)
  obtain ⟨cur, hc⟩ := row_tag h hg
  rw [hc]
  exact hk g _ hc rfl hg
theorem OW.rd {ob : Nat} {L : List RT} {w W : World} (h : OW ob L w W) : RD ob L w W := by
  obtain ⟨v, tv, iv, h1, h2, ⟨ps, p1, p2, p3⟩, h4⟩ := h.o
  exact ⟨h.lo, fun b j v hc => cell_grew hc h.g, v, tv, iv, h1, ps, p1, row_low p2 (Nat.zero_le _), p3⟩
theorem cell_kc {A B : World} {ob b j : Nat} {v : Value} (k : KC ob A B) (hb : b ≠ ob) (h : A.cell? ⟨b, j, none⟩ = some v) : B.cell? ⟨b, j, none⟩ = some v := by
  obtain ⟨o, ho, hc⟩ := cells_of_cell h
  have h2 := k.1 b o hb ho hc
  unfold World.cell? at h ⊢
  rw [ho] at h
  rw [h2]
  exact h
theorem RD.kc {ob : Nat} {L : List RT} {w A B : World} (h : RD ob L w A) (k : KC ob A B) : RD ob L w B := by
  obtain ⟨lo, ck, v, tv, iv, h1, ps, p1, p2, p3⟩ := h
  obtain ⟨iv', h2⟩ := k.2 v tv iv h1
  refine ⟨lo, fun b j u hc => ?_, v, tv, iv', h2, ps, p1, rowKept p2 (fun x o hx hc hg => k.1 x o (fun e => ?_) hx hc), p3⟩
  · exact cell_kc k (fun e => by have := lt_of_cell hc; omega) (ck b j u hc)
  · subst e
    obtain ⟨cur, hcur⟩ := row_tag p2 hg
    rw [h1] at hcur
    unfold oobj at hcur
    injection hcur with hcur
    injection hcur with _ hcur _
    revert hcur; decide
/- Type n, where it lies. -/
theorem RD.get {ob : Nat} {L : List RT} {w W : World} (h : RD ob L w W) {n : Nat} {x : SB} (hx : (flatT L)[n]? = some x) :
    ∃ v g cap iv pb po, W.heap[ob]? = some (oobj v (.slice (some ⟨g, 0, none⟩) (flatT L).length cap) iv) ∧ (flatT L).length ≤ cap ∧ W.cell? ⟨g, n, none⟩ = some (.pointer (some ⟨pb, po, none⟩)) ∧ ES w pb po x ∧ CK w W ∧ g ≠ ob := by
  obtain ⟨lo, ck, v, tv, iv, h1, ps, p1, p2, p3⟩ := h
  have hn := (List.getElem?_eq_some_iff.1 hx).1
  obtain ⟨p, hp⟩ : ∃ p, ps[n]? = some p := ⟨_, List.getElem?_eq_getElem (by omega)⟩
  have p2' := p2
  obtain ⟨_, ⟨_, h3⟩ | ⟨g, cap, cur, rfl, hB, hg, h3, _⟩⟩ := p2'
  · omega
  · refine ⟨v, g, cap, iv, p.1, p.2, h1, h3, ?_, p3 n p x hp hx, ck, ?_⟩
    · have := p2.cellAt n (by omega)
      rw [this]
      have h5 := flat_at pc 1 (fun _ => rfl) ps n p 0 hp (by decide)
      rw [Nat.mul_one, Nat.add_zero] at h5
      rw [h5]
      rfl
    · rintro rfl
      rw [h1] at hg
      unfold oobj at hg
      injection hg with hg
      injection hg with _ hg _
      revert hg; decide
theorem OW.gn {ob N : Nat} {L : List RT} {w A B : World} (h : OW ob L w A) (k : GN N A B) (hN : w.heap.size ≤ N) : OW ob L w B := by
  obtain ⟨v, tv, iv, h1, h2, ⟨ps, p1, p2, p3⟩, h4⟩ := h.o
  refine ⟨h.fit, h.cl, h.tab, ?_, h.lo, v, tv, iv, k.block _ _ h1 (Or.inr rfl), h2, ⟨ps, p1, rowKept p2 (fun x o hx hc _ => k.block x o hx (Or.inr hc)), p3⟩, h4.imp id (fun h4 => rowKept h4 (fun x o hx hc _ => k.block x o hx (Or.inr hc)))⟩
  refine ⟨⟨k.os.trans h.g.1.os, k.tape.trans h.g.1.tape, k.output.trans h.g.1.output, Nat.le_trans h.g.2 k.size, fun x hx => ?_⟩, Nat.le_trans h.g.2 k.size⟩
  have hxA : x < A.heap.size := Nat.lt_of_lt_of_le hx h.g.2
  rw [k.block x _ (Array.getElem?_eq_getElem hxA) (Or.inl (by omega)), ← Array.getElem?_eq_getElem hxA]
  exact h.g.1.block x hx
theorem OW.grew {ob : Nat} {L : List RT} {w A B : World} (h : OW ob L w A) (k : Grew A B) : OW ob L w B := h.gn (k.gn w.heap.size) (Nat.le_refl _)
theorem TurnP.gn {S : Nat → Prop} {w A B : World} (h : TurnP S w A) {N : Nat} (k : GN N A B) (hN : w.heap.size ≤ N) : TurnP S w B :=
  ⟨k.os.trans h.os, k.tape.trans h.tape, k.output.trans h.output, Nat.le_trans h.size k.size, fun x hx hn => by
    have hxA : x < A.heap.size := Nat.lt_of_lt_of_le hx h.size
    rw [k.block x _ (Array.getElem?_eq_getElem hxA) (Or.inl (by omega)), ← Array.getElem?_eq_getElem hxA]
    exact h.block x hx hn⟩
def kinO (L : List RT) (h : Int) : Option (Int × Int × Int) := if 0 ≤ h then (match (flatT L)[h.toNat]? with | some x => kinP (kindH x.comp.kind) | none => none) else kinP h
end Go.Proofs.YtnmbniojejckpaaGreatDoor
