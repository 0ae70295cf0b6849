/-
  A composite type of a kind by its number (scope.Comp); no statement is proved here.
-/
import Derived.Test.YtahmjgmaaaegcaaGreatDoorVcA
namespace Go.Proofs.YtahmjgmaaaegcaaGreatDoor
open Go.RowKit
set_option linter.unusedVariables false
set_option linter.unusedSimpArgs false

def ZC : Value := .agg #[.int .i64 0, .slice none 0 0, .slice none 0 0, .slice none 0 0]
def ScP (w' : World) (L : List RT) (n kd : Int) (en : Ending) : Prop :=
  (∃ (m : Nat) (x : SB) (pv rv fv : Value), n = m ∧ (flatT L)[m]? = some x ∧ x.comp.kind = kd ∧ LV w' pv x.comp.params ∧ LV w' rv x.comp.results ∧ LF w' fv x.comp.fields ∧ en = .returned (.tuple #[.agg #[.int .i64 kd, pv, rv, fv], .int .i64 0]))
  ∨ (∃ (m : Nat) (x : SB), n = m ∧ (flatT L)[m]? = some x ∧ x.comp.kind ≠ kd ∧ en = .returned (.tuple #[ZC, .int .i64 151]))
  ∨ (¬ (0 ≤ n ∧ n < ((flatT L).length : Int)) ∧ en = .returned (.tuple #[ZC, .int .i64 150]))
/- No cell of the block holds a bool. -/
def NoB (w : World) (b : Nat) : Prop := ∀ j z, w.cell? ⟨b, j, none⟩ ≠ some (.bool z)
theorem cell_setO {w : World} {b c j k : Nat} {u : Value} (h : b ≠ c) : (w.setCell ⟨c, k, none⟩ u).cell? ⟨b, j, none⟩ = w.cell? ⟨b, j, none⟩ := by
  refine World.cell?_setCell_other _ _ _ _ (fun e => ?_)
  simp only [Addr.mk.injEq] at e
  exact h e.1.symm
theorem NoB.set {w : World} {b : Nat} (h : NoB w b) {cs : Array Value} {t : TypeId} {f : Nat × Nat} (hb : w.heap[b]? = some (.cells cs t f)) (k : Nat) {u : Value} (hu : ∀ z, u ≠ .bool z) : NoB (w.setCell ⟨b, k, none⟩ u) b := by
  intro j z e
  rw [cell_of (heap_set hb k u)] at e
  rw [Array.getElem?_setIfInBounds] at e
  split at e
  · split at e
    · exact hu z (Option.some.inj e)
    · cases e
  · rw [← cell_of hb j] at e
    exact h j z e
theorem EV.off {w : World} {b o c k : Nat} {x : VT} {u : Value} (h : EV w b o x) (hb : NoB w c) : EV (w.setCell ⟨c, k, none⟩ u) b o x := by
  have hne : b ≠ c := by
    rintro rfl
    exact hb _ _ h.2.1
  exact ⟨(cell_setO hne).trans h.1, (cell_setO hne).trans h.2.1, (cell_setO hne).trans h.2.2⟩
theorem EF.off {w : World} {b o c k : Nat} {x : FT} {u : Value} (h : EF w b o x) (hb : NoB w c) : EF (w.setCell ⟨c, k, none⟩ u) b o x := by
  have hne : b ≠ c := by
    rintro rfl
    exact hb _ _ h.2
  exact ⟨h.1.off hb, (cell_setO hne).trans h.2⟩
theorem Lst.off {α : Type} {m : Nat} {E : World → Nat → Nat → α → Prop} {w : World} {c k : Nat} {u v : Value} {l : List α} (hE : ∀ b o x, E w b o x → E (w.setCell ⟨c, k, none⟩ u) b o x) (h : Lst m E w v l) : Lst m E (w.setCell ⟨c, k, none⟩ u) v l := by
  obtain ⟨a, cap, hv, h1, h2, h3, h4⟩ := h
  exact ⟨a, cap, hv, h1, h2, h3, h4.imp_right (fun ⟨b, off, ha, hc⟩ => ⟨b, off, ha, fun i x hx => hE _ _ _ (hc i x hx)⟩)⟩
theorem LV.off {w : World} {c k : Nat} {u v : Value} {l : List VT} (h : LV w v l) (hb : NoB w c) : LV (w.setCell ⟨c, k, none⟩ u) v l := Lst.off (E := EV) (fun _ _ _ h => EV.off h hb) h
theorem LF.off {w : World} {c k : Nat} {u v : Value} {l : List FT} (h : LF w v l) (hb : NoB w c) : LF (w.setCell ⟨c, k, none⟩ u) v l := Lst.off (E := EF) (fun _ _ _ h => EF.off h hb) h
theorem comp_off {w : World} {b : Nat} {t : TypeId} {z0 z1 z2 z3 : Value} (hb : w.heap[b]? = some (.cells #[z0, z1, z2, z3] t (0, 0))) (hz : NoB w b) {pv rv fv : Value} {p r : List VT} {f : List FT} (hp : LV w pv p) (hr : LV w rv r) (hf : LF w fv f) (kd : Int) {pa ra fa : Option Addr} {pn pc rn rc fn fc : Nat} :
    LV ((((w.setCell ⟨b, 0, none⟩ (.int .i64 kd)).setCell ⟨b, 1, none⟩ (.slice pa pn pc)).setCell ⟨b, 2, none⟩ (.slice ra rn rc)).setCell ⟨b, 3, none⟩ (.slice fa fn fc)) pv p ∧ LV ((((w.setCell ⟨b, 0, none⟩ (.int .i64 kd)).setCell ⟨b, 1, none⟩ (.slice pa pn pc)).setCell ⟨b, 2, none⟩ (.slice ra rn rc)).setCell ⟨b, 3, none⟩ (.slice fa fn fc)) rv r ∧ LF ((((w.setCell ⟨b, 0, none⟩ (.int .i64 kd)).setCell ⟨b, 1, none⟩ (.slice pa pn pc)).setCell ⟨b, 2, none⟩ (.slice ra rn rc)).setCell ⟨b, 3, none⟩ (.slice fa fn fc)) fv f ∧ ((((w.setCell ⟨b, 0, none⟩ (.int .i64 kd)).setCell ⟨b, 1, none⟩ (.slice pa pn pc)).setCell ⟨b, 2, none⟩ (.slice ra rn rc)).setCell ⟨b, 3, none⟩ (.slice fa fn fc)).heap[b]? = some (.cells #[.int .i64 kd, .slice pa pn pc, .slice ra rn rc, .slice fa fn fc] t (0, 0)) := by
  have n0 := hz.set hb 0 (u := .int .i64 kd) (fun z h => by cases h)
  have b0 := heap_set hb 0 (.int .i64 kd)
  have n1 := n0.set b0 1 (u := .slice pa pn pc) (fun z h => by cases h)
  have b1 := heap_set b0 1 (.slice pa pn pc)
  have n2 := n1.set b1 2 (u := .slice ra rn rc) (fun z h => by cases h)
  have b2 := heap_set b1 2 (.slice ra rn rc)
  have b3 := heap_set b2 3 (.slice fa fn fc)
  exact ⟨(((hp.off hz).off n0).off n1).off n2, (((hr.off hz).off n0).off n1).off n2, (((hf.off hz).off n0).off n1).off n2, b3⟩
set_option maxRecDepth 100000 in
set_option maxHeartbeats 2000000 in
theorem scomp_any {w : World} {tv : Value} {L : List RT} (h : LR w tv L) (hm : L.length ≤ 1048576) (hcn : cntT L ≤ 1048576) (n : Int) (hn1 : n ≤ 9223372036854775807) (kd : Int) :
    Calls Tryz.prog 27 #[tv, .int .i64 n, .int .i64 kd] w fun en w' => ScP w' L n kd en ∧ Grew w w' := by
  obtain ⟨ta, tc, htv, _⟩ := h.one
  subst htv
  have CA : Hid (∀ X, Grew w X → Calls Tryz.prog 65 #[.slice ta L.length tc, .int .i64 n] X fun en w' => AtP X L n en ∧ (0 ≤ n → n < ((flatT L).length : Int) → en ≠ .returned (.tuple #[.agg ZS, .int .i64 0, .int .i64 0, .int .i64 50])) ∧ Grew X w') := fun X g => pat_any (h.grew g) hm hcn n hn1
  clear h hm hcn
  go_enter Tryz.func27, Tryz.ntmps27
  go_wp2_with fail
  obtain ⟨w0, hw0⟩ : ∃ w0, w0 = w.alloc (.cells #[.int .i64 0, .slice none 0 0, .slice none 0 0, .slice none 0 0] 61) := ⟨_, rfl⟩
  have N0 : w0.heap[w.heap.size]? = some (.cells #[.int .i64 0, .slice none 0 0, .slice none 0 0, .slice none 0 0] 61 (0, 0)) := by rw [hw0]; exact heap_alloc_last _ _
  have G0 : Hid (Grew w w0) := by rw [hw0]; exact (Grew.refl w).alloc _
  rw [← hw0]
  clear hw0
  refine (CA.out _ G0.out).mono ?_
  rintro en w1 ⟨hat, hne, g1⟩
  have G1 : Hid (Grew w w1) := G0.out.trans g1
  have N1 := (g1.turn []).other N0 (by simp)
  have lB := lt_of_obj N1
  have z0 := cell_of N1 0
  have z1 := cell_of N1 1
  have z2 := cell_of N1 2
  have z3 := cell_of N1 3
  have y0 := free_of N1 0
  have y1 := free_of N1 1
  have y2 := free_of N1 2
  have y3 := free_of N1 3
  simp at z0 z1 z2 z3
  have hB : Hid (w.heap.size ≤ w.heap.size) := Nat.le_refl _
  clear CA N0 G0
  rcases hat with ⟨m, x, sv, pv, rv, fv, g, k, rfl, hx, hsub, rfl⟩ | rfl
  · have hsub := hsub.grew g1
    clear g1
    obtain ⟨sa, sc, e1, _⟩ := hsub.1.one
    obtain ⟨pa, pc_, e2, _⟩ := hsub.2.1.one
    obtain ⟨ra, rc, e3, _⟩ := hsub.2.2.1.one
    obtain ⟨fa, fc, e4, _⟩ := hsub.2.2.2.one
    subst e1 e2 e3 e4
    have HS := Hid.mk' hsub
    have HX := Hid.mk' hx
    clear hsub hx hne
    by_cases hk : x.comp.kind = kd
    · subst hk
      have d1 : (x.comp.kind == x.comp.kind) = true := by simp
      have d2 : (x.comp.kind != x.comp.kind) = false := by simp
      have nb : NoB w1 w.heap.size := by
        intro j z e
        rw [cell_of N1] at e
        have hj : j < 4 := by
          have := (Array.getElem?_eq_some_iff.1 e).1
          simpa using this
        match j, hj with
        | 0, _ => simp at e
        | 1, _ => simp at e
        | 2, _ => simp at e
        | 3, _ => simp at e
      obtain ⟨hp, hr, hf, hb⟩ := comp_off N1 nb HS.out.2.1 HS.out.2.2.1 HS.out.2.2.2 x.comp.kind (pa := pa) (ra := ra) (fa := fa) (pn := x.comp.params.length) (pc := pc_) (rn := x.comp.results.length) (rc := rc) (fn := x.comp.fields.length) (fc := fc)
      have HP := Hid.mk' hp
      have HRR := Hid.mk' hr
      have HFF := Hid.mk' hf
      have HBB := Hid.mk' hb
      clear nb hp hr hf hb
      go_wp2_with fail
      generalize hw2 : (((w1.setCell ⟨w.heap.size, 0, none⟩ (.int .i64 x.comp.kind)).setCell ⟨w.heap.size, 1, none⟩ (.slice pa x.comp.params.length pc_)).setCell ⟨w.heap.size, 2, none⟩ (.slice ra x.comp.results.length rc)).setCell ⟨w.heap.size, 3, none⟩ (.slice fa x.comp.fields.length fc) = w2 at *
      have G2 : Hid (Grew w w2) := by rw [← hw2]; exact (((G1.out.set (p := ⟨w.heap.size, 0, none⟩) hB.out _).set (p := ⟨w.heap.size, 1, none⟩) hB.out _).set (p := ⟨w.heap.size, 2, none⟩) hB.out _).set (p := ⟨w.heap.size, 3, none⟩) hB.out _
      clear hw2 z0 z1 z2 z3 y0 y1 y2 y3 N1
      have gz : Grew w2 (w2.alloc (.cells #[.bool x.final_, .slice sa x.supers.length sc, .int .i64 x.comp.kind, .slice pa x.comp.params.length pc_, .slice ra x.comp.results.length rc, .slice fa x.comp.fields.length fc] 66)) := (Grew.refl w2).alloc _
      have b3 := heap_alloc HBB.out (.cells #[.bool x.final_, .slice sa x.supers.length sc, .int .i64 x.comp.kind, .slice pa x.comp.params.length pc_, .slice ra x.comp.results.length rc, .slice fa x.comp.fields.length fc] 66)
      have c0 := cell_of b3 0
      have c1 := cell_of b3 1
      have c2 := cell_of b3 2
      have c3 := cell_of b3 3
      simp at c0 c1 c2 c3
      refine bodyPost_ret (v := .tuple #[.agg #[.int .i64 x.comp.kind, .slice pa x.comp.params.length pc_, .slice ra x.comp.results.length rc, .slice fa x.comp.fields.length fc], .int .i64 0]) (by simp [results, Tryz.results27, go_sem, c0, c1, c2, c3]) rfl ?_
      exact ⟨Or.inl ⟨m, x, _, _, _, rfl, HX.out, rfl, HP.out.grew gz, HRR.out.grew gz, HFF.out.grew gz, rfl⟩, G2.out.trans gz⟩
    · have d1 : (x.comp.kind == kd) = false := by simpa using hk
      have d2 : (x.comp.kind != kd) = true := by simpa using hk
      have HK := Hid.mk' hk
      clear hk
      go_wp2_with fail
      have b3 := heap_set (heap_set (heap_set (heap_set N1 0 (.int .i64 0)) 1 (.slice none 0 0)) 2 (.slice none 0 0)) 3 (.slice none 0 0)
      have G2 := Hid.mk' ((((G1.out.set (p := ⟨w.heap.size, 0, none⟩) hB.out (.int .i64 0)).set (p := ⟨w.heap.size, 1, none⟩) hB.out (.slice none 0 0)).set (p := ⟨w.heap.size, 2, none⟩) hB.out (.slice none 0 0)).set (p := ⟨w.heap.size, 3, none⟩) hB.out (.slice none 0 0))
      generalize (((w1.setCell ⟨w.heap.size, 0, none⟩ (.int .i64 0)).setCell ⟨w.heap.size, 1, none⟩ (.slice none 0 0)).setCell ⟨w.heap.size, 2, none⟩ (.slice none 0 0)).setCell ⟨w.heap.size, 3, none⟩ (.slice none 0 0) = w2 at *
      have gz : Grew w2 (w2.alloc (.cells #[.bool x.final_, .slice sa x.supers.length sc, .int .i64 x.comp.kind, .slice pa x.comp.params.length pc_, .slice ra x.comp.results.length rc, .slice fa x.comp.fields.length fc] 66)) := (Grew.refl w2).alloc _
      have b4 := heap_alloc b3 (.cells #[.bool x.final_, .slice sa x.supers.length sc, .int .i64 x.comp.kind, .slice pa x.comp.params.length pc_, .slice ra x.comp.results.length rc, .slice fa x.comp.fields.length fc] 66)
      have c0 := cell_of b4 0
      have c1 := cell_of b4 1
      have c2 := cell_of b4 2
      have c3 := cell_of b4 3
      simp at c0 c1 c2 c3
      refine bodyPost_ret (v := .tuple #[ZC, .int .i64 151]) (by simp [ZC, results, Tryz.results27, go_sem, c0, c1, c2, c3]) rfl ?_
      exact ⟨Or.inr (Or.inl ⟨m, x, rfl, HX.out, HK.out, rfl⟩), G2.out.trans gz⟩
  · have hn : ¬ (0 ≤ n ∧ n < ((flatT L).length : Int)) := fun h => hne h.1 h.2 rfl
    have HN := Hid.mk' hn
    clear hne hn g1
    unfold ZS
    go_wp2_with fail
    have b3 := heap_set (heap_set (heap_set (heap_set N1 0 (.int .i64 0)) 1 (.slice none 0 0)) 2 (.slice none 0 0)) 3 (.slice none 0 0)
    have G2 := Hid.mk' ((((G1.out.set (p := ⟨w.heap.size, 0, none⟩) hB.out (.int .i64 0)).set (p := ⟨w.heap.size, 1, none⟩) hB.out (.slice none 0 0)).set (p := ⟨w.heap.size, 2, none⟩) hB.out (.slice none 0 0)).set (p := ⟨w.heap.size, 3, none⟩) hB.out (.slice none 0 0))
    generalize (((w1.setCell ⟨w.heap.size, 0, none⟩ (.int .i64 0)).setCell ⟨w.heap.size, 1, none⟩ (.slice none 0 0)).setCell ⟨w.heap.size, 2, none⟩ (.slice none 0 0)).setCell ⟨w.heap.size, 3, none⟩ (.slice none 0 0) = w2 at *
    have gz : Grew w2 (w2.alloc (.cells #[.bool false, .slice none 0 0, .int .i64 0, .slice none 0 0, .slice none 0 0, .slice none 0 0] 66)) := (Grew.refl w2).alloc _
    have b4 := heap_alloc b3 (.cells #[.bool false, .slice none 0 0, .int .i64 0, .slice none 0 0, .slice none 0 0, .slice none 0 0] 66)
    have c0 := cell_of b4 0
    have c1 := cell_of b4 1
    have c2 := cell_of b4 2
    have c3 := cell_of b4 3
    simp at c0 c1 c2 c3
    refine bodyPost_ret (v := .tuple #[ZC, .int .i64 150]) (by simp [ZC, results, Tryz.results27, go_sem, c0, c1, c2, c3]) rfl ?_
    exact ⟨Or.inr (Or.inr ⟨HN.out, rfl⟩), G2.out.trans gz⟩
end Go.Proofs.YtahmjgmaaaegcaaGreatDoor
