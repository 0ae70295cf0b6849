/-
  A composite type of a kind by its number (scope.Comp); no statement is proved here.
-/
import Derived.Test.YtnmbniojejckpaaGreatDoorOrd
import Derived.Test.YtnmbniojejckpaaGreatDoorPiL
set_option maxRecDepth 100000
set_option maxHeartbeats 8000000
namespace Go.Proofs.YtnmbniojejckpaaGreatDoor
open Go.RowKit
set_option linter.unusedVariables false
set_option linter.unusedSimpArgs false
def ZS : Array Value := #[.bool false, .slice none 0 0, .int .i64 0, .slice none 0 0, .slice none 0 0, .slice none 0 0]
def set6 (W : World) (B : Nat) (v0 v1 v2 v3 v4 v5 : Value) : World := (((((W.setCell ⟨B, 0, none⟩ v0).setCell ⟨B, 1, none⟩ v1).setCell ⟨B, 2, none⟩ v2).setCell ⟨B, 3, none⟩ v3).setCell ⟨B, 4, none⟩ v4).setCell ⟨B, 5, none⟩ v5
theorem set6_is {w W : World} {B : Nat} {v0 v1 v2 v3 v4 v5 z0 z1 z2 z3 z4 z5 : Value} {t : TypeId} (g : Grew w W) (hB : w.heap.size ≤ B) (h : W.heap[B]? = some (.cells #[z0, z1, z2, z3, z4, z5] t (0, 0))) :
    Grew w (set6 W B v0 v1 v2 v3 v4 v5) ∧ (set6 W B v0 v1 v2 v3 v4 v5).heap[B]? = some (.cells #[v0, v1, v2, v3, v4, v5] t (0, 0)) := by
  unfold set6
  refine ⟨(((((g.set hB _).set hB _).set hB _).set hB _).set hB _).set hB _, ?_⟩
  rw [heap_set (heap_set (heap_set (heap_set (heap_set (heap_set h 0 _) 1 _) 2 _) 3 _) 4 _) 5 _]
  rfl
theorem flatT_take (L : List RT) (g : Nat) : flatT L = flatT (L.take g) ++ flatT (L.drop g) := by
  unfold flatT
  rw [← List.flatMap_append, List.take_append_drop]
theorem flat_at_in {L : List RT} {g k : Nat} {r : RT} {x : SB} (hr : L[g]? = some r) (hx : r.types[k]? = some x) : (flatT L)[cntT (L.take g) + k]? = some x := by
  obtain ⟨hg, e⟩ := List.getElem?_eq_some_iff.1 hr
  rw [flatT_take L g, List.getElem?_append_right (by rw [flat_cnt]; omega), flat_cnt, List.drop_eq_getElem_cons hg, e]
  unfold flatT
  rw [List.flatMap_cons, List.getElem?_append_left (by have := (List.getElem?_eq_some_iff.1 hx).1; omega), Nat.add_sub_cancel_left]
  exact hx
def AtP (w : World) (L : List RT) (n : Int) (en : Ending) : Prop := (∃ (m : Nat) (x : SB) (sv pv rv fv : Value) (g k : Int), n = m ∧ (flatT L)[m]? = some x ∧ SubR w x sv pv rv fv ∧ en = .returned (.tuple #[.agg #[.bool x.final_, sv, .int .i64 x.comp.kind, pv, rv, fv], .int .i64 g, .int .i64 k, .int .i64 0])) ∨ en = .returned (.tuple #[.agg ZS, .int .i64 0, .int .i64 0, .int .i64 50])
theorem err_apart {u : Value} {g k : Int} {z : Array Value} : Ending.returned (.tuple #[u, .int .i64 g, .int .i64 k, .int .i64 0]) ≠ .returned (.tuple #[.agg z, .int .i64 0, .int .i64 0, .int .i64 50]) := by
  intro hh
  injection hh with hh
  injection hh with hh
  simp at hh
theorem pat_any {w : World} {v : Value} {L : List RT} (h : LR w v L) (hm : L.length ≤ 1048576) (hcn : cntT L ≤ 1048576) (n : Int) (hn1 : n ≤ 9223372036854775807) :
    Calls Tryz.prog 124 #[v, .int .i64 n] w fun en w' => AtP w L n en ∧ (0 ≤ n → n < ((flatT L).length : Int) → en ≠ .returned (.tuple #[.agg ZS, .int .i64 0, .int .i64 0, .int .i64 50])) ∧ Grew w w' := by
  have g0 : Grew w (w.alloc (.cells #[.bool false, .slice none 0 0, .int .i64 0, .slice none 0 0, .slice none 0 0, .slice none 0 0] 108)) := (Grew.refl w).alloc _
  have x0 := heap_alloc_last w (.cells #[.bool false, .slice none 0 0, .int .i64 0, .slice none 0 0, .slice none 0 0, .slice none 0 0] 108)
  obtain ⟨va, vc, ev, _⟩ := h.one
  subst ev
  have K0 : Hid (Grew w (w.alloc (.cells #[.bool false, .slice none 0 0, .int .i64 0, .slice none 0 0, .slice none 0 0, .slice none 0 0] 108)) ∧ (w.alloc (.cells #[.bool false, .slice none 0 0, .int .i64 0, .slice none 0 0, .slice none 0 0, .slice none 0 0] 108)).heap[w.heap.size]? = some (.cells #[.bool false, .slice none 0 0, .int .i64 0, .slice none 0 0, .slice none 0 0, .slice none 0 0] 108 (0, 0))) := ⟨g0, x0⟩
  have H : Hid (LR w (.slice va L.length vc) L) := h
  have HF : Hid (cntT L ≤ 1048576) := hcn
  have hL := hm
  clear h hm hcn g0 x0
  by_cases hneg : n < 0
  · have d : decide (n < 0) = true := by simpa using hneg
    go_enter Tryz.func124, Tryz.ntmps124
    go_wp2_with fail
    refine bodyPost_ret (v := .tuple #[.agg #[.bool false, .slice none 0 0, .int .i64 0, .slice none 0 0, .slice none 0 0, .slice none 0 0], .int .i64 0, .int .i64 0, .int .i64 50]) (by simp [results, Tryz.results124, go_sem]) rfl ⟨Or.inr rfl, fun h => by omega, K0.out.1⟩
  · have d : decide (n < 0) = false := by simpa using hneg
    go_enter Tryz.func124, Tryz.ntmps124
    go_wp2_with fail
    generalize (w.alloc (.cells #[.bool false, .slice none 0 0, .int .i64 0, .slice none 0 0, .slice none 0 0, .slice none 0 0] 108)) = W at *
    go_loopw [1, 15] (fun n_ g_ A => ∃ (g : Nat) (k : Int), n_ = .int .i64 k ∧ g_ = .int .i64 g ∧ g ≤ L.length ∧ 0 ≤ k ∧ k ≤ n ∧ Hid (n = k + (cntT (L.take g) : Int)) ∧ Hid (Grew W A)) (fun _ g_ _ => L.length - (intOf g_).toNat)
    case atStart => exact ⟨0, n, rfl, rfl, Nat.zero_le _, by omega, by omega, (by simp [cntT] : n = n + (cntT (L.take 0) : Int)), Grew.refl _⟩
    case round =>
      obtain ⟨g, k, rfl, rfl, hg, hk0, hkn, hn, HG0⟩ := hrel
      have hB0 := (HG0.out.turn []).other K0.out.2 (by simp)
      have HB := Hid.mk' hB0
      have HGw := Hid.mk' (K0.out.1.trans HG0.out)
      have lW := lt_of_obj hB0
      have a0 := cell_of hB0 0
      have a1 := cell_of hB0 1
      have a2 := cell_of hB0 2
      have a3 := cell_of hB0 3
      have a4 := cell_of hB0 4
      have a5 := cell_of hB0 5
      have z0 := free_of hB0 0
      have z1 := free_of hB0 1
      have z2 := free_of hB0 2
      have z3 := free_of hB0 3
      have z4 := free_of hB0 4
      have z5 := free_of hB0 5
      simp at a0 a1 a2 a3 a4 a5
      clear hB0
      have hne1 : w.heap.size ≠ wr.heap.size := Nat.ne_of_lt lW
      have hne2 : wr.heap.size ≠ w.heap.size := Nat.ne_of_gt lW
      by_cases hlt : g < L.length
      · obtain ⟨r, hr⟩ : ∃ r, L[g]? = some r := ⟨_, List.getElem?_eq_getElem hlt⟩
        obtain ⟨b, off, e, hcp, hE⟩ := H.out.get (by omega)
        subst e
        obtain ⟨ty, hty, c0, c1⟩ := hE g r hr
        obtain ⟨ta, tc, et, htc, _⟩ := hty.one
        subst et
        have c0' := cell_grew c0 HGw.out
        have c1' := cell_grew c1 HGw.out
        have d1 : decide ((g : Int) < (L.length : Int)) = true := by simp; omega
        have d2 : decide (g < L.length) = true := by simp; omega
        have hbl := lt_of_cell c0'
        have hrl : r.types.length ≤ 1048576 := by
          have h1 := cntT_snoc hr
          have h2 := cntT_take L (g + 1)
          have := HF.out
          omega
        by_cases hin : k < (r.types.length : Int)
        · obtain ⟨m, rfl⟩ : ∃ m : Nat, k = m := ⟨k.toNat, by omega⟩
          obtain ⟨x, hx⟩ : ∃ x, r.types[m]? = some x := ⟨_, List.getElem?_eq_getElem (by omega)⟩
          obtain ⟨tb, to, e, _, hTE⟩ := hty.get (by omega)
          subst e
          obtain ⟨sv, pv, rv, fv, hs, b0, b1, b2, b3, b4, b5⟩ := hTE m x hx
          obtain ⟨sa, sc, e1, _⟩ := hs.1.one
          obtain ⟨pa, pc_, e2, _⟩ := hs.2.1.one
          obtain ⟨ra, rc, e3, _⟩ := hs.2.2.1.one
          obtain ⟨fa, fc, e4, _⟩ := hs.2.2.2.one
          subst e1 e2 e3 e4
          have b0' := cell_grew b0 HGw.out
          have b1' := cell_grew b1 HGw.out
          have b2' := cell_grew b2 HGw.out
          have b3' := cell_grew b3 HGw.out
          have b4' := cell_grew b4 HGw.out
          have b5' := cell_grew b5 HGw.out
          have htl := lt_of_cell b0'
          have d3 : decide ((m : Int) < (r.types.length : Int)) = true := by simpa using hin
          have d4 : decide (m < r.types.length) = true := by simp; omega
          have HX : Hid ((flatT L)[cntT (L.take g) + m]? = some x ∧ SubR w x (.slice sa x.supers.length sc) (.slice pa x.comp.params.length pc_) (.slice ra x.comp.results.length rc) (.slice fa x.comp.fields.length fc)) := ⟨flat_at_in hr hx, hs⟩
          have hN : Hid (n = ((cntT (L.take g) + m : Nat) : Int)) := by
            have : n = ((cntT (L.take g) + m : Nat) : Int) := by have := hn.out; omega
            exact this
          generalize r.explicit = ex at *
          clear hE hTE c0 c1 b0 b1 b2 b3 b4 b5 hx hr hs hty
          go_wp2_with fail
          obtain ⟨G, hB⟩ := set6_is (v0 := .bool x.final_) (v1 := .slice sa x.supers.length sc) (v2 := .int .i64 x.comp.kind) (v3 := .slice pa x.comp.params.length pc_) (v4 := .slice ra x.comp.results.length rc) (v5 := .slice fa x.comp.fields.length fc) HGw.out (Nat.le_refl _) HB.out
          unfold set6 at G hB
          have hB2 := heap_alloc hB (.cells #[.slice (some ⟨tb, to, none⟩) r.types.length tc, .bool ex] 102)
          have HG : Hid (Grew w _) := G.alloc (.cells #[.slice (some ⟨tb, to, none⟩) r.types.length tc, .bool ex] 102)
          have e0 := cell_of hB2 0
          have e1 := cell_of hB2 1
          have e2 := cell_of hB2 2
          have e3 := cell_of hB2 3
          have e4 := cell_of hB2 4
          have e5 := cell_of hB2 5
          simp only [List.getElem?_toArray, List.getElem?_cons_zero, List.getElem?_cons_succ] at e0 e1 e2 e3 e4 e5
          clear G hB hB2 a0 a1 a2 a3 a4 a5 z0 z1 z2 z3 z4 z5 b0' b1' b2' b3' b4' b5' c0' c1'
          generalize (((((((wr.setCell ⟨w.heap.size, 0, none⟩ (.bool x.final_)).setCell ⟨w.heap.size, 1, none⟩ (.slice sa x.supers.length sc)).setCell ⟨w.heap.size, 2, none⟩ (.int .i64 x.comp.kind)).setCell ⟨w.heap.size, 3, none⟩ (.slice pa x.comp.params.length pc_)).setCell ⟨w.heap.size, 4, none⟩ (.slice ra x.comp.results.length rc)).setCell ⟨w.heap.size, 5, none⟩ (.slice fa x.comp.fields.length fc)).alloc (.cells #[.slice (some ⟨tb, to, none⟩) r.types.length tc, .bool ex] 102)) = V at *
          refine bodyPost_ret (v := .tuple #[.agg #[.bool x.final_, .slice sa x.supers.length sc, .int .i64 x.comp.kind, .slice pa x.comp.params.length pc_, .slice ra x.comp.results.length rc, .slice fa x.comp.fields.length fc], .int .i64 (g : Int), .int .i64 (m : Int), .int .i64 0]) (by simp [results, Tryz.results124, go_sem, e0, e1, e2, e3, e4, e5]) rfl ⟨Or.inl ⟨_, x, _, _, _, _, _, _, hN.out, HX.out.1, HX.out.2, rfl⟩, fun _ _ => err_apart, HG.out⟩
        · have d3 : decide (k < (r.types.length : Int)) = false := by simpa using hin
          have hN : Hid (n = (k - (r.types.length : Int)) + (cntT (L.take (g + 1)) : Int)) := by
            have : n = (k - (r.types.length : Int)) + (cntT (L.take (g + 1)) : Int) := by
              have h1 := cntT_snoc hr
              have := hn.out
              omega
            exact this
          have wr0 : IntKind.i64.wrap (k - (r.types.length : Int)) = k - (r.types.length : Int) := by rw [IntKind.wrap_i64]; omega
          generalize r.explicit = ex at *
          clear hE c0 c1 hr hty
          go_wp2_with fail
          go_roundw
          case rel => exact ⟨g + 1, k - (r.types.length : Int), rfl, by go_num, by omega, by omega, by omega, hN, HG0.out.alloc _⟩
          case measure => simp [intOf]; omega
      · have d1 : decide ((g : Int) < (L.length : Int)) = false := by simp; omega
        have hN : Hid (((flatT L).length : Int) ≤ n) := by
          have : ((flatT L).length : Int) ≤ n := by
            have := hn.out
            rw [List.take_of_length_le (by omega)] at this
            rw [flat_cnt]
            omega
          exact this
        go_wp2_with fail
        obtain ⟨G, hB⟩ := set6_is (v0 := .bool false) (v1 := .slice none 0 0) (v2 := .int .i64 0) (v3 := .slice none 0 0) (v4 := .slice none 0 0) (v5 := .slice none 0 0) HGw.out (Nat.le_refl _) HB.out
        unfold set6 at G hB
        have HG : Hid (Grew w _) := G
        have e0 := cell_of hB 0
        have e1 := cell_of hB 1
        have e2 := cell_of hB 2
        have e3 := cell_of hB 3
        have e4 := cell_of hB 4
        have e5 := cell_of hB 5
        simp only [List.getElem?_toArray, List.getElem?_cons_zero, List.getElem?_cons_succ] at e0 e1 e2 e3 e4 e5
        clear G hB a0 a1 a2 a3 a4 a5 z0 z1 z2 z3 z4 z5
        generalize ((((((wr.setCell ⟨w.heap.size, 0, none⟩ (.bool false)).setCell ⟨w.heap.size, 1, none⟩ (.slice none 0 0)).setCell ⟨w.heap.size, 2, none⟩ (.int .i64 0)).setCell ⟨w.heap.size, 3, none⟩ (.slice none 0 0)).setCell ⟨w.heap.size, 4, none⟩ (.slice none 0 0)).setCell ⟨w.heap.size, 5, none⟩ (.slice none 0 0)) = V at *
        refine bodyPost_ret (v := .tuple #[.agg #[.bool false, .slice none 0 0, .int .i64 0, .slice none 0 0, .slice none 0 0, .slice none 0 0], .int .i64 0, .int .i64 0, .int .i64 50]) (by simp [results, Tryz.results124, go_sem, e0, e1, e2, e3, e4, e5]) rfl ⟨Or.inr rfl, fun _ h2 => ?_, HG.out⟩
        have := hN.out
        omega
def ZC : Value := .agg #[.int .i64 0, .slice none 0 0, .slice none 0 0, .slice none 0 0]
def ScP (w' : World) (L : List RT) (n kd : Int) (en : Ending) : Prop :=
  (∃ (m : Nat) (x : SB) (pv rv fv : Value), n = m ∧ (flatT L)[m]? = some x ∧ x.comp.kind = kd ∧ LV w' pv x.comp.params ∧ LV w' rv x.comp.results ∧ LF w' fv x.comp.fields ∧ en = .returned (.tuple #[.agg #[.int .i64 kd, pv, rv, fv], .int .i64 0]))
  ∨ (∃ (m : Nat) (x : SB), n = m ∧ (flatT L)[m]? = some x ∧ x.comp.kind ≠ kd ∧ en = .returned (.tuple #[ZC, .int .i64 151]))
  ∨ (¬ (0 ≤ n ∧ n < ((flatT L).length : Int)) ∧ en = .returned (.tuple #[ZC, .int .i64 150]))
/- No cell of the block holds a bool. -/
def NoB (w : World) (b : Nat) : Prop := ∀ j z, w.cell? ⟨b, j, none⟩ ≠ some (.bool z)
theorem cell_setO {w : World} {b c j k : Nat} {u : Value} (h : b ≠ c) : (w.setCell ⟨c, k, none⟩ u).cell? ⟨b, j, none⟩ = w.cell? ⟨b, j, none⟩ := by
  refine World.cell?_setCell_other _ _ _ _ (fun e => ?_)
  simp only [Addr.mk.injEq] at e
  exact h e.1.symm
theorem NoB.set {w : World} {b : Nat} (h : NoB w b) {cs : Array Value} {t : TypeId} {f : Nat × Nat} (hb : w.heap[b]? = some (.cells cs t f)) (k : Nat) {u : Value} (hu : ∀ z, u ≠ .bool z) : NoB (w.setCell ⟨b, k, none⟩ u) b := by
  intro j z e
  rw [cell_of (heap_set hb k u)] at e
  rw [Array.getElem?_setIfInBounds] at e
  split at e
  · split at e
    · exact hu z (Option.some.inj e)
    · cases e
  · rw [← cell_of hb j] at e
    exact h j z e
theorem EV.off {w : World} {b o c k : Nat} {x : VT} {u : Value} (h : EV w b o x) (hb : NoB w c) : EV (w.setCell ⟨c, k, none⟩ u) b o x := by
  have hne : b ≠ c := by
    rintro rfl
    exact hb _ _ h.2.1
  exact ⟨(cell_setO hne).trans h.1, (cell_setO hne).trans h.2.1, (cell_setO hne).trans h.2.2⟩
theorem EF.off {w : World} {b o c k : Nat} {x : FT} {u : Value} (h : EF w b o x) (hb : NoB w c) : EF (w.setCell ⟨c, k, none⟩ u) b o x := by
  have hne : b ≠ c := by
    rintro rfl
    exact hb _ _ h.2
  exact ⟨h.1.off hb, (cell_setO hne).trans h.2⟩
theorem Lst.off {α : Type} {m : Nat} {E : World → Nat → Nat → α → Prop} {w : World} {c k : Nat} {u v : Value} {l : List α} (hE : ∀ b o x, E w b o x → E (w.setCell ⟨c, k, none⟩ u) b o x) (h : Lst m E w v l) : Lst m E (w.setCell ⟨c, k, none⟩ u) v l := by
  obtain ⟨a, cap, hv, h1, h2, h3, h4⟩ := h
  exact ⟨a, cap, hv, h1, h2, h3, h4.imp_right (fun ⟨b, off, ha, hc⟩ => ⟨b, off, ha, fun i x hx => hE _ _ _ (hc i x hx)⟩)⟩
theorem LV.off {w : World} {c k : Nat} {u v : Value} {l : List VT} (h : LV w v l) (hb : NoB w c) : LV (w.setCell ⟨c, k, none⟩ u) v l := Lst.off (E := EV) (fun _ _ _ h => EV.off h hb) h
theorem LF.off {w : World} {c k : Nat} {u v : Value} {l : List FT} (h : LF w v l) (hb : NoB w c) : LF (w.setCell ⟨c, k, none⟩ u) v l := Lst.off (E := EF) (fun _ _ _ h => EF.off h hb) h
theorem comp_off {w : World} {b : Nat} {t : TypeId} {z0 z1 z2 z3 : Value} (hb : w.heap[b]? = some (.cells #[z0, z1, z2, z3] t (0, 0))) (hz : NoB w b) {pv rv fv : Value} {p r : List VT} {f : List FT} (hp : LV w pv p) (hr : LV w rv r) (hf : LF w fv f) (kd : Int) {pa ra fa : Option Addr} {pn pc rn rc fn fc : Nat} :
    LV ((((w.setCell ⟨b, 0, none⟩ (.int .i64 kd)).setCell ⟨b, 1, none⟩ (.slice pa pn pc)).setCell ⟨b, 2, none⟩ (.slice ra rn rc)).setCell ⟨b, 3, none⟩ (.slice fa fn fc)) pv p ∧ LV ((((w.setCell ⟨b, 0, none⟩ (.int .i64 kd)).setCell ⟨b, 1, none⟩ (.slice pa pn pc)).setCell ⟨b, 2, none⟩ (.slice ra rn rc)).setCell ⟨b, 3, none⟩ (.slice fa fn fc)) rv r ∧ LF ((((w.setCell ⟨b, 0, none⟩ (.int .i64 kd)).setCell ⟨b, 1, none⟩ (.slice pa pn pc)).setCell ⟨b, 2, none⟩ (.slice ra rn rc)).setCell ⟨b, 3, none⟩ (.slice fa fn fc)) fv f ∧ ((((w.setCell ⟨b, 0, none⟩ (.int .i64 kd)).setCell ⟨b, 1, none⟩ (.slice pa pn pc)).setCell ⟨b, 2, none⟩ (.slice ra rn rc)).setCell ⟨b, 3, none⟩ (.slice fa fn fc)).heap[b]? = some (.cells #[.int .i64 kd, .slice pa pn pc, .slice ra rn rc, .slice fa fn fc] t (0, 0)) := by
  have n0 := hz.set hb 0 (u := .int .i64 kd) (fun z h => by cases h)
  have b0 := heap_set hb 0 (.int .i64 kd)
  have n1 := n0.set b0 1 (u := .slice pa pn pc) (fun z h => by cases h)
  have b1 := heap_set b0 1 (.slice pa pn pc)
  have n2 := n1.set b1 2 (u := .slice ra rn rc) (fun z h => by cases h)
  have b2 := heap_set b1 2 (.slice ra rn rc)
  have b3 := heap_set b2 3 (.slice fa fn fc)
  exact ⟨(((hp.off hz).off n0).off n1).off n2, (((hr.off hz).off n0).off n1).off n2, (((hf.off hz).off n0).off n1).off n2, b3⟩
theorem scomp_any {w : World} {tv : Value} {L : List RT} (h : LR w tv L) (hm : L.length ≤ 1048576) (hcn : cntT L ≤ 1048576) (n : Int) (hn1 : n ≤ 9223372036854775807) (kd : Int) :
    Calls Tryz.prog 105 #[tv, .int .i64 n, .int .i64 kd] w fun en w' => ScP w' L n kd en ∧ Grew w w' := by
  obtain ⟨ta, tc, htv, _⟩ := h.one
  subst htv
  have CA : Hid (∀ X, Grew w X → Calls Tryz.prog 124 #[.slice ta L.length tc, .int .i64 n] X fun en w' => AtP X L n en ∧ (0 ≤ n → n < ((flatT L).length : Int) → en ≠ .returned (.tuple #[.agg ZS, .int .i64 0, .int .i64 0, .int .i64 50])) ∧ Grew X w') := fun X g => pat_any (h.grew g) hm hcn n hn1
  clear h hm hcn
  go_enter Tryz.func105, Tryz.ntmps105
  go_wp2_with fail
  obtain ⟨w0, hw0⟩ : ∃ w0, w0 = w.alloc (.cells #[.int .i64 0, .slice none 0 0, .slice none 0 0, .slice none 0 0] 106) := ⟨_, rfl⟩
  have N0 : w0.heap[w.heap.size]? = some (.cells #[.int .i64 0, .slice none 0 0, .slice none 0 0, .slice none 0 0] 106 (0, 0)) := by rw [hw0]; exact heap_alloc_last _ _
  have G0 : Hid (Grew w w0) := by rw [hw0]; exact (Grew.refl w).alloc _
  rw [← hw0]
  clear hw0
  refine (CA.out _ G0.out).mono ?_
  rintro en w1 ⟨hat, hne, g1⟩
  have G1 : Hid (Grew w w1) := G0.out.trans g1
  have N1 := (g1.turn []).other N0 (by simp)
  have lB := lt_of_obj N1
  have z0 := cell_of N1 0
  have z1 := cell_of N1 1
  have z2 := cell_of N1 2
  have z3 := cell_of N1 3
  have y0 := free_of N1 0
  have y1 := free_of N1 1
  have y2 := free_of N1 2
  have y3 := free_of N1 3
  simp at z0 z1 z2 z3
  have hB : Hid (w.heap.size ≤ w.heap.size) := Nat.le_refl _
  clear CA N0 G0
  rcases hat with ⟨m, x, sv, pv, rv, fv, g, k, rfl, hx, hsub, rfl⟩ | rfl
  · have hsub := hsub.grew g1
    clear g1
    obtain ⟨sa, sc, e1, _⟩ := hsub.1.one
    obtain ⟨pa, pc_, e2, _⟩ := hsub.2.1.one
    obtain ⟨ra, rc, e3, _⟩ := hsub.2.2.1.one
    obtain ⟨fa, fc, e4, _⟩ := hsub.2.2.2.one
    subst e1 e2 e3 e4
    have HS := Hid.mk' hsub
    have HX := Hid.mk' hx
    clear hsub hx hne
    by_cases hk : x.comp.kind = kd
    · subst hk
      have d1 : (x.comp.kind == x.comp.kind) = true := by simp
      have d2 : (x.comp.kind != x.comp.kind) = false := by simp
      have nb : NoB w1 w.heap.size := by
        intro j z e
        rw [cell_of N1] at e
        have hj : j < 4 := by
          have := (Array.getElem?_eq_some_iff.1 e).1
          simpa using this
        match j, hj with
        | 0, _ => simp at e
        | 1, _ => simp at e
        | 2, _ => simp at e
        | 3, _ => simp at e
      obtain ⟨hp, hr, hf, hb⟩ := comp_off N1 nb HS.out.2.1 HS.out.2.2.1 HS.out.2.2.2 x.comp.kind (pa := pa) (ra := ra) (fa := fa) (pn := x.comp.params.length) (pc := pc_) (rn := x.comp.results.length) (rc := rc) (fn := x.comp.fields.length) (fc := fc)
      have HP := Hid.mk' hp
      have HRR := Hid.mk' hr
      have HFF := Hid.mk' hf
      have HBB := Hid.mk' hb
      clear nb hp hr hf hb
      go_wp2_with fail
      generalize hw2 : (((w1.setCell ⟨w.heap.size, 0, none⟩ (.int .i64 x.comp.kind)).setCell ⟨w.heap.size, 1, none⟩ (.slice pa x.comp.params.length pc_)).setCell ⟨w.heap.size, 2, none⟩ (.slice ra x.comp.results.length rc)).setCell ⟨w.heap.size, 3, none⟩ (.slice fa x.comp.fields.length fc) = w2 at *
      have G2 : Hid (Grew w w2) := by rw [← hw2]; exact (((G1.out.set (p := ⟨w.heap.size, 0, none⟩) hB.out _).set (p := ⟨w.heap.size, 1, none⟩) hB.out _).set (p := ⟨w.heap.size, 2, none⟩) hB.out _).set (p := ⟨w.heap.size, 3, none⟩) hB.out _
      clear hw2 z0 z1 z2 z3 y0 y1 y2 y3 N1
      have gz : Grew w2 (w2.alloc (.cells #[.bool x.final_, .slice sa x.supers.length sc, .int .i64 x.comp.kind, .slice pa x.comp.params.length pc_, .slice ra x.comp.results.length rc, .slice fa x.comp.fields.length fc] 108)) := (Grew.refl w2).alloc _
      have b3 := heap_alloc HBB.out (.cells #[.bool x.final_, .slice sa x.supers.length sc, .int .i64 x.comp.kind, .slice pa x.comp.params.length pc_, .slice ra x.comp.results.length rc, .slice fa x.comp.fields.length fc] 108)
      have c0 := cell_of b3 0
      have c1 := cell_of b3 1
      have c2 := cell_of b3 2
      have c3 := cell_of b3 3
      simp at c0 c1 c2 c3
      refine bodyPost_ret (v := .tuple #[.agg #[.int .i64 x.comp.kind, .slice pa x.comp.params.length pc_, .slice ra x.comp.results.length rc, .slice fa x.comp.fields.length fc], .int .i64 0]) (by simp [results, Tryz.results105, go_sem, c0, c1, c2, c3]) rfl ?_
      exact ⟨Or.inl ⟨m, x, _, _, _, rfl, HX.out, rfl, HP.out.grew gz, HRR.out.grew gz, HFF.out.grew gz, rfl⟩, G2.out.trans gz⟩
    · have d1 : (x.comp.kind == kd) = false := by simpa using hk
      have d2 : (x.comp.kind != kd) = true := by simpa using hk
      have HK := Hid.mk' hk
      clear hk
      go_wp2_with fail
      have b3 := heap_set (heap_set (heap_set (heap_set N1 0 (.int .i64 0)) 1 (.slice none 0 0)) 2 (.slice none 0 0)) 3 (.slice none 0 0)
      have G2 := Hid.mk' ((((G1.out.set (p := ⟨w.heap.size, 0, none⟩) hB.out (.int .i64 0)).set (p := ⟨w.heap.size, 1, none⟩) hB.out (.slice none 0 0)).set (p := ⟨w.heap.size, 2, none⟩) hB.out (.slice none 0 0)).set (p := ⟨w.heap.size, 3, none⟩) hB.out (.slice none 0 0))
      generalize (((w1.setCell ⟨w.heap.size, 0, none⟩ (.int .i64 0)).setCell ⟨w.heap.size, 1, none⟩ (.slice none 0 0)).setCell ⟨w.heap.size, 2, none⟩ (.slice none 0 0)).setCell ⟨w.heap.size, 3, none⟩ (.slice none 0 0) = w2 at *
      have gz : Grew w2 (w2.alloc (.cells #[.bool x.final_, .slice sa x.supers.length sc, .int .i64 x.comp.kind, .slice pa x.comp.params.length pc_, .slice ra x.comp.results.length rc, .slice fa x.comp.fields.length fc] 108)) := (Grew.refl w2).alloc _
      have b4 := heap_alloc b3 (.cells #[.bool x.final_, .slice sa x.supers.length sc, .int .i64 x.comp.kind, .slice pa x.comp.params.length pc_, .slice ra x.comp.results.length rc, .slice fa x.comp.fields.length fc] 108)
      have c0 := cell_of b4 0
      have c1 := cell_of b4 1
      have c2 := cell_of b4 2
      have c3 := cell_of b4 3
      simp at c0 c1 c2 c3
      refine bodyPost_ret (v := .tuple #[ZC, .int .i64 151]) (by simp [ZC, results, Tryz.results105, go_sem, c0, c1, c2, c3]) rfl ?_
      exact ⟨Or.inr (Or.inl ⟨m, x, rfl, HX.out, HK.out, rfl⟩), G2.out.trans gz⟩
  · have hn : ¬ (0 ≤ n ∧ n < ((flatT L).length : Int)) := fun h => hne h.1 h.2 rfl
    have HN := Hid.mk' hn
    clear hne hn g1
    unfold ZS
    go_wp2_with fail
    have b3 := heap_set (heap_set (heap_set (heap_set N1 0 (.int .i64 0)) 1 (.slice none 0 0)) 2 (.slice none 0 0)) 3 (.slice none 0 0)
    have G2 := Hid.mk' ((((G1.out.set (p := ⟨w.heap.size, 0, none⟩) hB.out (.int .i64 0)).set (p := ⟨w.heap.size, 1, none⟩) hB.out (.slice none 0 0)).set (p := ⟨w.heap.size, 2, none⟩) hB.out (.slice none 0 0)).set (p := ⟨w.heap.size, 3, none⟩) hB.out (.slice none 0 0))
    generalize (((w1.setCell ⟨w.heap.size, 0, none⟩ (.int .i64 0)).setCell ⟨w.heap.size, 1, none⟩ (.slice none 0 0)).setCell ⟨w.heap.size, 2, none⟩ (.slice none 0 0)).setCell ⟨w.heap.size, 3, none⟩ (.slice none 0 0) = w2 at *
    have gz : Grew w2 (w2.alloc (.cells #[.bool false, .slice none 0 0, .int .i64 0, .slice none 0 0, .slice none 0 0, .slice none 0 0] 108)) := (Grew.refl w2).alloc _
    have b4 := heap_alloc b3 (.cells #[.bool false, .slice none 0 0, .int .i64 0, .slice none 0 0, .slice none 0 0, .slice none 0 0] 108)
    have c0 := cell_of b4 0
    have c1 := cell_of b4 1
    have c2 := cell_of b4 2
    have c3 := cell_of b4 3
    simp at c0 c1 c2 c3
    refine bodyPost_ret (v := .tuple #[ZC, .int .i64 150]) (by simp [ZC, results, Tryz.results105, go_sem, c0, c1, c2, c3]) rfl ?_
    exact ⟨Or.inr (Or.inr ⟨HN.out, rfl⟩), G2.out.trans gz⟩
end Go.Proofs.YtnmbniojejckpaaGreatDoor
