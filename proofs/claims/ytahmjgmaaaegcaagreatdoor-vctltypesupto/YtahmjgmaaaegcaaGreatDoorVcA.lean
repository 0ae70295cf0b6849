/-
  A type by its number, as the program and as the document find it; no statement is proved here.
-/
import Derived.Test.YtahmjgmaaaegcaaGreatDoorVcH
namespace Go.Proofs.YtahmjgmaaaegcaaGreatDoor
open Go.RowKit
set_option linter.unusedVariables false
set_option linter.unusedSimpArgs false

def flatT (L : List RT) : List SB := L.flatMap RT.types
theorem flat_cnt : ∀ L : List RT, (flatT L).length = cntT L
  | [] => rfl
  | r :: L => by
    have h := flat_cnt L
    unfold flatT at h ⊢
    rw [List.flatMap_cons, List.length_append, h]
    rfl
def ZS : Array Value := #[.bool false, .slice none 0 0, .int .i64 0, .slice none 0 0, .slice none 0 0, .slice none 0 0]
def set6 (W : World) (B : Nat) (v0 v1 v2 v3 v4 v5 : Value) : World := (((((W.setCell ⟨B, 0, none⟩ v0).setCell ⟨B, 1, none⟩ v1).setCell ⟨B, 2, none⟩ v2).setCell ⟨B, 3, none⟩ v3).setCell ⟨B, 4, none⟩ v4).setCell ⟨B, 5, none⟩ v5
theorem set6_is {w W : World} {B : Nat} {v0 v1 v2 v3 v4 v5 z0 z1 z2 z3 z4 z5 : Value} {t : TypeId} (g : Grew w W) (hB : w.heap.size ≤ B) (h : W.heap[B]? = some (.cells #[z0, z1, z2, z3, z4, z5] t (0, 0))) :
    Grew w (set6 W B v0 v1 v2 v3 v4 v5) ∧ (set6 W B v0 v1 v2 v3 v4 v5).heap[B]? = some (.cells #[v0, v1, v2, v3, v4, v5] t (0, 0)) := by
  unfold set6
  refine ⟨(((((g.set hB _).set hB _).set hB _).set hB _).set hB _).set hB _, ?_⟩
  rw [heap_set (heap_set (heap_set (heap_set (heap_set (heap_set h 0 _) 1 _) 2 _) 3 _) 4 _) 5 _]
  rfl
theorem flat_take (L : List RT) (g : Nat) : flatT L = flatT (L.take g) ++ flatT (L.drop g) := by
  unfold flatT
  rw [← List.flatMap_append, List.take_append_drop]
theorem flat_at_in {L : List RT} {g k : Nat} {r : RT} {x : SB} (hr : L[g]? = some r) (hx : r.types[k]? = some x) : (flatT L)[cntT (L.take g) + k]? = some x := by
  obtain ⟨hg, e⟩ := List.getElem?_eq_some_iff.1 hr
  rw [flat_take L g, List.getElem?_append_right (by rw [flat_cnt]; omega), flat_cnt, List.drop_eq_getElem_cons hg, e]
  unfold flatT
  rw [List.flatMap_cons, List.getElem?_append_left (by have := (List.getElem?_eq_some_iff.1 hx).1; omega), Nat.add_sub_cancel_left]
  exact hx
/- What At answers. -/
def AtR (w : World) (L : List RT) (n : Int) (en : Ending) : Prop := (∃ (m : Nat) (x : SB) (sv pv rv fv : Value) (g k : Int), n = m ∧ (flatT L)[m]? = some x ∧ SubR w x sv pv rv fv ∧ en = .returned (.tuple #[.agg #[.bool x.final_, sv, .int .i64 x.comp.kind, pv, rv, fv], .int .i64 g, .int .i64 k, .bool true])) ∨ en = .returned (.tuple #[.agg ZS, .int .i64 0, .int .i64 0, .bool false])
set_option maxRecDepth 100000 in
set_option maxHeartbeats 2000000 in
theorem dat_any {w : World} {v : Value} {L : List RT} (h : LR w v L) (hm : L.length ≤ 1048576) (hcn : cntT L ≤ 1048576) (n : Int) (hn1 : n ≤ 9223372036854775807) :
    Calls Tryz.prog 29 #[v, .int .i64 n] w fun en w' => AtR w L n en ∧ (0 ≤ n → n < ((flatT L).length : Int) → en ≠ .returned (.tuple #[.agg ZS, .int .i64 0, .int .i64 0, .bool false])) ∧ Grew w w' := by
  have g0 : Grew w (w.alloc (.cells #[.bool false, .slice none 0 0, .int .i64 0, .slice none 0 0, .slice none 0 0, .slice none 0 0] 66)) := (Grew.refl w).alloc _
  have x0 := heap_alloc_last w (.cells #[.bool false, .slice none 0 0, .int .i64 0, .slice none 0 0, .slice none 0 0, .slice none 0 0] 66)
  obtain ⟨va, vc, ev, _⟩ := h.one
  subst ev
  have K0 : Hid (Grew w (w.alloc (.cells #[.bool false, .slice none 0 0, .int .i64 0, .slice none 0 0, .slice none 0 0, .slice none 0 0] 66)) ∧ (w.alloc (.cells #[.bool false, .slice none 0 0, .int .i64 0, .slice none 0 0, .slice none 0 0, .slice none 0 0] 66)).heap[w.heap.size]? = some (.cells #[.bool false, .slice none 0 0, .int .i64 0, .slice none 0 0, .slice none 0 0, .slice none 0 0] 66 (0, 0))) := ⟨g0, x0⟩
  have H : Hid (LR w (.slice va L.length vc) L) := h
  have HF : Hid (cntT L ≤ 1048576) := hcn
  have hL := hm
  clear h hm hcn g0 x0
  by_cases hneg : n < 0
  · have d : decide (n < 0) = true := by simpa using hneg
    go_enter Tryz.func29, Tryz.ntmps29
    go_wp2_with fail
    refine bodyPost_ret (v := .tuple #[.agg #[.bool false, .slice none 0 0, .int .i64 0, .slice none 0 0, .slice none 0 0, .slice none 0 0], .int .i64 0, .int .i64 0, .bool false]) (by simp [results, Tryz.results29, go_sem]) rfl ⟨Or.inr rfl, fun h => by omega, K0.out.1⟩
  · have d : decide (n < 0) = false := by simpa using hneg
    go_enter Tryz.func29, Tryz.ntmps29
    go_wp2_with fail
    generalize (w.alloc (.cells #[.bool false, .slice none 0 0, .int .i64 0, .slice none 0 0, .slice none 0 0, .slice none 0 0] 66)) = W at *
    have lW := lt_of_obj K0.out.2
    have a0 := cell_of K0.out.2 0
    have a1 := cell_of K0.out.2 1
    have a2 := cell_of K0.out.2 2
    have a3 := cell_of K0.out.2 3
    have a4 := cell_of K0.out.2 4
    have a5 := cell_of K0.out.2 5
    have z0 := free_of K0.out.2 0
    have z1 := free_of K0.out.2 1
    have z2 := free_of K0.out.2 2
    have z3 := free_of K0.out.2 3
    have z4 := free_of K0.out.2 4
    have z5 := free_of K0.out.2 5
    simp at a0 a1 a2 a3 a4 a5
    go_loopw [1, 8] (fun n_ g_ A => ∃ (g : Nat) (k : Int), n_ = .int .i64 k ∧ g_ = .int .i64 g ∧ g ≤ L.length ∧ 0 ≤ k ∧ k ≤ n ∧ Hid (n = k + (cntT (L.take g) : Int)) ∧ A = W) (fun _ g_ _ => L.length - (intOf g_).toNat)
    case atStart => exact ⟨0, n, rfl, rfl, Nat.zero_le _, by omega, by omega, (by simp [cntT] : n = n + (cntT (L.take 0) : Int)), rfl⟩
    case round =>
      obtain ⟨g, k, rfl, rfl, hg, hk0, hkn, hn, rfl⟩ := hrel
      by_cases hlt : g < L.length
      · obtain ⟨r, hr⟩ : ∃ r, L[g]? = some r := ⟨_, List.getElem?_eq_getElem hlt⟩
        obtain ⟨b, off, e, hcp, hE⟩ := H.out.get (by omega)
        subst e
        obtain ⟨ty, hty, c0, c1⟩ := hE g r hr
        obtain ⟨ta, tc, et, htc, _⟩ := hty.one
        subst et
        have c0' := cell_grew c0 K0.out.1
        have lb := lt_of_cell c0
        have hwW := K0.out.1.2
        have d1 : decide ((g : Int) < (L.length : Int)) = true := by simp; omega
        have d2 : decide (g < L.length) = true := by simp; omega
        have hrl : r.types.length ≤ 1048576 := by
          have h1 := cntT_snoc hr
          have h2 := cntT_take L (g + 1)
          have := HF.out
          omega
        by_cases hin : k < (r.types.length : Int)
        · obtain ⟨m, rfl⟩ : ∃ m : Nat, k = m := ⟨k.toNat, by omega⟩
          obtain ⟨x, hx⟩ : ∃ x, r.types[m]? = some x := ⟨_, List.getElem?_eq_getElem (by omega)⟩
          obtain ⟨tb, to, e, _, hTE⟩ := hty.get (by omega)
          subst e
          obtain ⟨sv, pv, rv, fv, hs, b0, b1, b2, b3, b4, b5⟩ := hTE m x hx
          obtain ⟨sa, sc, e1, _⟩ := hs.1.one
          obtain ⟨pa, pc_, e2, _⟩ := hs.2.1.one
          obtain ⟨ra, rc, e3, _⟩ := hs.2.2.1.one
          obtain ⟨fa, fc, e4, _⟩ := hs.2.2.2.one
          subst e1 e2 e3 e4
          have b0' := cell_grew b0 K0.out.1
          have b1' := cell_grew b1 K0.out.1
          have b2' := cell_grew b2 K0.out.1
          have b3' := cell_grew b3 K0.out.1
          have b4' := cell_grew b4 K0.out.1
          have b5' := cell_grew b5 K0.out.1
          have d3 : decide ((m : Int) < (r.types.length : Int)) = true := by simpa using hin
          have d4 : decide (m < r.types.length) = true := by simp; omega
          have HX : Hid ((flatT L)[cntT (L.take g) + m]? = some x ∧ SubR w x (.slice sa x.supers.length sc) (.slice pa x.comp.params.length pc_) (.slice ra x.comp.results.length rc) (.slice fa x.comp.fields.length fc)) := ⟨flat_at_in hr hx, hs⟩
          have hN : Hid (n = ((cntT (L.take g) + m : Nat) : Int)) := by
            have : n = ((cntT (L.take g) + m : Nat) : Int) := by have := hn.out; omega
            exact this
          clear hE hTE c0 c1 b0 b1 b2 b3 b4 b5 hx hr hs hty
          go_wp2_with fail
          obtain ⟨G, hB⟩ := set6_is (v0 := .bool x.final_) (v1 := .slice sa x.supers.length sc) (v2 := .int .i64 x.comp.kind) (v3 := .slice pa x.comp.params.length pc_) (v4 := .slice ra x.comp.results.length rc) (v5 := .slice fa x.comp.fields.length fc) K0.out.1 (Nat.le_refl _) K0.out.2
          unfold set6 at G hB
          have HG : Hid (Grew w _) := G
          have e0 := cell_of hB 0
          have e1 := cell_of hB 1
          have e2 := cell_of hB 2
          have e3 := cell_of hB 3
          have e4 := cell_of hB 4
          have e5 := cell_of hB 5
          simp only [List.getElem?_toArray, List.getElem?_cons_zero, List.getElem?_cons_succ] at e0 e1 e2 e3 e4 e5
          clear G hB a0 a1 a2 a3 a4 a5 z0 z1 z2 z3 z4 z5 b0' b1' b2' b3' b4' b5' c0'
          generalize ((((((wr.setCell ⟨w.heap.size, 0, none⟩ (.bool x.final_)).setCell ⟨w.heap.size, 1, none⟩ (.slice sa x.supers.length sc)).setCell ⟨w.heap.size, 2, none⟩ (.int .i64 x.comp.kind)).setCell ⟨w.heap.size, 3, none⟩ (.slice pa x.comp.params.length pc_)).setCell ⟨w.heap.size, 4, none⟩ (.slice ra x.comp.results.length rc)).setCell ⟨w.heap.size, 5, none⟩ (.slice fa x.comp.fields.length fc)) = V at *
          refine bodyPost_ret (v := .tuple #[.agg #[.bool x.final_, .slice sa x.supers.length sc, .int .i64 x.comp.kind, .slice pa x.comp.params.length pc_, .slice ra x.comp.results.length rc, .slice fa x.comp.fields.length fc], .int .i64 (g : Int), .int .i64 (m : Int), .bool true]) (by simp [results, Tryz.results29, go_sem, e0, e1, e2, e3, e4, e5]) rfl ⟨Or.inl ⟨_, x, _, _, _, _, _, _, hN.out, HX.out.1, HX.out.2, rfl⟩, fun _ _ hh => ?_, HG.out⟩
          injection hh with hh
          injection hh with hh
          simp at hh
        · have d3 : decide (k < (r.types.length : Int)) = false := by simpa using hin
          have hN : Hid (n = (k - (r.types.length : Int)) + (cntT (L.take (g + 1)) : Int)) := by
            have : n = (k - (r.types.length : Int)) + (cntT (L.take (g + 1)) : Int) := by
              have h1 := cntT_snoc hr
              have := hn.out
              omega
            exact this
          have wr : IntKind.i64.wrap (k - (r.types.length : Int)) = k - (r.types.length : Int) := by rw [IntKind.wrap_i64]; omega
          clear hE c0 c1 hr hty
          go_wp2_with fail
          go_roundw
          case rel => exact ⟨g + 1, k - (r.types.length : Int), rfl, by go_num, by omega, by omega, by omega, hN, trivial⟩
          case measure => simp [intOf]; omega
      · have d1 : decide ((g : Int) < (L.length : Int)) = false := by simp; omega
        have hN : Hid (((flatT L).length : Int) ≤ n) := by
          have : ((flatT L).length : Int) ≤ n := by
            have := hn.out
            rw [List.take_of_length_le (by omega)] at this
            rw [flat_cnt]
            omega
          exact this
        go_wp2_with fail
        obtain ⟨G, hB⟩ := set6_is (v0 := .bool false) (v1 := .slice none 0 0) (v2 := .int .i64 0) (v3 := .slice none 0 0) (v4 := .slice none 0 0) (v5 := .slice none 0 0) K0.out.1 (Nat.le_refl _) K0.out.2
        unfold set6 at G hB
        have HG : Hid (Grew w _) := G
        have e0 := cell_of hB 0
        have e1 := cell_of hB 1
        have e2 := cell_of hB 2
        have e3 := cell_of hB 3
        have e4 := cell_of hB 4
        have e5 := cell_of hB 5
        simp only [List.getElem?_toArray, List.getElem?_cons_zero, List.getElem?_cons_succ] at e0 e1 e2 e3 e4 e5
        clear G hB a0 a1 a2 a3 a4 a5 z0 z1 z2 z3 z4 z5
        generalize ((((((wr.setCell ⟨w.heap.size, 0, none⟩ (.bool false)).setCell ⟨w.heap.size, 1, none⟩ (.slice none 0 0)).setCell ⟨w.heap.size, 2, none⟩ (.int .i64 0)).setCell ⟨w.heap.size, 3, none⟩ (.slice none 0 0)).setCell ⟨w.heap.size, 4, none⟩ (.slice none 0 0)).setCell ⟨w.heap.size, 5, none⟩ (.slice none 0 0)) = V at *
        refine bodyPost_ret (v := .tuple #[.agg #[.bool false, .slice none 0 0, .int .i64 0, .slice none 0 0, .slice none 0 0, .slice none 0 0], .int .i64 0, .int .i64 0, .bool false]) (by simp [results, Tryz.results29, go_sem, e0, e1, e2, e3, e4, e5]) rfl ⟨Or.inr rfl, fun _ h2 => ?_, HG.out⟩
        have := hN.out
        omega

def AtP (w : World) (L : List RT) (n : Int) (en : Ending) : Prop := (∃ (m : Nat) (x : SB) (sv pv rv fv : Value) (g k : Int), n = m ∧ (flatT L)[m]? = some x ∧ SubR w x sv pv rv fv ∧ en = .returned (.tuple #[.agg #[.bool x.final_, sv, .int .i64 x.comp.kind, pv, rv, fv], .int .i64 g, .int .i64 k, .int .i64 0])) ∨ en = .returned (.tuple #[.agg ZS, .int .i64 0, .int .i64 0, .int .i64 50])
theorem err_apart {u : Value} {g k : Int} {z : Array Value} : Ending.returned (.tuple #[u, .int .i64 g, .int .i64 k, .int .i64 0]) ≠ .returned (.tuple #[.agg z, .int .i64 0, .int .i64 0, .int .i64 50]) := by
  intro hh
  injection hh with hh
  injection hh with hh
  simp at hh
set_option maxRecDepth 100000 in
set_option maxHeartbeats 2000000 in
theorem pat_any {w : World} {v : Value} {L : List RT} (h : LR w v L) (hm : L.length ≤ 1048576) (hcn : cntT L ≤ 1048576) (n : Int) (hn1 : n ≤ 9223372036854775807) :
    Calls Tryz.prog 65 #[v, .int .i64 n] w fun en w' => AtP w L n en ∧ (0 ≤ n → n < ((flatT L).length : Int) → en ≠ .returned (.tuple #[.agg ZS, .int .i64 0, .int .i64 0, .int .i64 50])) ∧ Grew w w' := by
  have g0 : Grew w (w.alloc (.cells #[.bool false, .slice none 0 0, .int .i64 0, .slice none 0 0, .slice none 0 0, .slice none 0 0] 66)) := (Grew.refl w).alloc _
  have x0 := heap_alloc_last w (.cells #[.bool false, .slice none 0 0, .int .i64 0, .slice none 0 0, .slice none 0 0, .slice none 0 0] 66)
  obtain ⟨va, vc, ev, _⟩ := h.one
  subst ev
  have K0 : Hid (Grew w (w.alloc (.cells #[.bool false, .slice none 0 0, .int .i64 0, .slice none 0 0, .slice none 0 0, .slice none 0 0] 66)) ∧ (w.alloc (.cells #[.bool false, .slice none 0 0, .int .i64 0, .slice none 0 0, .slice none 0 0, .slice none 0 0] 66)).heap[w.heap.size]? = some (.cells #[.bool false, .slice none 0 0, .int .i64 0, .slice none 0 0, .slice none 0 0, .slice none 0 0] 66 (0, 0))) := ⟨g0, x0⟩
  have H : Hid (LR w (.slice va L.length vc) L) := h
  have HF : Hid (cntT L ≤ 1048576) := hcn
  have hL := hm
  clear h hm hcn g0 x0
  by_cases hneg : n < 0
  · have d : decide (n < 0) = true := by simpa using hneg
    go_enter Tryz.func65, Tryz.ntmps65
    go_wp2_with fail
    refine bodyPost_ret (v := .tuple #[.agg #[.bool false, .slice none 0 0, .int .i64 0, .slice none 0 0, .slice none 0 0, .slice none 0 0], .int .i64 0, .int .i64 0, .int .i64 50]) (by simp [results, Tryz.results65, go_sem]) rfl ⟨Or.inr rfl, fun h => by omega, K0.out.1⟩
  · have d : decide (n < 0) = false := by simpa using hneg
    go_enter Tryz.func65, Tryz.ntmps65
    go_wp2_with fail
    generalize (w.alloc (.cells #[.bool false, .slice none 0 0, .int .i64 0, .slice none 0 0, .slice none 0 0, .slice none 0 0] 66)) = W at *
    go_loopw [1, 15] (fun n_ g_ A => ∃ (g : Nat) (k : Int), n_ = .int .i64 k ∧ g_ = .int .i64 g ∧ g ≤ L.length ∧ 0 ≤ k ∧ k ≤ n ∧ Hid (n = k + (cntT (L.take g) : Int)) ∧ Hid (Grew W A)) (fun _ g_ _ => L.length - (intOf g_).toNat)
    case atStart => exact ⟨0, n, rfl, rfl, Nat.zero_le _, by omega, by omega, (by simp [cntT] : n = n + (cntT (L.take 0) : Int)), Grew.refl _⟩
    case round =>
      obtain ⟨g, k, rfl, rfl, hg, hk0, hkn, hn, HG0⟩ := hrel
      have hB0 := (HG0.out.turn []).other K0.out.2 (by simp)
      have HB := Hid.mk' hB0
      have HGw := Hid.mk' (K0.out.1.trans HG0.out)
      have lW := lt_of_obj hB0
      have a0 := cell_of hB0 0
      have a1 := cell_of hB0 1
      have a2 := cell_of hB0 2
      have a3 := cell_of hB0 3
      have a4 := cell_of hB0 4
      have a5 := cell_of hB0 5
      have z0 := free_of hB0 0
      have z1 := free_of hB0 1
      have z2 := free_of hB0 2
      have z3 := free_of hB0 3
      have z4 := free_of hB0 4
      have z5 := free_of hB0 5
      simp at a0 a1 a2 a3 a4 a5
      clear hB0
      have hne1 : w.heap.size ≠ wr.heap.size := Nat.ne_of_lt lW
      have hne2 : wr.heap.size ≠ w.heap.size := Nat.ne_of_gt lW
      by_cases hlt : g < L.length
      · obtain ⟨r, hr⟩ : ∃ r, L[g]? = some r := ⟨_, List.getElem?_eq_getElem hlt⟩
        obtain ⟨b, off, e, hcp, hE⟩ := H.out.get (by omega)
        subst e
        obtain ⟨ty, hty, c0, c1⟩ := hE g r hr
        obtain ⟨ta, tc, et, htc, _⟩ := hty.one
        subst et
        have c0' := cell_grew c0 HGw.out
        have c1' := cell_grew c1 HGw.out
        have d1 : decide ((g : Int) < (L.length : Int)) = true := by simp; omega
        have d2 : decide (g < L.length) = true := by simp; omega
        have hbl := lt_of_cell c0'
        have hrl : r.types.length ≤ 1048576 := by
          have h1 := cntT_snoc hr
          have h2 := cntT_take L (g + 1)
          have := HF.out
          omega
        by_cases hin : k < (r.types.length : Int)
        · obtain ⟨m, rfl⟩ : ∃ m : Nat, k = m := ⟨k.toNat, by omega⟩
          obtain ⟨x, hx⟩ : ∃ x, r.types[m]? = some x := ⟨_, List.getElem?_eq_getElem (by omega)⟩
          obtain ⟨tb, to, e, _, hTE⟩ := hty.get (by omega)
          subst e
          obtain ⟨sv, pv, rv, fv, hs, b0, b1, b2, b3, b4, b5⟩ := hTE m x hx
          obtain ⟨sa, sc, e1, _⟩ := hs.1.one
          obtain ⟨pa, pc_, e2, _⟩ := hs.2.1.one
          obtain ⟨ra, rc, e3, _⟩ := hs.2.2.1.one
          obtain ⟨fa, fc, e4, _⟩ := hs.2.2.2.one
          subst e1 e2 e3 e4
          have b0' := cell_grew b0 HGw.out
          have b1' := cell_grew b1 HGw.out
          have b2' := cell_grew b2 HGw.out
          have b3' := cell_grew b3 HGw.out
          have b4' := cell_grew b4 HGw.out
          have b5' := cell_grew b5 HGw.out
          have htl := lt_of_cell b0'
          have d3 : decide ((m : Int) < (r.types.length : Int)) = true := by simpa using hin
          have d4 : decide (m < r.types.length) = true := by simp; omega
          have HX : Hid ((flatT L)[cntT (L.take g) + m]? = some x ∧ SubR w x (.slice sa x.supers.length sc) (.slice pa x.comp.params.length pc_) (.slice ra x.comp.results.length rc) (.slice fa x.comp.fields.length fc)) := ⟨flat_at_in hr hx, hs⟩
          have hN : Hid (n = ((cntT (L.take g) + m : Nat) : Int)) := by
            have : n = ((cntT (L.take g) + m : Nat) : Int) := by have := hn.out; omega
            exact this
          generalize r.explicit = ex at *
          clear hE hTE c0 c1 b0 b1 b2 b3 b4 b5 hx hr hs hty
          go_wp2_with fail
          obtain ⟨G, hB⟩ := set6_is (v0 := .bool x.final_) (v1 := .slice sa x.supers.length sc) (v2 := .int .i64 x.comp.kind) (v3 := .slice pa x.comp.params.length pc_) (v4 := .slice ra x.comp.results.length rc) (v5 := .slice fa x.comp.fields.length fc) HGw.out (Nat.le_refl _) HB.out
          unfold set6 at G hB
          have hB2 := heap_alloc hB (.cells #[.slice (some ⟨tb, to, none⟩) r.types.length tc, .bool ex] 96)
          have HG : Hid (Grew w _) := G.alloc (.cells #[.slice (some ⟨tb, to, none⟩) r.types.length tc, .bool ex] 96)
          have e0 := cell_of hB2 0
          have e1 := cell_of hB2 1
          have e2 := cell_of hB2 2
          have e3 := cell_of hB2 3
          have e4 := cell_of hB2 4
          have e5 := cell_of hB2 5
          simp only [List.getElem?_toArray, List.getElem?_cons_zero, List.getElem?_cons_succ] at e0 e1 e2 e3 e4 e5
          clear G hB hB2 a0 a1 a2 a3 a4 a5 z0 z1 z2 z3 z4 z5 b0' b1' b2' b3' b4' b5' c0' c1'
          generalize (((((((wr.setCell ⟨w.heap.size, 0, none⟩ (.bool x.final_)).setCell ⟨w.heap.size, 1, none⟩ (.slice sa x.supers.length sc)).setCell ⟨w.heap.size, 2, none⟩ (.int .i64 x.comp.kind)).setCell ⟨w.heap.size, 3, none⟩ (.slice pa x.comp.params.length pc_)).setCell ⟨w.heap.size, 4, none⟩ (.slice ra x.comp.results.length rc)).setCell ⟨w.heap.size, 5, none⟩ (.slice fa x.comp.fields.length fc)).alloc (.cells #[.slice (some ⟨tb, to, none⟩) r.types.length tc, .bool ex] 96)) = V at *
          refine bodyPost_ret (v := .tuple #[.agg #[.bool x.final_, .slice sa x.supers.length sc, .int .i64 x.comp.kind, .slice pa x.comp.params.length pc_, .slice ra x.comp.results.length rc, .slice fa x.comp.fields.length fc], .int .i64 (g : Int), .int .i64 (m : Int), .int .i64 0]) (by simp [results, Tryz.results65, go_sem, e0, e1, e2, e3, e4, e5]) rfl ⟨Or.inl ⟨_, x, _, _, _, _, _, _, hN.out, HX.out.1, HX.out.2, rfl⟩, fun _ _ => err_apart, HG.out⟩
        · have d3 : decide (k < (r.types.length : Int)) = false := by simpa using hin
          have hN : Hid (n = (k - (r.types.length : Int)) + (cntT (L.take (g + 1)) : Int)) := by
            have : n = (k - (r.types.length : Int)) + (cntT (L.take (g + 1)) : Int) := by
              have h1 := cntT_snoc hr
              have := hn.out
              omega
            exact this
          have wr0 : IntKind.i64.wrap (k - (r.types.length : Int)) = k - (r.types.length : Int) := by rw [IntKind.wrap_i64]; omega
          generalize r.explicit = ex at *
          clear hE c0 c1 hr hty
          go_wp2_with fail
          go_roundw
          case rel => exact ⟨g + 1, k - (r.types.length : Int), rfl, by go_num, by omega, by omega, by omega, hN, HG0.out.alloc _⟩
          case measure => simp [intOf]; omega
      · have d1 : decide ((g : Int) < (L.length : Int)) = false := by simp; omega
        have hN : Hid (((flatT L).length : Int) ≤ n) := by
          have : ((flatT L).length : Int) ≤ n := by
            have := hn.out
            rw [List.take_of_length_le (by omega)] at this
            rw [flat_cnt]
            omega
          exact this
        go_wp2_with fail
        obtain ⟨G, hB⟩ := set6_is (v0 := .bool false) (v1 := .slice none 0 0) (v2 := .int .i64 0) (v3 := .slice none 0 0) (v4 := .slice none 0 0) (v5 := .slice none 0 0) HGw.out (Nat.le_refl _) HB.out
        unfold set6 at G hB
        have HG : Hid (Grew w _) := G
        have e0 := cell_of hB 0
        have e1 := cell_of hB 1
        have e2 := cell_of hB 2
        have e3 := cell_of hB 3
        have e4 := cell_of hB 4
        have e5 := cell_of hB 5
        simp only [List.getElem?_toArray, List.getElem?_cons_zero, List.getElem?_cons_succ] at e0 e1 e2 e3 e4 e5
        clear G hB a0 a1 a2 a3 a4 a5 z0 z1 z2 z3 z4 z5
        generalize ((((((wr.setCell ⟨w.heap.size, 0, none⟩ (.bool false)).setCell ⟨w.heap.size, 1, none⟩ (.slice none 0 0)).setCell ⟨w.heap.size, 2, none⟩ (.int .i64 0)).setCell ⟨w.heap.size, 3, none⟩ (.slice none 0 0)).setCell ⟨w.heap.size, 4, none⟩ (.slice none 0 0)).setCell ⟨w.heap.size, 5, none⟩ (.slice none 0 0)) = V at *
        refine bodyPost_ret (v := .tuple #[.agg #[.bool false, .slice none 0 0, .int .i64 0, .slice none 0 0, .slice none 0 0, .slice none 0 0], .int .i64 0, .int .i64 0, .int .i64 50]) (by simp [results, Tryz.results65, go_sem, e0, e1, e2, e3, e4, e5]) rfl ⟨Or.inr rfl, fun _ h2 => ?_, HG.out⟩
        have := hN.out
        omega
end Go.Proofs.YtahmjgmaaaegcaaGreatDoor
