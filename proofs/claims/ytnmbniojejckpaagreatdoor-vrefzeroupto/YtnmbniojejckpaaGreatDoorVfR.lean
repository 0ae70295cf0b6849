/-
  vref's casts on a fresh checker; no statement is proved here.
-/
import Derived.Test.YtnmbniojejckpaaGreatDoorVfQ
import Derived.Test.YtnmbniojejckpaaGreatDoorVfM
import Derived.Deep.RegionHeld3
set_option maxRecDepth 100000
set_option maxHeartbeats 8000000
namespace Go.Proofs.YtnmbniojejckpaaGreatDoor
open Go.RowKit
set_option linter.unusedVariables false
set_option linter.unusedSimpArgs false
section
variable {w : World} {cx : Array Value} {TT : List RT} {FL : List Int} {EL : List VT} {RB : List Bool} {dt : Int}
variable {B C : Nat}
theorem lv_lt {Y : World} {a : Addr} {c : Nat} {x : VT} (h : LV Y (.slice (some a) 1 c) [x]) : a.block < Y.heap.size := by
  obtain ⟨a', cap, e, _, _, _, h5⟩ := h
  rcases h5 with h5 | ⟨b, off, ea, hE⟩
  · cases h5
  · injection e with e1 _ _
    rw [ea] at e1
    injection e1 with e1
    subst e1
    exact lt_of_cell (hE 0 x rfl).1
theorem cast1_z (F : FRS B C w) (hc : CTX w cx TT FL EL RB dt) {X : World} (g : Grew w X) {p q : Nat} {es : Array Value} (hx : X.heap[p]? = some (.cells cx 30 (0, 0))) (hq : X.heap[q]? = some (.cells es 52 (0, 0))) {ya : Option Addr} {yc : Nat} {sl : List VT} (h15 : es[15]? = some (.slice ya sl.length yc)) (hsl : LV X (.slice ya sl.length yc) sl) {op : Int} (h0 : es[0]? = some (.int .i64 op)) (hqC : q ≠ C) : Calls Tryz.prog 113 #[.pointer (some ⟨C, 0, none⟩), .pointer (some ⟨q, 0, none⟩), .pointer (some ⟨p, 0, none⟩)] X (Z6 B X) := by
  have CK : Hid (∀ Y (n h : Int) (z : Bool), Grew X Y → Calls Tryz.prog 59 #[.agg cx, .agg #[.int .i64 n, .bool z, .int .i64 h]] Y (BoQ Y)) := fun Y n h z gy => qspeaks_any hc n h z (g.trans gy)
  have CA : Hid (∀ (b : Bool) (h : Int) Y, Calls Tryz.prog 33 #[.bool b, .int .i64 h] Y fun en w' => en = .returned (.agg #[.int .i64 5, .bool b, .int .i64 h]) ∧ Grew Y w') := abs_any
  have CI : Hid (∀ Y, Calls Tryz.prog 34 #[] Y fun en w' => en = .returned (.agg #[.int .i64 1, .bool false, .int .i64 0]) ∧ Grew Y w') := q32_any
  have CL : Hid (∀ v Y, Calls Tryz.prog 32 #[v] Y fun en w' => en = .returned v ∧ Grew Y w') := ql_any
  have CS : Hid (∀ Y (v u : Value) (li lu : List VT), Grew X Y → LV Y v li → LV Y u lu → lu.length ≤ 8000000 → (∀ a n c, u = .slice (some a) n c → a.block < Y.heap.size) → Calls Tryz.prog 67 #[.pointer (some ⟨C, 0, none⟩), v, u] Y (Z6T B C Y)) := fun Y v u li lu gy => F.swap Y v u li lu (g.trans gy)
  obtain ⟨tv, ht0, hl0⟩ := hc.types
  have CT : Hid (∀ (h : Int) Y, Grew X Y → Calls Tryz.prog 114 #[tv, .int .i64 h] Y fun en w' => ∃ b e, en = .returned (.tuple #[.int .i64 b, .int .i64 e]) ∧ e ≠ 6 ∧ Grew Y w') := fun h Y gy => top_any (hl0.grew (g.trans gy)) hc.fit (hc.tab.grew (g.trans gy)) h
  obtain ⟨ta, tc, et, _⟩ := hl0.one
  subst et
  have p0 := (cell_of hx 0).trans ht0
  have q0 := (cell_of hq 0).trans h0
  have HB := Hid.mk' (Nat.le_trans F.hB g.2)
  have HC := Hid.mk' (Nat.lt_of_lt_of_le F.hC g.2)
  have hsz := hc.sz
  have HX := Hid.mk' hx
  have q15 := (cell_of hq 15).trans h15
  have lq := lt_of_cell q15
  have lp := lt_of_obj hx
  have GP : Hid (Grew X X) := Grew.refl X
  have HL := Hid.mk' hsl
  have hmx : sl.length ≤ 9223372036854775807 := by
    obtain ⟨_, _, _, h1, h2⟩ := hsl.one
    simp [maxLen] at h2
    omega
  clear F hc g hx hq h15 hsl hl0 h0 ht0
  by_cases h0 : sl.length < 1
  · have d1 : decide ((sl.length : Int) < 1) = true := by simp; omega
    go_enter Tryz.func113, Tryz.ntmps113
    go_wp2_with fail
    go_ret
    exact ⟨_, rfl, by decide, Grew.kb GP.out HB.out⟩
  · have d1 : decide ((sl.length : Int) < 1) = false := by simp; omega
    have d2 : decide (0 < sl.length) = true := by simp; omega
    have d3 : decide ((0 : Int) < (sl.length : Int)) = true := by simp; omega
    have d5 : (0 : Int) < (sl.length : Int) := by omega
    have d6 : 0 < sl.length := by omega
    have hnil : ¬ sl = [] := by
      intro e
      rw [e] at d2
      simp at d2
    obtain ⟨f, hf0⟩ : ∃ f, sl[0]? = some f := ⟨_, List.getElem?_eq_getElem (by omega)⟩
    obtain ⟨b, off, ea, _, hE⟩ := HL.out.get (by omega)
    subst ea
    obtain ⟨x0, x1, x2⟩ := hE 0 f hf0
    simp at x0 x1 x2
    have hbl := lt_of_cell x0
    clear hE hf0 h0
    obtain ⟨fn, fz, fh⟩ := f
    simp only at x0 x1 x2
    have HX2 : Hid ((X.alloc (.cells #[.int .i64 fn, .bool fz, .int .i64 fh] 46)).heap[p]? = some (.cells cx 30 (0, 0))) := heap_alloc HX.out _
    go_enter Tryz.func113, Tryz.ntmps113
    go_wp2_with (first
    | (with_reducible refine stop_load 30 rfl ?_
       unfold Stop
       refine wpList_load_row rfl 30 _ rfl p (by go_simp) 30 cx (0, 0) _ HX2.out Tryz.underlying30 rfl (by rw [hsz]; kernel_rfl) ?_)
    | fail)
    refine (CK.out _ _ _ _ (by repeat (first | with_reducible exact GP.out | refine .alloc ?_ _))).mono ?_
    rintro en w1 ⟨r, rfl, g1⟩
    obtain ⟨t, ht⟩ : ∃ t, t = X.heap.size := ⟨_, rfl⟩
    have hCt : t ≠ C := by have := HC.out; omega
    have NT0 := heap_alloc_last X (.cells #[.int .i64 fn, .bool fz, .int .i64 fh] 46)
    have gw : Grew X (X.alloc (.cells #[.int .i64 fn, .bool fz, .int .i64 fh] 46)) := (Grew.refl _).alloc _
    have gx : Grew X w1 := gw.trans g1
    have NT := (g1.turn []).other NT0 (by simp)
    rw [← ht] at NT
    simp only [← ht]
    have y0 := cell_grew q0 gx
    have yp := cell_grew p0 gx
    clear GP
    have GP := Hid.mk' gx
    have ly := lt_of_cell y0
    have lyp := lt_of_cell yp
    have lyt := lt_of_obj NT
    have z0 := cell_of NT 0
    have z1 := cell_of NT 1
    have z2 := cell_of NT 2
    simp at z0 z1 z2
    clear gx gw g1 NT0 ht CK HX HX2 x0 x1 x2 q15 lq lp hbl q0 p0
    cases r
    · go_wp2_with fail
      go_ret
      exact ⟨_, rfl, by decide, Grew.kb GP.out HB.out⟩
    · go_wp2_with fail
      refine (CT.out _ _ (by repeat (first | with_reducible exact GP.out | refine .alloc ?_ _))).mono ?_
      rintro en w2 ⟨tp, e2, rfl, he2, g2⟩
      have gq : Grew w1 w2 := Grew.trans (by repeat (first | with_reducible exact .refl _ | refine .alloc ?_ _)) g2
      have gx : Grew X w2 := GP.out.trans gq
      have y02 := cell_grew y0 gq
      have NT2 := (gq.turn []).other NT (by simp)
      clear GP
      have GP := Hid.mk' gx
      clear gx g2 gq CT y0 yp ly lyp lyt z0 z1 z2 NT he2
      have ly := lt_of_cell y02
      have lyt := lt_of_obj NT2
      have z0 := cell_of NT2 0
      have z1 := cell_of NT2 1
      have z2 := cell_of NT2 2
      simp at z0 z1 z2
      by_cases h0 : e2 = 0
      · subst h0
        have NU := heap_alloc_last w2 (.cells #[.int .i64 fn, .bool fz, .int .i64 fh] 46)
        obtain ⟨u, hu⟩ : ∃ u, u = w2.heap.size := ⟨_, rfl⟩
        have hux : Hid (X.heap.size ≤ u) := by show X.heap.size ≤ u; have := GP.out.2; omega
        have huC : u ≠ C := by have := HC.out; have := GP.out.2; omega
        have gu : Grew w2 (w2.alloc (.cells #[.int .i64 fn, .bool fz, .int .i64 fh] 46)) := (Grew.refl _).alloc _
        by_cases ho : op = 64276 ∨ op = 64277
        · rcases ho with rfl | rfl
          all_goals
            go_wp2_with fail
            refine (CI.out _).mono ?_
            rintro en w3 ⟨rfl, g3⟩
            have NU3 := (g3.turn []).other NU (by simp)
            have gx : Grew X w3 := GP.out.trans (gu.trans g3)
            rw [← hu] at NU3
            simp only [← hu]
            clear GP
            have GP := Hid.mk' gx
            clear gx g3 CI y02 ly lyt z0 z1 z2 NT2 NU gu hu
            have lu := lt_of_obj NU3
            have z0 := cell_of NU3 0
            have z1 := cell_of NU3 1
            have z2 := cell_of NU3 2
            have f0 := free_of NU3 0
            have f1 := free_of NU3 1
            have f2 := free_of NU3 2
            simp at z0 z1 z2
            have HN3 := Hid.mk' NU3
            clear NU3
            go_wp2_with fail
            have b3 := heap_set (heap_set (heap_set HN3.out 0 (.int .i64 1)) 1 (.bool false)) 2 (.int .i64 0)
            have G9 := Hid.mk' (((GP.out.set (p := ⟨u, 0, none⟩) hux.out (.int .i64 1)).set (p := ⟨u, 1, none⟩) hux.out (.bool false)).set (p := ⟨u, 2, none⟩) hux.out (.int .i64 0))
            generalize ((w3.setCell ⟨u, 0, none⟩ (.int .i64 1)).setCell ⟨u, 1, none⟩ (.bool false)).setCell ⟨u, 2, none⟩ (.int .i64 0) = W0 at *
            clear z0 z1 z2 f0 f1 f2 lu HN3 GP
            have lu := lt_of_obj b3
            have z0 := cell_of b3 0
            have z1 := cell_of b3 1
            have z2 := cell_of b3 2
            simp at z0 z1 z2
            clear b3
            have GQ : Hid (Grew W0 W0) := Grew.refl _
            go_region_held3 (fun Y => Y.cell? ⟨u, 0, none⟩ = some (.int .i64 1) ∧ Y.cell? ⟨u, 1, none⟩ = some (.bool false) ∧ Y.cell? ⟨u, 2, none⟩ = some (.int .i64 0)) (go_keep) (first
               | (with_reducible refine (CA.out _ _ _).mono ?_
                  rintro en wn ⟨rfl, gn⟩
                  first
                    | have HU2 := Hid.mk' ((one_lst _ 1 0 false).grew gn)
                    | have HU2 := Hid.mk' (((one_lst _ 1 0 false).grew ((Grew.refl _).drew)).grew gn)
                    | skip
                  have gx : Grew W0 wn := Grew.trans (by repeat (first | with_reducible exact GQ.out | with_reducible exact .refl _ | refine .alloc ?_ _ | refine .drewN ?_ _ | refine .drew ?_)) gn
                  clear GQ
                  have GQ := Hid.mk' gx
                  have s0 := cell_grew z0 gx
                  have s1 := cell_grew z1 gx
                  have s2 := cell_grew z2 gx
                  clear gx gn
                  try rw [alloc_size] at HU1
                  try rw [alloc_size] at HU2)
               | (with_reducible refine (CL.out _ _).mono ?_
                  rintro en wn ⟨rfl, gn⟩
                  have HU1 := Hid.mk' ((one_lst _ 5 tp true).grew gn)
                  first
                    | have HU2 := Hid.mk' (HU2.out.grew (Grew.trans ((Grew.refl _).alloc _) gn))
                    | have HU2 := Hid.mk' (((one_lst _ 1 0 false).grew ((Grew.refl _).alloc _)).grew gn)
                    | skip
                  have gx : Grew W0 wn := Grew.trans (by repeat (first | with_reducible exact GQ.out | with_reducible exact .refl _ | refine .alloc ?_ _ | refine .drewN ?_ _ | refine .drew ?_)) gn
                  clear GQ
                  have GQ := Hid.mk' gx
                  have s0 := cell_grew z0 gx
                  have s1 := cell_grew z1 gx
                  have s2 := cell_grew z2 gx
                  clear gx gn
                  try rw [alloc_size] at HU1
                  try rw [alloc_size] at HU2)
               | (with_reducible refine (CL.out _ _).mono ?_
                  rintro en wn ⟨rfl, gn⟩
                  have HU2 := Hid.mk' ((one_lst _ 1 0 false).grew gn)
                  first
                    | have HU1 := Hid.mk' (HU1.out.grew (Grew.trans ((Grew.refl _).alloc _) gn))
                    | have HU1 := Hid.mk' (((one_lst _ 5 tp true).grew ((Grew.refl _).alloc _)).grew gn)
                  have gx : Grew W0 wn := Grew.trans (by repeat (first | with_reducible exact GQ.out | with_reducible exact .refl _ | refine .alloc ?_ _ | refine .drewN ?_ _ | refine .drew ?_)) gn
                  clear GQ
                  have GQ := Hid.mk' gx
                  have s0 := cell_grew z0 gx
                  have s1 := cell_grew z1 gx
                  have s2 := cell_grew z2 gx
                  clear gx gn
                  try rw [alloc_size] at HU1
                  try rw [alloc_size] at HU2)
               | (with_reducible refine (CL.out _ _).mono ?_
                  rintro en wn ⟨rfl, gn⟩
                  have HU1 := Hid.mk' (HU1.out.grew gn)
                  have HU2 := Hid.mk' (HU2.out.grew gn)
                  have gx : Grew W0 wn := Grew.trans (by repeat (first | with_reducible exact GQ.out | with_reducible exact .refl _ | refine .alloc ?_ _ | refine .drewN ?_ _ | refine .drew ?_)) gn
                  clear GQ
                  have GQ := Hid.mk' gx
                  have s0 := cell_grew z0 gx
                  have s1 := cell_grew z1 gx
                  have s2 := cell_grew z2 gx
                  clear gx gn
                  try rw [alloc_size] at HU1
                  try rw [alloc_size] at HU2)
               | (with_reducible refine (CS.out _ _ _ _ _ (G9.out.trans GQ.out) HU1.out HU2.out (by simp) (fun a n c e => by
                    injection e with e1 _ _
                    injection e1 with e1
                    subst e1
                    exact lv_lt HU2.out)).mono ?_
                  rintro en w9 ⟨e9, rfl, he9, k9, t9⟩
                  have K9 := Hid.mk' ((Grew.kb (G9.out.trans GQ.out) HB.out).trans k9)
                  have H9 := Hid.mk' he9
                  have s0 := two_cell t9 (cell_grew z0 GQ.out) huC
                  have s1 := two_cell t9 (cell_grew z1 GQ.out) huC
                  have s2 := two_cell t9 (cell_grew z2 GQ.out) huC
                  clear he9 k9 t9)
               | fail)
            all_goals
              go_wp2_with fail
              go_ret
              exact ⟨_, rfl, H9.out, K9.out⟩
        · have o1 : (op == 64276) = false := by rw [beq_eq_false_iff_ne]; omega
          have o2 : (op == 64277) = false := by rw [beq_eq_false_iff_ne]; omega
          clear ho
          go_wp2_with fail
          have G9 : Hid (Grew X (w2.alloc (.cells #[.int .i64 fn, .bool fz, .int .i64 fh] 46))) := GP.out.alloc _
          have b3 := NU
          rw [← hu] at b3
          simp only [← hu]
          generalize w2.alloc (.cells #[.int .i64 fn, .bool fz, .int .i64 fh] 46) = W0 at *
          clear z0 z1 z2 GP ly lyt NT2 NU gu hu y02
          have lu := lt_of_obj b3
          have z0 := cell_of b3 0
          have z1 := cell_of b3 1
          have z2 := cell_of b3 2
          simp at z0 z1 z2
          clear b3
          have GQ : Hid (Grew W0 W0) := Grew.refl _
          go_region_held3 (fun Y => Y.cell? ⟨u, 0, none⟩ = some (.int .i64 fn) ∧ Y.cell? ⟨u, 1, none⟩ = some (.bool fz) ∧ Y.cell? ⟨u, 2, none⟩ = some (.int .i64 fh)) (go_keep) (first
             | (with_reducible refine (CA.out _ _ _).mono ?_
                rintro en wn ⟨rfl, gn⟩
                first
                  | have HU2 := Hid.mk' ((one_lst _ fn fh fz).grew gn)
                  | have HU2 := Hid.mk' (((one_lst _ fn fh fz).grew ((Grew.refl _).drew)).grew gn)
                  | skip
                have gx : Grew W0 wn := Grew.trans (by repeat (first | with_reducible exact GQ.out | with_reducible exact .refl _ | refine .alloc ?_ _ | refine .drewN ?_ _ | refine .drew ?_)) gn
                clear GQ
                have GQ := Hid.mk' gx
                have s0 := cell_grew z0 gx
                have s1 := cell_grew z1 gx
                have s2 := cell_grew z2 gx
                clear gx gn
                try rw [alloc_size] at HU1
                try rw [alloc_size] at HU2)
             | (with_reducible refine (CL.out _ _).mono ?_
                rintro en wn ⟨rfl, gn⟩
                have HU1 := Hid.mk' ((one_lst _ 5 tp true).grew gn)
                first
                  | have HU2 := Hid.mk' (HU2.out.grew (Grew.trans ((Grew.refl _).alloc _) gn))
                  | have HU2 := Hid.mk' (((one_lst _ fn fh fz).grew ((Grew.refl _).alloc _)).grew gn)
                  | skip
                have gx : Grew W0 wn := Grew.trans (by repeat (first | with_reducible exact GQ.out | with_reducible exact .refl _ | refine .alloc ?_ _ | refine .drewN ?_ _ | refine .drew ?_)) gn
                clear GQ
                have GQ := Hid.mk' gx
                have s0 := cell_grew z0 gx
                have s1 := cell_grew z1 gx
                have s2 := cell_grew z2 gx
                clear gx gn
                try rw [alloc_size] at HU1
                try rw [alloc_size] at HU2)
             | (with_reducible refine (CL.out _ _).mono ?_
                rintro en wn ⟨rfl, gn⟩
                have HU2 := Hid.mk' ((one_lst _ fn fh fz).grew gn)
                first
                  | have HU1 := Hid.mk' (HU1.out.grew (Grew.trans ((Grew.refl _).alloc _) gn))
                  | have HU1 := Hid.mk' (((one_lst _ 5 tp true).grew ((Grew.refl _).alloc _)).grew gn)
                have gx : Grew W0 wn := Grew.trans (by repeat (first | with_reducible exact GQ.out | with_reducible exact .refl _ | refine .alloc ?_ _ | refine .drewN ?_ _ | refine .drew ?_)) gn
                clear GQ
                have GQ := Hid.mk' gx
                have s0 := cell_grew z0 gx
                have s1 := cell_grew z1 gx
                have s2 := cell_grew z2 gx
                clear gx gn
                try rw [alloc_size] at HU1
                try rw [alloc_size] at HU2)
             | (with_reducible refine (CL.out _ _).mono ?_
                rintro en wn ⟨rfl, gn⟩
                have HU1 := Hid.mk' (HU1.out.grew gn)
                have HU2 := Hid.mk' (HU2.out.grew gn)
                have gx : Grew W0 wn := Grew.trans (by repeat (first | with_reducible exact GQ.out | with_reducible exact .refl _ | refine .alloc ?_ _ | refine .drewN ?_ _ | refine .drew ?_)) gn
                clear GQ
                have GQ := Hid.mk' gx
                have s0 := cell_grew z0 gx
                have s1 := cell_grew z1 gx
                have s2 := cell_grew z2 gx
                clear gx gn
                try rw [alloc_size] at HU1
                try rw [alloc_size] at HU2)
             | (with_reducible refine (CS.out _ _ _ _ _ (G9.out.trans GQ.out) HU1.out HU2.out (by simp) (fun a n c e => by
                  injection e with e1 _ _
                  injection e1 with e1
                  subst e1
                  exact lv_lt HU2.out)).mono ?_
                rintro en w9 ⟨e9, rfl, he9, k9, t9⟩
                have K9 := Hid.mk' ((Grew.kb (G9.out.trans GQ.out) HB.out).trans k9)
                have H9 := Hid.mk' he9
                have s0 := two_cell t9 (cell_grew z0 GQ.out) huC
                have s1 := two_cell t9 (cell_grew z1 GQ.out) huC
                have s2 := two_cell t9 (cell_grew z2 GQ.out) huC
                clear he9 k9 t9)
             | fail)
          all_goals
            go_wp2_with fail
            go_ret
            exact ⟨_, rfl, H9.out, K9.out⟩
      · have e1 : (e2 == 0) = false := by rw [beq_eq_false_iff_ne]; exact h0
        clear h0
        go_wp2_with fail
        go_ret
        exact ⟨_, rfl, by decide, Grew.kb (by repeat (first | with_reducible exact GP.out | with_reducible exact .refl _ | refine .alloc ?_ _ | refine .set ?_ (by first | (simp; done) | (have := GP.out.2; simp; omega)) _ | refine .drewN ?_ _ | refine .drew ?_)) HB.out⟩
end
end Go.Proofs.YtnmbniojejckpaaGreatDoor
