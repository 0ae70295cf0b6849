/-
  vref's steps at one field on a fresh checker; no statement is proved here.
-/
import Derived.Test.YtnmbniojejckpaaGreatDoorVfX
import Derived.Test.YtnmbniojejckpaaGreatDoorVfSa
import Derived.Deep.RegionHeld3
set_option maxRecDepth 100000
set_option maxHeartbeats 8000000
namespace Go.Proofs.YtnmbniojejckpaaGreatDoor
open Go.RowKit
set_option linter.unusedVariables false
set_option linter.unusedSimpArgs false
section
variable {w : World} {cx : Array Value} {TT : List RT} {FL : List Int} {EL : List VT} {RB : List Bool} {dt : Int}
variable {B C : Nat}
theorem cell_of_same {W W' : World} {b j : Nat} {v : Value} (h : W'.heap[b]? = W.heap[b]?) (hc : W.cell? ⟨b, j, none⟩ = some v) : W'.cell? ⟨b, j, none⟩ = some v := by
  unfold World.cell? at hc ⊢
  rw [h]; exact hc
theorem blk_name {W : World} {b : Nat} {o : Obj} (h : W.heap[b]? = some o) : ∃ v, v = b := ⟨b, rfl⟩
theorem atField1_z (F : FRS B C w) (hc : CTX w cx TT FL EL RB dt) {X : World} (g : Grew w X) {r p q : Nat} {es : Array Value} {k : Int} {s pk : Bool} (hr : X.heap[r]? = some (.cells #[.int .i64 k, .bool s, .bool pk] 134 (0, 0))) (hx : X.heap[p]? = some (.cells cx 30 (0, 0))) (hq : X.heap[q]? = some (.cells es 52 (0, 0))) (hes : es.size = 17) {n ny : Nat} (h32 : n < 4294967296) (h1 : es[1]? = some (.int .u32 (n : Int))) (h322 : ny < 4294967296) (h2 : es[2]? = some (.int .u32 (ny : Int))) (hqC : q ≠ C) (hrC : r ≠ C) : Calls Tryz.prog 76 #[.pointer (some ⟨C, 0, none⟩), .pointer (some ⟨r, 0, none⟩), .pointer (some ⟨p, 0, none⟩), .pointer (some ⟨q, 0, none⟩)] X (Z6 B X) := by
  have CE : Hid (∀ Y, Grew X Y → Calls Tryz.prog 77 #[.agg #[.int .i64 k, .bool s, .bool pk], .agg cx, .agg es] Y (FtQ Y)) := fun Y gy => field_any hc hes h32 h1 h322 h2 k s pk (g.trans gy)
  have CG : Hid (∀ (n h : Int) (z m : Bool) Y, Calls Tryz.prog 78 #[.agg #[.int .i64 k, .bool s, .bool pk], .agg #[.int .i64 n, .bool z, .int .i64 h, .bool m]] Y (ErQ Y)) := fun n h z m Y => against_any k s pk n h z m Y
  have hsz := hc.sz
  have HX := Hid.mk' hx
  have HQ := Hid.mk' hq
  have r0 := cell_of hr 0
  have r1 := cell_of hr 1
  have r2 := cell_of hr 2
  simp at r0 r1 r2
  have lr := lt_of_obj hr
  have q1 := (cell_of hq 1).trans h1
  have GP : Hid (Grew X X) := Grew.refl X
  have CS : Hid (∀ Y (v : Value) (l : List VT), Grew X Y → LV Y v l → Calls Tryz.prog 17 #[.pointer (some ⟨C, 0, none⟩), v] Y (Z6T B C Y)) := fun Y v l gy => F.pops Y v l (g.trans gy)
  have CW : Hid (∀ Y (v u : Value) (li lu : List VT), Grew X Y → LV Y v li → LV Y u lu → lu.length ≤ 8000000 → (∀ a n c, u = .slice (some a) n c → a.block < Y.heap.size) → Calls Tryz.prog 67 #[.pointer (some ⟨C, 0, none⟩), v, u] Y (Z6T B C Y)) := fun Y v u li lu gy => F.swap Y v u li lu (g.trans gy)
  have CD : Hid (∀ Y, Calls Tryz.prog 79 #[.bool true, .int .u32 (n : Int)] Y fun en w' => en = .returned (.agg #[.int .i64 5, .bool true, .int .i64 (n : Int)]) ∧ Grew Y w') := fun Y => qdefined_any true n h32 Y
  have CU : Hid (∀ Y (n h : Int) (z : Bool), Calls Tryz.prog 71 #[.agg #[.int .i64 n, .bool z, .int .i64 h]] Y (VtQ Y)) := fun Y n h z => unpack_any n h z Y
  have CI : Hid (∀ Y, Calls Tryz.prog 34 #[] Y fun en w' => en = .returned (.agg #[.int .i64 1, .bool false, .int .i64 0]) ∧ Grew Y w') := q32_any
  have CL : Hid (∀ v Y, Calls Tryz.prog 32 #[v] Y fun en w' => en = .returned v ∧ Grew Y w') := ql_any
  have HB := Hid.mk' (Nat.le_trans F.hB g.2)
  have HC := Hid.mk' (Nat.lt_of_lt_of_le F.hC g.2)
  clear F hc g hx hq hr h32 h1 h322 h2
  go_enter Tryz.func76, Tryz.ntmps76
  go_wp2_with (first
    | (with_reducible refine stop_load 30 rfl ?_
       unfold Stop
       refine wpList_load_row rfl 30 _ rfl p (by go_simp) 30 cx (0, 0) _ HX.out Tryz.underlying30 rfl (by rw [hsz]; kernel_rfl) ?_)
    | (with_reducible refine stop_load 52 rfl ?_
       unfold Stop
       refine wpList_load_row rfl 52 _ rfl q (by go_simp) 52 es (0, 0) _ HQ.out Tryz.underlying52 rfl (by rw [hes]; kernel_rfl) ?_)
    | fail)
  refine (CE.out _ (Grew.refl X)).mono ?_
  rintro en w1 ⟨a, b, c, d, e, rfl, he, g1⟩
  clear GP
  have GP := Hid.mk' g1
  have H6 := Hid.mk' he
  have r01 := cell_grew r0 g1
  have r11 := cell_grew r1 g1
  have r21 := cell_grew r2 g1
  have q11 := cell_grew q1 g1
  have lr1 := lt_of_cell r01
  clear CE HX HQ he g1 r0 r1 r2 lr q1
  by_cases h0 : e = 0
  · subst h0
    go_wp2_with fail
    refine (CG.out _ _ _ _ _).mono ?_
    rintro en w2 ⟨e2, rfl, he2, g2⟩
    obtain ⟨t, ht⟩ : ∃ t, t = w1.heap.size := ⟨_, rfl⟩
    have hCt : t ≠ C := by have := HC.out; have := GP.out.2; omega
    have NT0 := heap_alloc_last w1 (.cells #[.int .i64 a, .bool b, .int .i64 c, .bool d] 112)
    have gq : Grew w1 w2 := ((Grew.refl _).alloc _).trans g2
    have gx : Grew X w2 := GP.out.trans gq
    have NT := (g2.turn []).other NT0 (by simp)
    rw [← ht] at NT
    simp only [← ht]
    have s0 := cell_grew r01 gq
    have s1 := cell_grew r11 gq
    have s2 := cell_grew r21 gq
    have q12 := cell_grew q11 gq
    clear GP
    have GP := Hid.mk' gx
    have H62 := Hid.mk' he2
    clear gx gq g2 he2 NT0 ht CG r01 r11 r21 q11 lr1
    have lr2 := lt_of_cell s0
    have lq2 := lt_of_cell q12
    have lt2 := lt_of_obj NT
    have z0 := cell_of NT 0
    have z1 := cell_of NT 1
    have z2 := cell_of NT 2
    simp at z0 z1 z2
    clear NT
    by_cases h0 : e2 = 0
    · subst h0
      go_wp2_with fail
      have GQ : Hid (Grew w2 w2) := Grew.refl _
      go_region_held3 (fun Y => Y.cell? ⟨t, 0, none⟩ = some (.int .i64 a) ∧ Y.cell? ⟨t, 1, none⟩ = some (.bool b) ∧ Y.cell? ⟨t, 2, none⟩ = some (.int .i64 c) ∧ Y.cell? ⟨q, 1, none⟩ = some (.int .u32 (n : Int))) (first | (go_keep) | (refine ⟨?_, ?_, ?_, ?_⟩ <;> (repeat rw [World.cell?_setCell_far _ _ _ _ (by show _ ≠ _; try simp only [alloc_size]; omega)]) <;> assumption)) (first
        | (with_reducible refine (CD.out _).mono ?_
           rintro en wn ⟨rfl, gn⟩
           first
             | have HV := Hid.mk' (obj_grew gn (heap_alloc_last _ (.cells #[.int .i64 0, .bool false, .int .i64 0] 46)))
             | skip
           try have lv0 := lt_of_obj HV.out
           have gx : Grew w2 wn := Grew.trans (by repeat (first | with_reducible exact GQ.out | with_reducible exact .refl _ | refine .alloc ?_ _ | refine .drewN ?_ _ | refine .drew ?_)) gn
           clear GQ
           have GQ := Hid.mk' gx
           have gsz := gx.2
           have u0 := cell_grew z0 gx
           have u1 := cell_grew z1 gx
           have u2 := cell_grew z2 gx
           have u3 := cell_grew q12 gx
           clear gx gn
           try rw [alloc_size] at HV
           try rw [alloc_size] at HL)
        | (with_reducible refine (CL.out _ _).mono ?_
           rintro en wn ⟨rfl, gn⟩
           first
             | have HL := Hid.mk' (obj_grew gn (heap_alloc (heap_alloc_last _ (.cells #[.int .i64 5, .bool true, .int .i64 (n : Int)] 46)) (.cells #[.int .i64 0, .bool false, .int .i64 0] 46)))
             | have HL := Hid.mk' (obj_grew gn (heap_alloc_last _ (.cells #[.int .i64 5, .bool true, .int .i64 (n : Int)] 46)))
           first
             | have HV := Hid.mk' (obj_grew (Grew.trans ((Grew.refl _).alloc _) gn) HV.out)
             | have HV := Hid.mk' (obj_grew gn (heap_alloc (heap_alloc_last _ (.cells #[.int .i64 0, .bool false, .int .i64 0] 46)) (.cells #[.int .i64 5, .bool true, .int .i64 (n : Int)] 46)))
             | have HV := Hid.mk' (obj_grew gn (heap_alloc_last _ (.cells #[.int .i64 0, .bool false, .int .i64 0] 46)))
             | skip
           have ll0 := lt_of_obj HL.out
           have gx : Grew w2 wn := Grew.trans (by repeat (first | with_reducible exact GQ.out | with_reducible exact .refl _ | refine .alloc ?_ _ | refine .drewN ?_ _ | refine .drew ?_)) gn
           clear GQ
           have GQ := Hid.mk' gx
           have gsz := gx.2
           have u0 := cell_grew z0 gx
           have u1 := cell_grew z1 gx
           have u2 := cell_grew z2 gx
           have u3 := cell_grew q12 gx
           clear gx gn
           try rw [alloc_size] at HV
           try rw [alloc_size] at HL)
        | (with_reducible refine (CU.out _ _ _ _).mono ?_
           rintro en wn ⟨ua, ub, uc, rfl, gn⟩
           first
             | have HL := Hid.mk' (obj_grew gn HL.out)
             | have HL := Hid.mk' (obj_grew (Grew.trans ((Grew.refl _).alloc _) gn) HL.out)
           first
             | have HV := Hid.mk' (obj_grew gn HV.out)
             | have HV := Hid.mk' (obj_grew gn (heap_alloc_last _ (.cells #[.int .i64 0, .bool false, .int .i64 0] 46)))
             | skip
           have gx : Grew w2 wn := Grew.trans (by repeat (first | with_reducible exact GQ.out | with_reducible exact .refl _ | refine .alloc ?_ _ | refine .drewN ?_ _ | refine .drew ?_)) gn
           clear GQ
           have GQ := Hid.mk' gx
           have gsz := gx.2
           have u0 := cell_grew z0 gx
           have u1 := cell_grew z1 gx
           have u2 := cell_grew z2 gx
           have u3 := cell_grew q12 gx
           clear gx gn
           try rw [alloc_size] at HV
           try rw [alloc_size] at HL
           try have v0 := cell_of HV.out 0
           try have v1 := cell_of HV.out 1
           try have v2 := cell_of HV.out 2
           try have f0 := free_of HV.out 0
           try have f1 := free_of HV.out 1
           try have f2 := free_of HV.out 2
           try have lv := lt_of_obj HV.out
           try simp at v0 v1 v2)
        | fail)
      all_goals
        first
        | (have hv := HV.out
           have hl := HL.out
           obtain ⟨vb, hvb⟩ := blk_name hv
           obtain ⟨lb, hlb⟩ := blk_name hl
           have hge : w2.heap.size ≤ vb := by rw [hvb]; omega
           have hlg : w2.heap.size ≤ lb := by rw [hlb]; omega
           have hne : lb ≠ vb := by rw [hvb, hlb]; omega
           rw [← hvb] at hv
           try rw [← hvb] at hlb
           try rw [← hvb] at hl
           rw [← hlb] at hl
           simp only [← hvb]
           simp only [← hlb]
           have b3 := heap_set (heap_set (heap_set hv 0 (.int .i64 ua)) 1 (.bool ub)) 2 (.int .i64 uc)
           have hl := (Below.heap_setCell _ ⟨vb, 0, none⟩ (.int .i64 ua) lb (by simpa using hne)).trans hl
           have hl := (Below.heap_setCell _ ⟨vb, 1, none⟩ (.bool ub) lb (by simpa using hne)).trans hl
           have hl := (Below.heap_setCell _ ⟨vb, 2, none⟩ (.int .i64 uc) lb (by simpa using hne)).trans hl
           have G2 : Grew w2 (((wn.setCell ⟨vb, 0, none⟩ (.int .i64 ua)).setCell ⟨vb, 1, none⟩ (.bool ub)).setCell ⟨vb, 2, none⟩ (.int .i64 uc)) := ((GQ.out.set (p := ⟨vb, 0, none⟩) hge (.int .i64 ua)).set (p := ⟨vb, 1, none⟩) hge (.bool ub)).set (p := ⟨vb, 2, none⟩) hge (.int .i64 uc)
           generalize ((wn.setCell ⟨vb, 0, none⟩ (.int .i64 ua)).setCell ⟨vb, 1, none⟩ (.bool ub)).setCell ⟨vb, 2, none⟩ (.int .i64 uc) = Wf at *
           have s09 := cell_grew s0 G2
           have s19 := cell_grew s1 G2
           have s29 := cell_grew s2 G2
           have HO : Hid (RowV w2.heap.size Wf (.slice (some ⟨lb, 0, none⟩) 1 1) [⟨5, true, (n : Int)⟩]) := ⟨rfl, Or.inr ⟨lb, 1, _, rfl, hlg, hl, Nat.le_refl _, by decide, rfl, rfl⟩⟩
           have HW2 := Hid.mk' G2
           have HB3 := Hid.mk' b3
           have hvl : Hid (lb ≠ vb) := hne
           clear hv hl hlb hvb HV HL v0 v1 v2 f0 f1 f2 lv)
        | (have b3 := heap_alloc_last wn (.cells #[.int .i64 ua, .bool ub, .int .i64 uc] 46)
           have hl := heap_alloc HL.out (.cells #[.int .i64 ua, .bool ub, .int .i64 uc] 46)
           have hlt := lt_of_obj HL.out
           obtain ⟨lb, hlb⟩ := blk_name HL.out
           have hlg : w2.heap.size ≤ lb := by rw [hlb]; omega
           have hne : lb ≠ wn.heap.size := by rw [hlb]; omega
           have hge : w2.heap.size ≤ wn.heap.size := GQ.out.2
           have G2 : Grew w2 (wn.alloc (.cells #[.int .i64 ua, .bool ub, .int .i64 uc] 46)) := GQ.out.alloc _
           rw [← hlb] at hl
           simp only [← hlb]
           generalize wn.alloc (.cells #[.int .i64 ua, .bool ub, .int .i64 uc] 46) = Wf at *
           obtain ⟨vb, hvb⟩ : ∃ vb, vb = wn.heap.size := ⟨_, rfl⟩
           rw [← hvb] at b3 hne hge
           simp only [← hvb]
           have s09 := cell_grew s0 G2
           have s19 := cell_grew s1 G2
           have s29 := cell_grew s2 G2
           have HO : Hid (RowV w2.heap.size Wf (.slice (some ⟨lb, 0, none⟩) 1 1) [⟨5, true, (n : Int)⟩]) := ⟨rfl, Or.inr ⟨lb, 1, _, rfl, hlg, hl, Nat.le_refl _, by decide, rfl, rfl⟩⟩
           have HW2 := Hid.mk' G2
           have HB3 := Hid.mk' b3
           have hvl : Hid (lb ≠ vb) := hne
           clear hl hlb hvb HL hlt)
        clear GQ u0 u1 u2 u3 CU CD H6 H62 hes hsz z0 z1 z2 q12 s0 s1 s2 G2 b3 hne
        have lsk := lt_of_cell s09
        have hrl : Hid (r ≠ lb) := by show r ≠ lb; omega
        cases s
        · by_cases hk : k = 3
          · subst hk
            go_wp2_with fail
            refine (CI.out _).mono ?_
            rintro en w5 ⟨rfl, g5⟩
            have R5 := Hid.mk' (HO.out.grew g5)
            have HW5 := Hid.mk' (HW2.out.trans g5)
            have B5 := Hid.mk' (obj_grew g5 HB3.out)
            have t15 := cell_grew s19 g5
            have lr5 := lt_of_cell t15
            have hgs : w2.heap.size ≤ w5.heap.size := HW5.out.2
            clear g5 s09 s19 s29 lsk HO HW2 HB3
            go_wp2_with (at_builtin; refine wp_app1 (v := .slice (some ⟨lb, 0, none⟩) 1 1) (n := 1) (cs := [(⟨5, true, (n : Int)⟩ : VT)].flatMap VT.c) (B := w2.heap.size) rfl _ _ 27 46 3 24 _ Tryz.underlying27 infoV rfl (by decide) (by decide) rfl w2.heap.size rfl rfl R5.out hgs rfl (by simp [Value.oneCell']) (by omega) ?_; intro v6 w6 hO6 hT6 hG6; have gx6 := hT6.grew' HW5.out (Nat.le_refl _) (Nat.le_refl _); have hR6 : RowV w2.heap.size w6 v6 [(⟨5, true, (n : Int)⟩ : VT), (⟨1, false, 0⟩ : VT)] := RowV.snoc (a := ⟨1, false, 0⟩) hO6; have b6 := (hG6 vb (lt_of_obj B5.out) (fun h => hvl.out (Option.some.inj h).symm)).trans B5.out; have t16 := cell_of_same (hG6 r (lt_of_cell t15) (fun h => hrl.out (Option.some.inj h))) t15; have HR6 := Hid.mk' hR6; obtain ⟨ra, rc, hra⟩ := row_one hR6; subst hra; have HX6 := Hid.mk' gx6; have hgs := gx6.2; have lr6 := lt_of_cell t16; have y0 := cell_of b6 0; have y1 := cell_of b6 1; have y2 := cell_of b6 2; have ly := lt_of_obj b6; simp at y0 y1 y2; clear gx6 hO6 hT6 hG6 hR6 b6 t15 R5 HW5 B5)
            refine (CL.out _ _).mono ?_
            rintro en w7 ⟨rfl, g7⟩
            have g7' : Grew (w6.alloc (.cells #[.int .i64 ua, .bool ub, .int .i64 uc] 46)) w7 := g7
            have HU := Hid.mk' ((one_lst w6 ua uc ub).grew g7')
            have gx7 : Grew X w7 := (GP.out.trans HX6.out).trans (Grew.trans ((Grew.refl _).alloc _) g7')
            have HR7 := Hid.mk' ((HR6.out.grew (Grew.trans ((Grew.refl _).alloc _) g7')).lst)
            have HX7 := Hid.mk' gx7
            have hbl : w6.heap.size < w7.heap.size := Nat.lt_of_lt_of_le (by rw [alloc_size]; omega) g7'.2
            have HL7 := Hid.mk' hbl
            clear g7 g7' gx7 hbl y0 y1 y2 ly
            go_wp2_with fail
            refine (CW.out _ _ _ _ _ HX7.out HR7.out HU.out (by simp) (fun a n c e => by
              injection e with e1 _ _
              injection e1 with e1
              subst e1
              exact HL7.out)).mono ?_
            rintro en w9 ⟨e9, rfl, he9, k9, t9⟩
            have K9 := Hid.mk' ((Grew.kb HX7.out HB.out).trans k9)
            have H9 := Hid.mk' he9
            clear he9 k9 t9
            go_wp2_with fail
            go_ret
            exact ⟨_, rfl, H9.out, K9.out⟩
          · have ek : (k == 3) = false := by rw [beq_eq_false_iff_ne]; exact hk
            clear hk
            have hgs : w2.heap.size ≤ Wf.heap.size := HW2.out.2
            have y0 := cell_of HB3.out 0
            have y1 := cell_of HB3.out 1
            have y2 := cell_of HB3.out 2
            have ly := lt_of_obj HB3.out
            simp at y0 y1 y2
            go_wp2_with fail
            refine (CL.out _ _).mono ?_
            rintro en w7 ⟨rfl, g7⟩
            have g7' : Grew (Wf.alloc (.cells #[.int .i64 ua, .bool ub, .int .i64 uc] 46)) w7 := g7
            have HU := Hid.mk' ((one_lst Wf ua uc ub).grew g7')
            have gx7 : Grew X w7 := (GP.out.trans HW2.out).trans (Grew.trans ((Grew.refl _).alloc _) g7')
            have HR7 := Hid.mk' ((HO.out.grew (Grew.trans ((Grew.refl _).alloc _) g7')).lst)
            have HX7 := Hid.mk' gx7
            have hbl : Wf.heap.size < w7.heap.size := Nat.lt_of_lt_of_le (by rw [alloc_size]; omega) g7'.2
            have HL7 := Hid.mk' hbl
            clear g7 g7' gx7 hbl y0 y1 y2 ly
            go_wp2_with fail
            refine (CW.out _ _ _ _ _ HX7.out HR7.out HU.out (by simp) (fun a n c e => by
              injection e with e1 _ _
              injection e1 with e1
              subst e1
              exact HL7.out)).mono ?_
            rintro en w9 ⟨e9, rfl, he9, k9, t9⟩
            have K9 := Hid.mk' ((Grew.kb HX7.out HB.out).trans k9)
            have H9 := Hid.mk' he9
            clear he9 k9 t9
            go_wp2_with fail
            go_ret
            exact ⟨_, rfl, H9.out, K9.out⟩
        · by_cases hk : k = 3
          · subst hk
            go_wp2_with fail
            refine (CI.out _).mono ?_
            rintro en w5 ⟨rfl, g5⟩
            have R5 := Hid.mk' (HO.out.grew g5)
            have HW5 := Hid.mk' (HW2.out.trans g5)
            have B5 := Hid.mk' (obj_grew g5 HB3.out)
            have t15 := cell_grew s19 g5
            have lr5 := lt_of_cell t15
            have hgs : w2.heap.size ≤ w5.heap.size := HW5.out.2
            clear g5 s09 s19 s29 lsk HO HW2 HB3
            go_wp2_with (first | (at_builtin; refine wp_app1 (v := .slice (some ⟨lb, 0, none⟩) 1 1) (n := 1) (cs := [(⟨5, true, (n : Int)⟩ : VT)].flatMap VT.c) (B := w2.heap.size) rfl _ _ 27 46 3 24 _ Tryz.underlying27 infoV rfl (by decide) (by decide) rfl w2.heap.size rfl rfl R5.out hgs rfl (by simp [Value.oneCell']) (by omega) ?_; intro v6 w6 hO6 hT6 hG6; have gx6 := hT6.grew' HW5.out (Nat.le_refl _) (Nat.le_refl _); have hR6 : RowV w2.heap.size w6 v6 [(⟨5, true, (n : Int)⟩ : VT), (⟨1, false, 0⟩ : VT)] := RowV.snoc (a := ⟨1, false, 0⟩) hO6; have b6 := (hG6 vb (lt_of_obj B5.out) (fun h => hvl.out (Option.some.inj h).symm)).trans B5.out; have t16 := cell_of_same (hG6 r (lt_of_cell t15) (fun h => hrl.out (Option.some.inj h))) t15; have HR6 := Hid.mk' hR6; obtain ⟨ra, rc, hra⟩ := row_one hR6; subst hra; have HX6 := Hid.mk' gx6; have hgs := gx6.2; have lr6 := lt_of_cell t16; have y0 := cell_of b6 0; have y1 := cell_of b6 1; have y2 := cell_of b6 2; have ly := lt_of_obj b6; simp at y0 y1 y2; clear gx6 hO6 hT6 hG6 hR6 b6 t15 R5 HW5 B5) | (at_builtin; refine wp_app1 (v := .slice ra 2 rc) (n := 2) (cs := [(⟨5, true, (n : Int)⟩ : VT), (⟨1, false, 0⟩ : VT)].flatMap VT.c) (B := w2.heap.size) rfl _ _ 27 46 3 24 _ Tryz.underlying27 infoV rfl (by decide) (by decide) rfl w2.heap.size rfl rfl HR6.out hgs rfl (by simp [Value.oneCell']) (by omega) ?_; intro v8 w8 hO8 hT8 hG8; have gx8 := GP.out.trans (hT8.grew' HX6.out (Nat.le_refl _) (Nat.le_refl _)); have hR8 : RowV w2.heap.size w8 v8 ([(⟨5, true, (n : Int)⟩ : VT), (⟨1, false, 0⟩ : VT)] ++ [⟨ua, ub, uc⟩]) := RowV.snoc (a := ⟨ua, ub, uc⟩) hO8; have HR8 := Hid.mk' hR8.lst; have HX8 := Hid.mk' gx8; clear gx8 hO8 hT8 hG8 hR8))
            refine (CS.out _ _ _ HX8.out HR8.out).mono ?_
            rintro en w9 ⟨e9, rfl, he9, k9, t9⟩
            have K9 := Hid.mk' ((Grew.kb HX8.out HB.out).trans k9)
            have H9 := Hid.mk' he9
            clear he9 k9 t9
            go_wp2_with fail
            go_ret
            exact ⟨_, rfl, H9.out, K9.out⟩
          · have ek : (k == 3) = false := by rw [beq_eq_false_iff_ne]; exact hk
            clear hk
            have hgs : w2.heap.size ≤ Wf.heap.size := HW2.out.2
            have y0 := cell_of HB3.out 0
            have y1 := cell_of HB3.out 1
            have y2 := cell_of HB3.out 2
            have ly := lt_of_obj HB3.out
            simp at y0 y1 y2
            go_wp2_with ((at_builtin; refine wp_app1 (v := .slice (some ⟨lb, 0, none⟩) 1 1) (n := 1) (cs := [(⟨5, true, (n : Int)⟩ : VT)].flatMap VT.c) (B := w2.heap.size) rfl _ _ 27 46 3 24 _ Tryz.underlying27 infoV rfl (by decide) (by decide) rfl w2.heap.size rfl rfl HO.out hgs rfl (by simp [Value.oneCell']) (by omega) ?_; intro v8 w8 hO8 hT8 hG8; have gx8 := GP.out.trans (hT8.grew' HW2.out (Nat.le_refl _) (Nat.le_refl _)); have hR8 : RowV w2.heap.size w8 v8 ([(⟨5, true, (n : Int)⟩ : VT)] ++ [⟨ua, ub, uc⟩]) := RowV.snoc (a := ⟨ua, ub, uc⟩) hO8; have HR8 := Hid.mk' hR8.lst; have HX8 := Hid.mk' gx8; clear gx8 hO8 hT8 hG8 hR8))
            refine (CS.out _ _ _ HX8.out HR8.out).mono ?_
            rintro en w9 ⟨e9, rfl, he9, k9, t9⟩
            have K9 := Hid.mk' ((Grew.kb HX8.out HB.out).trans k9)
            have H9 := Hid.mk' he9
            clear he9 k9 t9
            go_wp2_with fail
            go_ret
            exact ⟨_, rfl, H9.out, K9.out⟩
    · have e1 : (e2 == 0) = false := by rw [beq_eq_false_iff_ne]; exact h0
      clear h0
      go_wp2_with fail
      go_ret
      exact ⟨_, rfl, H62.out, Grew.kb (by repeat (first | with_reducible exact GP.out | with_reducible exact .refl _ | refine .alloc ?_ _ | refine .set ?_ (by first | (simp; done) | (have := GP.out.2; simp; omega)) _ | refine .drewN ?_ _ | refine .drew ?_)) HB.out⟩
  · have e1 : (e == 0) = false := by rw [beq_eq_false_iff_ne]; exact h0
    clear h0
    go_wp2_with fail
    go_ret
    exact ⟨_, rfl, H6.out, Grew.kb (by repeat (first | with_reducible exact GP.out | with_reducible exact .refl _ | refine .alloc ?_ _ | refine .set ?_ (by first | (simp; done) | (have := GP.out.2; simp; omega)) _ | refine .drewN ?_ _ | refine .drew ?_)) HB.out⟩
end
end Go.Proofs.YtnmbniojejckpaaGreatDoor
