/-
  vref's array.copy on a fresh checker; no statement is proved here.
-/
import Derived.Test.YtnmbniojejckpaaGreatDoorVfO
import Derived.Test.YtnmbniojejckpaaGreatDoorVfK
import Derived.Deep.RegionHeld3
set_option maxRecDepth 100000
set_option maxHeartbeats 8000000
namespace Go.Proofs.YtnmbniojejckpaaGreatDoor
open Go.RowKit
set_option linter.unusedVariables false
set_option linter.unusedSimpArgs false
section
variable {w : World} {cx : Array Value} {TT : List RT} {FL : List Int} {EL : List VT} {RB : List Bool} {dt : Int}
variable {B C : Nat}
theorem arrayCopy1_z (F : FRS B C w) (hc : CTX w cx TT FL EL RB dt) {X : World} (g : Grew w X) {p q : Nat} {es : Array Value} (hx : X.heap[p]? = some (.cells cx 30 (0, 0))) (hq : X.heap[q]? = some (.cells es 52 (0, 0))) {n : Nat} (h32 : n < 4294967296) (h1 : es[1]? = some (.int .u32 (n : Int))) (hqC : q ≠ C) {ny : Nat} (h322 : ny < 4294967296) (h2 : es[2]? = some (.int .u32 (ny : Int))) : Calls Tryz.prog 90 #[.pointer (some ⟨C, 0, none⟩), .pointer (some ⟨p, 0, none⟩), .pointer (some ⟨q, 0, none⟩)] X (Z6 B X) := by
  have CE : Hid (∀ Y, Grew X Y → Calls Tryz.prog 81 #[.agg cx, .int .u32 (n : Int)] Y (FtQ Y)) := fun Y gy => element_any hc n h32 (g.trans gy)
  have hsz := hc.sz
  have HX := Hid.mk' hx
  have q1 := (cell_of hq 1).trans h1
  have GP : Hid (Grew X X) := Grew.refl X
  have CS : Hid (∀ Y (v : Value) (l : List VT), Grew X Y → LV Y v l → Calls Tryz.prog 17 #[.pointer (some ⟨C, 0, none⟩), v] Y (Z6T B C Y)) := fun Y v l gy => F.pops Y v l (g.trans gy)
  have HB := Hid.mk' (Nat.le_trans F.hB g.2)
  have CD : Hid (∀ Y, Calls Tryz.prog 79 #[.bool true, .int .u32 (n : Int)] Y fun en w' => en = .returned (.agg #[.int .i64 5, .bool true, .int .i64 (n : Int)]) ∧ Grew Y w') := fun Y => qdefined_any true n h32 Y
  have HC := Hid.mk' (Nat.lt_of_lt_of_le F.hC g.2)
  have CF : Hid (∀ Y, Grew X Y → Calls Tryz.prog 81 #[.agg cx, .int .u32 (ny : Int)] Y (FtQ Y)) := fun Y gy => element_any hc ny h322 (g.trans gy)
  have q2 := (cell_of hq 2).trans h2
  obtain ⟨tv, ht0, hl0⟩ := hc.types
  have CV : Hid (∀ (r s : VT) Y, Grew X Y → Calls Tryz.prog 87 #[tv, .agg #[.int .i64 r.num, .bool r.null, .int .i64 r.heap], .agg #[.int .i64 s.num, .bool s.null, .int .i64 s.heap]] Y fun en w' => en = .returned (.bool (valS TT r s)) ∧ Grew Y w') := fun r s Y gy => subVal_any (hl0.grew (g.trans gy)) hc.fit (hc.tab.grew (g.trans gy)) r s
  obtain ⟨ta, tc, et, _⟩ := hl0.one
  subst et
  have p0 := (cell_of hx 0).trans ht0
  have CY : Hid (∀ Y, Calls Tryz.prog 79 #[.bool true, .int .u32 (ny : Int)] Y fun en w' => en = .returned (.agg #[.int .i64 5, .bool true, .int .i64 (ny : Int)]) ∧ Grew Y w') := fun Y => qdefined_any true ny h322 Y
  clear hl0 h2 h322
  have CI : Hid (∀ Y, Calls Tryz.prog 34 #[] Y fun en w' => en = .returned (.agg #[.int .i64 1, .bool false, .int .i64 0]) ∧ Grew Y w') := q32_any
  have CL : Hid (∀ v Y, Calls Tryz.prog 32 #[v] Y fun en w' => en = .returned v ∧ Grew Y w') := ql_any
  clear F hc g h32 hq h1
  go_enter Tryz.func90, Tryz.ntmps90
  go_wp2_with (first
    | (with_reducible refine stop_load 30 rfl ?_
       unfold Stop
       refine wpList_load_row rfl 30 _ rfl p (by go_simp) 30 cx (0, 0) _ HX.out Tryz.underlying30 rfl (by rw [hsz]; kernel_rfl) ?_)
    | fail)
  refine (CE.out _ (Grew.refl X)).mono ?_
  rintro en w1 ⟨a, b, c, d, e, rfl, he, g1⟩
  clear GP
  have GP := Hid.mk' g1
  have H6 := Hid.mk' he
  have q11 := cell_grew q1 g1
  have q21 := cell_grew q2 g1
  have p01 := cell_grew p0 g1
  have lq := lt_of_cell q11
  have HX1 := Hid.mk' ((g1.turn []).other HX.out (by simp))
  clear he g1 CE HX hx q1 q2 p0
  by_cases h0 : e = 0
  · subst h0
    have lp := lt_of_obj HX1.out
    have HX2 : Hid ((w1.alloc (.cells #[.int .i64 a, .bool b, .int .i64 c, .bool d] 112)).heap[p]? = some (.cells cx 30 (0, 0))) := heap_alloc HX1.out _
    have gw : Grew w1 (w1.alloc (.cells #[.int .i64 a, .bool b, .int .i64 c, .bool d] 112)) := (Grew.refl _).alloc _
    go_wp2_with (first
      | (with_reducible refine stop_load 30 rfl ?_
         unfold Stop
         refine wpList_load_row rfl 30 _ rfl p (by go_simp) 30 cx (0, 0) _ HX2.out Tryz.underlying30 rfl (by rw [hsz]; kernel_rfl) ?_)
      | fail)
    refine (CF.out _ (by repeat (first | with_reducible exact GP.out | refine .alloc ?_ _))).mono ?_
    rintro en w2 ⟨a2, b2, c2, d2, e2, rfl, he2, g2⟩
    have NT0 := heap_alloc_last w1 (.cells #[.int .i64 a, .bool b, .int .i64 c, .bool d] 112)
    obtain ⟨t, ht⟩ : ∃ t, t = w1.heap.size := ⟨_, rfl⟩
    have hCt : t ≠ C := by have := HC.out; have := GP.out.2; omega
    have gq : Grew w1 w2 := gw.trans g2
    have gx : Grew X w2 := GP.out.trans gq
    have NT := (g2.turn []).other NT0 (by simp)
    have q12 := cell_grew q11 gq
    have q22 := cell_grew q21 gq
    have p02 := cell_grew p01 gq
    rw [← ht] at NT
    simp only [← ht]
    clear GP
    have GP := Hid.mk' gx
    have H62 := Hid.mk' he2
    clear gx g2 gq he2 gw NT0 ht CF HX2 HX1 q11 q21 p01 lq lp
    have lq2 := lt_of_cell q12
    have lp2 := lt_of_cell p02
    have lt2 := lt_of_obj NT
    have z1 := cell_of NT 0
    have z2 := cell_of NT 1
    have z3 := cell_of NT 2
    have z4 := cell_of NT 3
    simp at z1 z2 z3 z4
    by_cases h0 : e2 = 0
    · subst h0
      cases d with
      | false =>
        go_wp2_with fail
        go_ret
        exact ⟨_, rfl, by decide, Grew.kb (by repeat (first | with_reducible exact GP.out | with_reducible exact .refl _ | refine .alloc ?_ _ | refine .set ?_ (by first | (simp; done) | (have := GP.out.2; simp; omega)) _ | refine .drewN ?_ _ | refine .drew ?_)) HB.out⟩
      | true =>
        go_wp2_with fail
        refine (CV.out ⟨a2, b2, c2⟩ ⟨a, b, c⟩ _ (by repeat (first | with_reducible exact GP.out | refine .alloc ?_ _))).mono ?_
        rintro en w3 ⟨rfl, g3⟩
        generalize valS TT ⟨a2, b2, c2⟩ ⟨a, b, c⟩ = r
        have gq : Grew w2 w3 := Grew.trans (by repeat (first | with_reducible exact .refl _ | refine .alloc ?_ _)) g3
        have q13 := cell_grew q12 gq
        have q23 := cell_grew q22 gq
        have gx : Grew X w3 := GP.out.trans gq
        clear GP
        have GP := Hid.mk' gx
        clear gx g3 gq CV q12 q22 p02 lq2 lp2 lt2 z1 z2 z3 z4 NT
        have lq3 := lt_of_cell q13
        cases r with
        | false =>
          go_wp2_with fail
          go_ret
          exact ⟨_, rfl, by decide, Grew.kb (by repeat (first | with_reducible exact GP.out | with_reducible exact .refl _ | refine .alloc ?_ _ | refine .set ?_ (by first | (simp; done) | (have := GP.out.2; simp; omega)) _ | refine .drewN ?_ _ | refine .drew ?_)) HB.out⟩
        | true =>
          have G0 : Hid (Grew X w3) := GP.out
          have GQ : Hid (Grew w3 w3) := Grew.refl w3
          have z0 := q13
          have z1 := q23
          have lz0 := lt_of_cell z0
          have ne0 := hqC
          have ne1 := hqC
          clear q13 q23 GP lq3
          go_wp2_with fail
          go_region_held3 (fun Y => Y.cell? ⟨q, 1, none⟩ = some (.int .u32 (n : Int)) ∧ Y.cell? ⟨q, 2, none⟩ = some (.int .u32 (ny : Int))) (go_keep) (first
              | (with_reducible refine (CD.out _).mono ?_
                 rintro en wn ⟨rfl, gn⟩
                 have gx : Grew w3 wn := Grew.trans (by repeat (first | with_reducible exact GQ.out | with_reducible exact .refl _ | refine .alloc ?_ _ | refine .drewN ?_ _ | refine .drew ?_)) gn
                 clear GQ
                 have GQ := Hid.mk' gx
                 have s0 := cell_grew z0 gx
                 have s1 := cell_grew z1 gx
                 clear gx gn)
              | (with_reducible refine (CY.out _).mono ?_
                 rintro en wn ⟨rfl, gn⟩
                 have gx : Grew w3 wn := Grew.trans (by repeat (first | with_reducible exact GQ.out | with_reducible exact .refl _ | refine .alloc ?_ _ | refine .drewN ?_ _ | refine .drew ?_)) gn
                 clear GQ
                 have GQ := Hid.mk' gx
                 have s0 := cell_grew z0 gx
                 have s1 := cell_grew z1 gx
                 clear gx gn)
              | (with_reducible refine (CI.out _).mono ?_
                 rintro en wn ⟨rfl, gn⟩
                 have gx : Grew w3 wn := Grew.trans (by repeat (first | with_reducible exact GQ.out | with_reducible exact .refl _ | refine .alloc ?_ _ | refine .drewN ?_ _ | refine .drew ?_)) gn
                 clear GQ
                 have GQ := Hid.mk' gx
                 have s0 := cell_grew z0 gx
                 have s1 := cell_grew z1 gx
                 clear gx gn)
              | (with_reducible refine (CL.out _ _).mono ?_
                 rintro en wn ⟨rfl, gn⟩
                 have HU := Hid.mk' ((five_lst _ 5 (n : Int) 1 0 5 (ny : Int) 1 0 1 0 true false true false false).grew gn)
                 have gx : Grew w3 wn := Grew.trans (by repeat (first | with_reducible exact GQ.out | with_reducible exact .refl _ | refine .alloc ?_ _ | refine .drewN ?_ _ | refine .drew ?_)) gn
                 clear GQ
                 have GQ := Hid.mk' gx
                 have s0 := cell_grew z0 gx
                 have s1 := cell_grew z1 gx
                 clear gx gn)
              | (with_reducible refine (CS.out _ _ _ (Grew.trans G0.out GQ.out) HU.out).mono ?_
                 rintro en w9 ⟨e9, rfl, he9, k9, t9⟩
                 have K9 := Hid.mk' ((Grew.kb (Grew.trans G0.out GQ.out) HB.out).trans k9)
                 have H9 := Hid.mk' he9
                 have s0 := two_cell t9 (cell_grew z0 GQ.out) ne0
                 have s1 := two_cell t9 (cell_grew z1 GQ.out) ne1
                 clear he9 k9 t9)
              | fail)
          all_goals
            go_wp2_with fail
            go_ret
            exact ⟨_, rfl, H9.out, K9.out⟩
    · have e1 : (e2 == 0) = false := by rw [beq_eq_false_iff_ne]; exact h0
      clear h0
      go_wp2_with fail
      go_ret
      exact ⟨_, rfl, H62.out, Grew.kb (by repeat (first | with_reducible exact GP.out | with_reducible exact .refl _ | refine .alloc ?_ _ | refine .set ?_ (by first | (simp; done) | (have := GP.out.2; simp; omega)) _ | refine .drewN ?_ _ | refine .drew ?_)) HB.out⟩
  · have e1 : (e == 0) = false := by rw [beq_eq_false_iff_ne]; exact h0
    clear h0
    go_wp2_with fail
    go_ret
    exact ⟨_, rfl, H6.out, Grew.kb (by repeat (first | with_reducible exact GP.out | with_reducible exact .refl _ | refine .alloc ?_ _ | refine .set ?_ (by first | (simp; done) | (have := GP.out.2; simp; omega)) _ | refine .drewN ?_ _ | refine .drew ?_)) HB.out⟩
end
end Go.Proofs.YtnmbniojejckpaaGreatDoor
