/-
  vref's arrays filled, copied, set from a segment, on a fresh checker; no statement is proved here.
-/
import Derived.Test.YtnmbniojejckpaaGreatDoorVfI
import Derived.Deep.RegionHeld3
set_option maxRecDepth 100000
set_option maxHeartbeats 8000000
namespace Go.Proofs.YtnmbniojejckpaaGreatDoor
open Go.RowKit
set_option linter.unusedVariables false
set_option linter.unusedSimpArgs false
section
variable {w : World} {cx : Array Value} {TT : List RT} {FL : List Int} {EL : List VT} {RB : List Bool} {dt : Int}
variable {B C : Nat}
theorem arrayNewFrom1_z (hc : CTX w cx TT FL EL RB dt) {X : World} (g : Grew w X) {p q : Nat} {es : Array Value} (hx : X.heap[p]? = some (.cells cx 30 (0, 0))) (hq : X.heap[q]? = some (.cells es 52 (0, 0))) {n : Nat} (h32 : n < 4294967296) (h1 : es[1]? = some (.int .u32 (n : Int))) {r k ny : Nat} (h322 : ny < 4294967296) (h2 : es[2]? = some (.int .u32 (ny : Int))) (hen : ∀ args W, (callFunc k args).run Tryz.prog W = .ok (.enter k args) W) (nr : X.cell? ⟨r, 0, none⟩ = some (.func (.func k) #[] #[])) (hk : ∀ Y (a c : Int) (b d : Bool), Grew X Y → Calls Tryz.prog k #[.agg cx, .int .u32 (ny : Int), .agg #[.int .i64 a, .bool b, .int .i64 c, .bool d]] Y (ErQ Y)) : Calls Tryz.prog 85 #[.pointer (some ⟨p, 0, none⟩), .pointer (some ⟨q, 0, none⟩), .pointer (some ⟨r, 0, none⟩)] X (TkQ X) := by
  have CE : Hid (∀ Y, Grew X Y → Calls Tryz.prog 81 #[.agg cx, .int .u32 (n : Int)] Y (FtQ Y)) := fun Y gy => element_any hc n h32 (g.trans gy)
  have hsz := hc.sz
  have HX := Hid.mk' hx
  have q1 := (cell_of hq 1).trans h1
  have GP : Hid (Grew X X) := Grew.refl X
  have CK : Hid (∀ Y (a c : Int) (b d : Bool), Grew X Y → Calls Tryz.prog k #[.agg cx, .int .u32 (ny : Int), .agg #[.int .i64 a, .bool b, .int .i64 c, .bool d]] Y (ErQ Y)) := hk
  have q2 := (cell_of hq 2).trans h2
  have HQ := Hid.mk' hq
  clear h322 h2 hk
  have CI : Hid (∀ Y, Calls Tryz.prog 34 #[] Y fun en w' => en = .returned (.agg #[.int .i64 1, .bool false, .int .i64 0]) ∧ Grew Y w') := q32_any
  have CL : Hid (∀ v Y, Calls Tryz.prog 32 #[v] Y fun en w' => en = .returned v ∧ Grew Y w') := ql_any
  clear hc g h32 hq h1
  go_enter Tryz.func85, Tryz.ntmps85
  go_wp2_with (first
    | (with_reducible refine stop_load 30 rfl ?_
       unfold Stop
       refine wpList_load_row rfl 30 _ rfl p (by go_simp) 30 cx (0, 0) _ HX.out Tryz.underlying30 rfl (by rw [hsz]; kernel_rfl) ?_)
    | fail)
  refine (CE.out _ (Grew.refl X)).mono ?_
  rintro en w1 ⟨a, b, c, d, e, rfl, he, g1⟩
  clear GP
  have GP := Hid.mk' g1
  have H6 := Hid.mk' he
  have HX1 := Hid.mk' ((g1.turn []).other HX.out (by simp))
  have r1 := cell_grew nr g1
  have q21 := cell_grew q2 g1
  have lr := lt_of_cell r1
  have lq := lt_of_cell q21
  clear he g1 CE HX hx nr q2 HQ
  by_cases h0 : e = 0
  · subst h0
    have lp := lt_of_obj HX1.out
    have HX2 : Hid ((w1.alloc (.cells #[.int .i64 a, .bool b, .int .i64 c, .bool d] 112)).heap[p]? = some (.cells cx 30 (0, 0))) := heap_alloc HX1.out _
    go_wp2_with (first
      | (with_reducible refine stop_load 30 rfl ?_
         unfold Stop
         refine wpList_load_row rfl 30 _ rfl p (by go_simp) 30 cx (0, 0) _ HX2.out Tryz.underlying30 rfl (by rw [hsz]; kernel_rfl) ?_)
      | fail)
    refine (CK.out _ _ _ _ _ (by repeat (first | with_reducible exact GP.out | refine .alloc ?_ _))).mono ?_
    rintro en w2 ⟨e2, rfl, he2, g2⟩
    have gx : Grew X w2 := Grew.trans (by repeat (first | with_reducible exact GP.out | with_reducible exact .refl _ | refine .alloc ?_ _ | refine .set ?_ (by first | (simp; done) | (have := GP.out.2; simp; omega)) _ | refine .drewN ?_ _ | refine .drew ?_)) g2
    clear GP
    have GP := Hid.mk' gx
    have H62 := Hid.mk' he2
    clear gx g2 he2 CK HX2 HX1 r1 q21 lr lq lp
    go_wp2_with fail
    refine (CI.out _).mono ?_
    rintro en w3 ⟨rfl, g3⟩
    have gx : Grew X w3 := Grew.trans (by repeat (first | with_reducible exact GP.out | with_reducible exact .refl _ | refine .alloc ?_ _ | refine .set ?_ (by first | (simp; done) | (have := GP.out.2; simp; omega)) _ | refine .drewN ?_ _ | refine .drew ?_)) g3
    clear GP
    have GP := Hid.mk' gx
    clear gx g3
    go_wp2_with fail
    refine (CI.out _).mono ?_
    rintro en w4 ⟨rfl, g4⟩
    have gx : Grew X w4 := Grew.trans (by repeat (first | with_reducible exact GP.out | with_reducible exact .refl _ | refine .alloc ?_ _ | refine .set ?_ (by first | (simp; done) | (have := GP.out.2; simp; omega)) _ | refine .drewN ?_ _ | refine .drew ?_)) g4
    clear GP
    have GP := Hid.mk' gx
    clear gx g4
    go_wp2_with fail
    refine (CL.out _ _).mono ?_
    rintro en w5 ⟨rfl, g5⟩
    have gl : Grew (w4.alloc (.cells #[.int .i64 1, .bool false, .int .i64 0, .int .i64 1, .bool false, .int .i64 0] 46)) w5 := g5
    have HU := Hid.mk' ((two_lst w4 1 0 1 0 false false).grew gl)
    have gx : Grew X w5 := Grew.trans (by repeat (first | with_reducible exact GP.out | with_reducible exact .refl _ | refine .alloc ?_ _ | refine .set ?_ (by first | (simp; done) | (have := GP.out.2; simp; omega)) _ | refine .drewN ?_ _ | refine .drew ?_)) g5
    clear GP
    have GP := Hid.mk' gx
    clear gx g5 gl
    go_wp2_with fail
    refine bodyPost_ret (v := .tuple #[.slice (some ⟨w4.heap.size, 0, none⟩) 2 2, .int .i64 e2]) (by simp [results, Tryz.results85, go_sem]) rfl ?_
    exact ⟨_, _, e2, rfl, H62.out, HU.out, GP.out⟩
  · have e1 : (e == 0) = false := by rw [beq_eq_false_iff_ne]; exact h0
    clear h0 CK HX1 r1 q21 lr lq
    go_wp2_with fail
    refine (CI.out _).mono ?_
    rintro en w3 ⟨rfl, g3⟩
    have gx : Grew X w3 := Grew.trans (by repeat (first | with_reducible exact GP.out | with_reducible exact .refl _ | refine .alloc ?_ _ | refine .set ?_ (by first | (simp; done) | (have := GP.out.2; simp; omega)) _ | refine .drewN ?_ _ | refine .drew ?_)) g3
    clear GP
    have GP := Hid.mk' gx
    clear gx g3
    go_wp2_with fail
    refine (CI.out _).mono ?_
    rintro en w4 ⟨rfl, g4⟩
    have gx : Grew X w4 := Grew.trans (by repeat (first | with_reducible exact GP.out | with_reducible exact .refl _ | refine .alloc ?_ _ | refine .set ?_ (by first | (simp; done) | (have := GP.out.2; simp; omega)) _ | refine .drewN ?_ _ | refine .drew ?_)) g4
    clear GP
    have GP := Hid.mk' gx
    clear gx g4
    go_wp2_with fail
    refine (CL.out _ _).mono ?_
    rintro en w5 ⟨rfl, g5⟩
    have gl : Grew (w4.alloc (.cells #[.int .i64 1, .bool false, .int .i64 0, .int .i64 1, .bool false, .int .i64 0] 46)) w5 := g5
    have HU := Hid.mk' ((two_lst w4 1 0 1 0 false false).grew gl)
    have gx : Grew X w5 := Grew.trans (by repeat (first | with_reducible exact GP.out | with_reducible exact .refl _ | refine .alloc ?_ _ | refine .set ?_ (by first | (simp; done) | (have := GP.out.2; simp; omega)) _ | refine .drewN ?_ _ | refine .drew ?_)) g5
    clear GP
    have GP := Hid.mk' gx
    clear gx g5 gl
    go_wp2_with fail
    refine bodyPost_ret (v := .tuple #[.slice (some ⟨w4.heap.size, 0, none⟩) 2 2, .int .i64 e]) (by simp [results, Tryz.results85, go_sem]) rfl ?_
    exact ⟨_, _, e, rfl, H6.out, HU.out, GP.out⟩
end
section
variable {w : World} {cx : Array Value} {TT : List RT} {FL : List Int} {EL : List VT} {RB : List Bool} {dt : Int}
variable {B C : Nat}
theorem two_cell {C : Nat} {W w' : World} (t : Two C NILS W w') {b j : Nat} {v : Value} (h : W.cell? ⟨b, j, none⟩ = some v) (hne : b ≠ C) : w'.cell? ⟨b, j, none⟩ = some v := by
  have e := t b (lt_of_cell h) hne (by simp [Value.ownBlock])
  unfold World.cell? at h ⊢
  rw [e]
  exact h
theorem four_lst (X : World) (a0 c0 a1 c1 a2 c2 a3 c3 : Int) (b0 b1 b2 b3 : Bool) : LV (X.alloc (.cells #[.int .i64 a0, .bool b0, .int .i64 c0, .int .i64 a1, .bool b1, .int .i64 c1, .int .i64 a2, .bool b2, .int .i64 c2, .int .i64 a3, .bool b3, .int .i64 c3] 46)) (.slice (some ⟨X.heap.size, 0, none⟩) 4 4) [⟨a0, b0, c0⟩, ⟨a1, b1, c1⟩, ⟨a2, b2, c2⟩, ⟨a3, b3, c3⟩] := by
  have H := heap_alloc_last X (.cells #[.int .i64 a0, .bool b0, .int .i64 c0, .int .i64 a1, .bool b1, .int .i64 c1, .int .i64 a2, .bool b2, .int .i64 c2, .int .i64 a3, .bool b3, .int .i64 c3] 46)
  refine ⟨some ⟨X.heap.size, 0, none⟩, 4, rfl, Nat.le_refl _, by decide, (fun h => nomatch h), Or.inr ⟨X.heap.size, 0, rfl, fun i x hx => ?_⟩⟩
  match i, hx with
  | 0, hx =>
    obtain rfl : _ = x := Option.some.inj hx
    exact ⟨(cell_of H 0).trans rfl, (cell_of H 1).trans rfl, (cell_of H 2).trans rfl⟩
  | 1, hx =>
    obtain rfl : _ = x := Option.some.inj hx
    exact ⟨(cell_of H 3).trans rfl, (cell_of H 4).trans rfl, (cell_of H 5).trans rfl⟩
  | 2, hx =>
    obtain rfl : _ = x := Option.some.inj hx
    exact ⟨(cell_of H 6).trans rfl, (cell_of H 7).trans rfl, (cell_of H 8).trans rfl⟩
  | 3, hx =>
    obtain rfl : _ = x := Option.some.inj hx
    exact ⟨(cell_of H 9).trans rfl, (cell_of H 10).trans rfl, (cell_of H 11).trans rfl⟩
theorem five_lst (X : World) (a0 c0 a1 c1 a2 c2 a3 c3 a4 c4 : Int) (b0 b1 b2 b3 b4 : Bool) : LV (X.alloc (.cells #[.int .i64 a0, .bool b0, .int .i64 c0, .int .i64 a1, .bool b1, .int .i64 c1, .int .i64 a2, .bool b2, .int .i64 c2, .int .i64 a3, .bool b3, .int .i64 c3, .int .i64 a4, .bool b4, .int .i64 c4] 46)) (.slice (some ⟨X.heap.size, 0, none⟩) 5 5) [⟨a0, b0, c0⟩, ⟨a1, b1, c1⟩, ⟨a2, b2, c2⟩, ⟨a3, b3, c3⟩, ⟨a4, b4, c4⟩] := by
  have H := heap_alloc_last X (.cells #[.int .i64 a0, .bool b0, .int .i64 c0, .int .i64 a1, .bool b1, .int .i64 c1, .int .i64 a2, .bool b2, .int .i64 c2, .int .i64 a3, .bool b3, .int .i64 c3, .int .i64 a4, .bool b4, .int .i64 c4] 46)
  refine ⟨some ⟨X.heap.size, 0, none⟩, 5, rfl, Nat.le_refl _, by decide, (fun h => nomatch h), Or.inr ⟨X.heap.size, 0, rfl, fun i x hx => ?_⟩⟩
  match i, hx with
  | 0, hx =>
    obtain rfl : _ = x := Option.some.inj hx
    exact ⟨(cell_of H 0).trans rfl, (cell_of H 1).trans rfl, (cell_of H 2).trans rfl⟩
  | 1, hx =>
    obtain rfl : _ = x := Option.some.inj hx
    exact ⟨(cell_of H 3).trans rfl, (cell_of H 4).trans rfl, (cell_of H 5).trans rfl⟩
  | 2, hx =>
    obtain rfl : _ = x := Option.some.inj hx
    exact ⟨(cell_of H 6).trans rfl, (cell_of H 7).trans rfl, (cell_of H 8).trans rfl⟩
  | 3, hx =>
    obtain rfl : _ = x := Option.some.inj hx
    exact ⟨(cell_of H 9).trans rfl, (cell_of H 10).trans rfl, (cell_of H 11).trans rfl⟩
  | 4, hx =>
    obtain rfl : _ = x := Option.some.inj hx
    exact ⟨(cell_of H 12).trans rfl, (cell_of H 13).trans rfl, (cell_of H 14).trans rfl⟩
theorem arrayFill1_z (F : FRS B C w) (hc : CTX w cx TT FL EL RB dt) {X : World} (g : Grew w X) {p q : Nat} {es : Array Value} (hx : X.heap[p]? = some (.cells cx 30 (0, 0))) (hq : X.heap[q]? = some (.cells es 52 (0, 0))) {n : Nat} (h32 : n < 4294967296) (h1 : es[1]? = some (.int .u32 (n : Int))) (hqC : q ≠ C) : Calls Tryz.prog 88 #[.pointer (some ⟨C, 0, none⟩), .pointer (some ⟨p, 0, none⟩), .pointer (some ⟨q, 0, none⟩)] X (Z6 B X) := by
  have CE : Hid (∀ Y, Grew X Y → Calls Tryz.prog 89 #[.agg cx, .int .u32 (n : Int)] Y (FtQ Y)) := fun Y gy => settable_any hc n h32 (g.trans gy)
  have hsz := hc.sz
  have HX := Hid.mk' hx
  have q1 := (cell_of hq 1).trans h1
  have GP : Hid (Grew X X) := Grew.refl X
  have CS : Hid (∀ Y (v : Value) (l : List VT), Grew X Y → LV Y v l → Calls Tryz.prog 17 #[.pointer (some ⟨C, 0, none⟩), v] Y (Z6T B C Y)) := fun Y v l gy => F.pops Y v l (g.trans gy)
  have HB := Hid.mk' (Nat.le_trans F.hB g.2)
  have CD : Hid (∀ Y, Calls Tryz.prog 79 #[.bool true, .int .u32 (n : Int)] Y fun en w' => en = .returned (.agg #[.int .i64 5, .bool true, .int .i64 (n : Int)]) ∧ Grew Y w') := fun Y => qdefined_any true n h32 Y
  have HC := Hid.mk' (Nat.lt_of_lt_of_le F.hC g.2)
  have CU : Hid (∀ Y (n h : Int) (z : Bool), Calls Tryz.prog 71 #[.agg #[.int .i64 n, .bool z, .int .i64 h]] Y (VtQ Y)) := fun Y n h z => unpack_any n h z Y
  have CI : Hid (∀ Y, Calls Tryz.prog 34 #[] Y fun en w' => en = .returned (.agg #[.int .i64 1, .bool false, .int .i64 0]) ∧ Grew Y w') := q32_any
  have CL : Hid (∀ v Y, Calls Tryz.prog 32 #[v] Y fun en w' => en = .returned v ∧ Grew Y w') := ql_any
  clear F hc g h32 hq h1
  go_enter Tryz.func88, Tryz.ntmps88
  go_wp2_with (first
    | (with_reducible refine stop_load 30 rfl ?_
       unfold Stop
       refine wpList_load_row rfl 30 _ rfl p (by go_simp) 30 cx (0, 0) _ HX.out Tryz.underlying30 rfl (by rw [hsz]; kernel_rfl) ?_)
    | fail)
  refine (CE.out _ (Grew.refl X)).mono ?_
  rintro en w1 ⟨a, b, c, d, e, rfl, he, g1⟩
  clear GP
  have GP := Hid.mk' g1
  have H6 := Hid.mk' he
  have q11 := cell_grew q1 g1
  have lq := lt_of_cell q11
  clear he g1 CE HX hx q1
  by_cases h0 : e = 0
  · subst h0
    go_wp2_with fail
    obtain ⟨W0, hW0⟩ : ∃ W0, W0 = w1.alloc (.cells #[.int .i64 a, .bool b, .int .i64 c, .bool d] 112) := ⟨_, rfl⟩
    have G0 : Hid (Grew X W0) := by rw [hW0]; exact GP.out.alloc _
    have gw : Grew w1 W0 := by rw [hW0]; exact (Grew.refl _).alloc _
    have NF : W0.heap[w1.heap.size]? = some (.cells #[.int .i64 a, .bool b, .int .i64 c, .bool d] 112 (0, 0)) := by rw [hW0]; exact heap_alloc_last _ _
    obtain ⟨t, ht⟩ : ∃ t, t = w1.heap.size := ⟨_, rfl⟩
    have hCt : t ≠ C := by have := HC.out; have := GP.out.2; omega
    rw [← ht] at NF
    rw [← hW0]
    simp only [← ht]
    have z0 := cell_grew q11 gw
    have z1 := cell_of NF 0
    have z2 := cell_of NF 1
    have z3 := cell_of NF 2
    simp at z1 z2 z3
    have lz0 := lt_of_cell z0
    have lz1 := lt_of_obj NF
    have ne0 := hqC
    have ne1 := hCt
    have ne2 := hCt
    have ne3 := hCt
    have GQ : Hid (Grew W0 W0) := Grew.refl W0
    clear hW0 gw NF ht q11 lq
    go_region_held3 (fun Y => Y.cell? ⟨q, 1, none⟩ = some (.int .u32 (n : Int)) ∧ Y.cell? ⟨t, 0, none⟩ = some (.int .i64 a) ∧ Y.cell? ⟨t, 1, none⟩ = some (.bool b) ∧ Y.cell? ⟨t, 2, none⟩ = some (.int .i64 c)) (go_keep) (first
        | (with_reducible refine (CD.out _).mono ?_
           rintro en wn ⟨rfl, gn⟩
           have gx : Grew W0 wn := Grew.trans (by repeat (first | with_reducible exact GQ.out | with_reducible exact .refl _ | refine .alloc ?_ _ | refine .drewN ?_ _ | refine .drew ?_)) gn
           clear GQ
           have GQ := Hid.mk' gx
           have s0 := cell_grew z0 gx
           have s1 := cell_grew z1 gx
           have s2 := cell_grew z2 gx
           have s3 := cell_grew z3 gx
           clear gx gn)
        | (with_reducible refine (CI.out _).mono ?_
           rintro en wn ⟨rfl, gn⟩
           have gx : Grew W0 wn := Grew.trans (by repeat (first | with_reducible exact GQ.out | with_reducible exact .refl _ | refine .alloc ?_ _ | refine .drewN ?_ _ | refine .drew ?_)) gn
           clear GQ
           have GQ := Hid.mk' gx
           have s0 := cell_grew z0 gx
           have s1 := cell_grew z1 gx
           have s2 := cell_grew z2 gx
           have s3 := cell_grew z3 gx
           clear gx gn)
        | (with_reducible refine (CU.out _ _ _ _).mono ?_
           rintro en wn ⟨ua, ub, uc, rfl, gn⟩
           have gx : Grew W0 wn := Grew.trans (by repeat (first | with_reducible exact GQ.out | with_reducible exact .refl _ | refine .alloc ?_ _ | refine .drewN ?_ _ | refine .drew ?_)) gn
           clear GQ
           have GQ := Hid.mk' gx
           have s0 := cell_grew z0 gx
           have s1 := cell_grew z1 gx
           have s2 := cell_grew z2 gx
           have s3 := cell_grew z3 gx
           clear gx gn)
        | (with_reducible refine (CL.out _ _).mono ?_
           rintro en wn ⟨rfl, gn⟩
           have HU := Hid.mk' ((four_lst _ 5 (n : Int) 1 0 ua uc 1 0 true false ub false).grew gn)
           have gx : Grew W0 wn := Grew.trans (by repeat (first | with_reducible exact GQ.out | with_reducible exact .refl _ | refine .alloc ?_ _ | refine .drewN ?_ _ | refine .drew ?_)) gn
           clear GQ
           have GQ := Hid.mk' gx
           have s0 := cell_grew z0 gx
           have s1 := cell_grew z1 gx
           have s2 := cell_grew z2 gx
           have s3 := cell_grew z3 gx
           clear gx gn)
        | (with_reducible refine (CS.out _ _ _ (Grew.trans G0.out GQ.out) HU.out).mono ?_
           rintro en w9 ⟨e9, rfl, he9, k9, t9⟩
           have K9 := Hid.mk' ((Grew.kb (Grew.trans G0.out GQ.out) HB.out).trans k9)
           have H9 := Hid.mk' he9
           have s0 := two_cell t9 (cell_grew z0 GQ.out) ne0
           have s1 := two_cell t9 (cell_grew z1 GQ.out) ne1
           have s2 := two_cell t9 (cell_grew z2 GQ.out) ne2
           have s3 := two_cell t9 (cell_grew z3 GQ.out) ne3
           clear he9 k9 t9)
        | fail)
    all_goals
      go_wp2_with fail
      go_ret
      exact ⟨_, rfl, H9.out, K9.out⟩
  · have e1 : (e == 0) = false := by rw [beq_eq_false_iff_ne]; exact h0
    clear h0
    go_wp2_with fail
    go_ret
    exact ⟨_, rfl, H6.out, Grew.kb (by repeat (first | with_reducible exact GP.out | with_reducible exact .refl _ | refine .alloc ?_ _ | refine .set ?_ (by first | (simp; done) | (have := GP.out.2; simp; omega)) _ | refine .drewN ?_ _ | refine .drew ?_)) HB.out⟩
theorem arrayInitFrom1_z (F : FRS B C w) (hc : CTX w cx TT FL EL RB dt) {X : World} (g : Grew w X) {p q : Nat} {es : Array Value} (hx : X.heap[p]? = some (.cells cx 30 (0, 0))) (hq : X.heap[q]? = some (.cells es 52 (0, 0))) {n : Nat} (h32 : n < 4294967296) (h1 : es[1]? = some (.int .u32 (n : Int))) {r k ny : Nat} (h322 : ny < 4294967296) (h2 : es[2]? = some (.int .u32 (ny : Int))) (hen : ∀ args W, (callFunc k args).run Tryz.prog W = .ok (.enter k args) W) (nr : X.cell? ⟨r, 0, none⟩ = some (.func (.func k) #[] #[])) (hk : ∀ Y (a c : Int) (b d : Bool), Grew X Y → Calls Tryz.prog k #[.agg cx, .int .u32 (ny : Int), .agg #[.int .i64 a, .bool b, .int .i64 c, .bool d]] Y (ErQ Y)) : Calls Tryz.prog 91 #[.pointer (some ⟨C, 0, none⟩), .pointer (some ⟨p, 0, none⟩), .pointer (some ⟨q, 0, none⟩), .pointer (some ⟨r, 0, none⟩)] X (Z6 B X) := by
  have CE : Hid (∀ Y, Grew X Y → Calls Tryz.prog 89 #[.agg cx, .int .u32 (n : Int)] Y (FtQ Y)) := fun Y gy => settable_any hc n h32 (g.trans gy)
  have hsz := hc.sz
  have HX := Hid.mk' hx
  have q1 := (cell_of hq 1).trans h1
  have GP : Hid (Grew X X) := Grew.refl X
  have CS : Hid (∀ Y (v : Value) (l : List VT), Grew X Y → LV Y v l → Calls Tryz.prog 17 #[.pointer (some ⟨C, 0, none⟩), v] Y (Z6T B C Y)) := fun Y v l gy => F.pops Y v l (g.trans gy)
  have HB := Hid.mk' (Nat.le_trans F.hB g.2)
  have CD : Hid (∀ Y, Calls Tryz.prog 79 #[.bool true, .int .u32 (n : Int)] Y fun en w' => en = .returned (.agg #[.int .i64 5, .bool true, .int .i64 (n : Int)]) ∧ Grew Y w') := fun Y => qdefined_any true n h32 Y
  have CK : Hid (∀ Y (a c : Int) (b d : Bool), Grew X Y → Calls Tryz.prog k #[.agg cx, .int .u32 (ny : Int), .agg #[.int .i64 a, .bool b, .int .i64 c, .bool d]] Y (ErQ Y)) := hk
  have q2 := (cell_of hq 2).trans h2
  have HQ := Hid.mk' hq
  clear h322 h2 hk
  have CI : Hid (∀ Y, Calls Tryz.prog 34 #[] Y fun en w' => en = .returned (.agg #[.int .i64 1, .bool false, .int .i64 0]) ∧ Grew Y w') := q32_any
  have CL : Hid (∀ v Y, Calls Tryz.prog 32 #[v] Y fun en w' => en = .returned v ∧ Grew Y w') := ql_any
  clear F hc g h32 hq h1
  go_enter Tryz.func91, Tryz.ntmps91
  go_wp2_with (first
    | (with_reducible refine stop_load 30 rfl ?_
       unfold Stop
       refine wpList_load_row rfl 30 _ rfl p (by go_simp) 30 cx (0, 0) _ HX.out Tryz.underlying30 rfl (by rw [hsz]; kernel_rfl) ?_)
    | fail)
  refine (CE.out _ (Grew.refl X)).mono ?_
  rintro en w1 ⟨a, b, c, d, e, rfl, he, g1⟩
  clear GP
  have GP := Hid.mk' g1
  have HQ1 := Hid.mk' ((g1.turn []).other HQ.out (by simp))
  have H6 := Hid.mk' he
  have HX1 := Hid.mk' ((g1.turn []).other HX.out (by simp))
  have r1 := cell_grew nr g1
  have q21 := cell_grew q2 g1
  have lr := lt_of_cell r1
  have q11 := cell_grew q1 g1
  have lq := lt_of_cell q11
  clear he g1 CE HX hx nr q2 HQ q1
  by_cases h0 : e = 0
  · subst h0
    have lp := lt_of_obj HX1.out
    have HX2 : Hid ((w1.alloc (.cells #[.int .i64 a, .bool b, .int .i64 c, .bool d] 112)).heap[p]? = some (.cells cx 30 (0, 0))) := heap_alloc HX1.out _
    go_wp2_with (first
      | (with_reducible refine stop_load 30 rfl ?_
         unfold Stop
         refine wpList_load_row rfl 30 _ rfl p (by go_simp) 30 cx (0, 0) _ HX2.out Tryz.underlying30 rfl (by rw [hsz]; kernel_rfl) ?_)
      | fail)
    refine (CK.out _ _ _ _ _ (by repeat (first | with_reducible exact GP.out | refine .alloc ?_ _))).mono ?_
    rintro en w2 ⟨e2, rfl, he2, g2⟩
    have gq : Grew w1 w2 := Grew.trans (by repeat (first | with_reducible exact .refl _ | refine .alloc ?_ _)) g2
    have q12 := cell_grew q11 gq
    have lq2 := lt_of_cell q12
    have gx : Grew X w2 := Grew.trans (by repeat (first | with_reducible exact GP.out | with_reducible exact .refl _ | refine .alloc ?_ _ | refine .set ?_ (by first | (simp; done) | (have := GP.out.2; simp; omega)) _ | refine .drewN ?_ _ | refine .drew ?_)) g2
    clear GP
    have GP := Hid.mk' gx
    have H62 := Hid.mk' he2
    clear gx g2 gq he2 CK HX2 HX1 r1 q21 lr lq lp q11 HQ1
    by_cases h0 : e2 = 0
    · subst h0
      go_wp2_with fail
      refine (CD.out _).mono ?_
      rintro en w3 ⟨rfl, g3⟩
      have gx : Grew X w3 := Grew.trans (by repeat (first | with_reducible exact GP.out | with_reducible exact .refl _ | refine .alloc ?_ _ | refine .set ?_ (by first | (simp; done) | (have := GP.out.2; simp; omega)) _ | refine .drewN ?_ _ | refine .drew ?_)) g3
      clear GP
      have GP := Hid.mk' gx
      clear gx g3
      go_wp2_with fail
      refine (CI.out _).mono ?_
      rintro en w4 ⟨rfl, g4⟩
      have gx : Grew X w4 := Grew.trans (by repeat (first | with_reducible exact GP.out | with_reducible exact .refl _ | refine .alloc ?_ _ | refine .set ?_ (by first | (simp; done) | (have := GP.out.2; simp; omega)) _ | refine .drewN ?_ _ | refine .drew ?_)) g4
      clear GP
      have GP := Hid.mk' gx
      clear gx g4
      go_wp2_with fail
      refine (CI.out _).mono ?_
      rintro en w5 ⟨rfl, g5⟩
      have gx : Grew X w5 := Grew.trans (by repeat (first | with_reducible exact GP.out | with_reducible exact .refl _ | refine .alloc ?_ _ | refine .set ?_ (by first | (simp; done) | (have := GP.out.2; simp; omega)) _ | refine .drewN ?_ _ | refine .drew ?_)) g5
      clear GP
      have GP := Hid.mk' gx
      clear gx g5
      go_wp2_with fail
      refine (CI.out _).mono ?_
      rintro en w6 ⟨rfl, g6⟩
      have gx : Grew X w6 := Grew.trans (by repeat (first | with_reducible exact GP.out | with_reducible exact .refl _ | refine .alloc ?_ _ | refine .set ?_ (by first | (simp; done) | (have := GP.out.2; simp; omega)) _ | refine .drewN ?_ _ | refine .drew ?_)) g6
      clear GP
      have GP := Hid.mk' gx
      clear gx g6
      go_wp2_with fail
      refine (CL.out _ _).mono ?_
      rintro en w7 ⟨rfl, g7⟩
      have gl : Grew (w6.alloc (.cells #[.int .i64 5, .bool true, .int .i64 (n : Int), .int .i64 1, .bool false, .int .i64 0, .int .i64 1, .bool false, .int .i64 0, .int .i64 1, .bool false, .int .i64 0] 46)) w7 := g7
      have HU := Hid.mk' ((four_lst w6 5 (n : Int) 1 0 1 0 1 0 true false false false).grew gl)
      clear gl
      have gx : Grew X w7 := Grew.trans (by repeat (first | with_reducible exact GP.out | with_reducible exact .refl _ | refine .alloc ?_ _ | refine .set ?_ (by first | (simp; done) | (have := GP.out.2; simp; omega)) _ | refine .drewN ?_ _ | refine .drew ?_)) g7
      clear GP
      have GP := Hid.mk' gx
      clear gx g7
      go_wp2_with fail
      refine (CS.out _ _ _ GP.out HU.out).mono ?_
      rintro en w8 ⟨e9, rfl, he9, k9, _⟩
      have K9 := Hid.mk' ((Grew.kb GP.out HB.out).trans k9)
      have H9 := Hid.mk' he9
      clear he9 k9 CS
      go_wp2_with fail
      go_ret
      exact ⟨_, rfl, H9.out, K9.out⟩
    · have e1 : (e2 == 0) = false := by rw [beq_eq_false_iff_ne]; exact h0
      clear h0
      go_wp2_with fail
      go_ret
      exact ⟨_, rfl, H62.out, Grew.kb (by repeat (first | with_reducible exact GP.out | with_reducible exact .refl _ | refine .alloc ?_ _ | refine .set ?_ (by first | (simp; done) | (have := GP.out.2; simp; omega)) _ | refine .drewN ?_ _ | refine .drew ?_)) HB.out⟩
  · have e1 : (e == 0) = false := by rw [beq_eq_false_iff_ne]; exact h0
    clear h0
    go_wp2_with fail
    go_ret
    exact ⟨_, rfl, H6.out, Grew.kb (by repeat (first | with_reducible exact GP.out | with_reducible exact .refl _ | refine .alloc ?_ _ | refine .set ?_ (by first | (simp; done) | (have := GP.out.2; simp; omega)) _ | refine .drewN ?_ _ | refine .drew ?_)) HB.out⟩
end
end Go.Proofs.YtnmbniojejckpaaGreatDoor
