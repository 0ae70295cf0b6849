/-
  vnum's Step; no statement is proved here.
-/
import Derived.Test.YtikaidokllnifaaGreatDoorVnCh
import Derived.Test.YtikaidokllnifaaGreatDoorVnHm
import Derived.Deep.RegionHeld3
set_option maxRecDepth 100000
set_option maxHeartbeats 8000000
namespace Go.Proofs.YtikaidokllnifaaGreatDoor
open Go.RowKit
set_option linter.unusedVariables false
set_option linter.unusedSimpArgs false
theorem step_go {w : World} {C B : Nat} (hB : B ≤ w.heap.size) (t0 t1 t2 t3 t4 t5 t6 t8 : Option Addr) (m0 m1 m2 m3 m4 m5 m6 m8 k0 k1 k2 k3 k4 k5 k6 k8 : Nat) (dt op X Y N al me off bt bn bh : Int) (bz he : Bool) (b0 b1 b2 b3 b4 : Option Addr) (p0 p1 p2 p3 p4 q0 q1 q2 q3 q4 : Nat)
   (hwf : (Lit.int .i64 (grpF op)).wf = true) (hent : ∀ n : Nat, stepF (grpF op) = (n : Int) → ∀ args W, (callFunc n args).run Tryz.prog W = .ok (.enter n args) W) (hM : ∀ n : Nat, stepF (grpF op) = (n : Int) → ∀ Z, Grew w Z → Calls Tryz.prog n #[.pointer (some ⟨Z.heap.size, 0, none⟩)] (Z.alloc (.cells #[.slice t0 m0 k0, .slice t1 m1 k1, .slice t2 m2 k2, .slice t3 m3 k3, .slice t4 m4 k4, .slice t5 m5 k5, .slice t6 m6 k6, .int .i64 dt, .slice t8 m8 k8, .pointer (some ⟨C, 0, none⟩), .int .i64 op, .int .u32 X, .int .u32 Y, .int .u64 N, .int .u32 al, .int .u32 me, .int .u64 off, .int .i64 bt, .int .i64 bn, .bool bz, .int .i64 bh, .slice b0 p0 q0, .slice b1 p1 q1, .bool he, .slice b2 p2 q2, .slice b3 p3 q3, .slice b4 p4 q4] 96)) fun en w' => ∃ e : Int, en = .returned (.int .i64 e) ∧ e ≠ 6 ∧ KB B (Z.alloc (.cells #[.slice t0 m0 k0, .slice t1 m1 k1, .slice t2 m2 k2, .slice t3 m3 k3, .slice t4 m4 k4, .slice t5 m5 k5, .slice t6 m6 k6, .int .i64 dt, .slice t8 m8 k8, .pointer (some ⟨C, 0, none⟩), .int .i64 op, .int .u32 X, .int .u32 Y, .int .u64 N, .int .u32 al, .int .u32 me, .int .u64 off, .int .i64 bt, .int .i64 bn, .bool bz, .int .i64 bh, .slice b0 p0 q0, .slice b1 p1 q1, .bool he, .slice b2 p2 q2, .slice b3 p3 q3, .slice b4 p4 q4] 96)) w') (hpop : ∀ X, Grew w X → Calls Tryz.prog 35 #[.pointer (some ⟨C, 0, none⟩), .slice none 0 0] X fun en w' => en = .returned (.int .i64 0) ∧ Grew X w') :
    Calls Tryz.prog 12 #[.agg #[.slice t0 m0 k0, .slice t1 m1 k1, .slice t2 m2 k2, .slice t3 m3 k3, .slice t4 m4 k4, .slice t5 m5 k5, .slice t6 m6 k6, .int .i64 dt, .slice t8 m8 k8], .pointer (some ⟨C, 0, none⟩), .agg #[.int .i64 op, .int .u32 X, .int .u32 Y, .int .u64 N, .int .u32 al, .int .u32 me, .int .u64 off, .int .i64 bt, .int .i64 bn, .bool bz, .int .i64 bh, .slice b0 p0 q0, .slice b1 p1 q1, .bool he, .slice b2 p2 q2, .slice b3 p3 q3, .slice b4 p4 q4]] w fun en w' => ∃ e : Int, en = .returned (.int .i64 e) ∧ (e = 6 ↔ stepF (grpF op) = -1) ∧ KB B w w' := by
  have HB : Hid (∀ X, Grew w X → KB B w X) := fun X g => g.kb hB
  clear hB
  have CP := Hid.mk' hpop
  have CM := Hid.mk' hM
  have CE := Hid.mk' hent
  clear hpop hM hent
  go_enter Tryz.func12, Tryz.ntmps12
  go_wp2_with fail
  refine (CP.out _ (by repeat (first | with_reducible exact .refl _ | refine .alloc ?_ _))).mono ?_
  rintro en w1 ⟨rfl, g1⟩
  clear CP
  have G1 := Hid.mk' g1
  clear g1
  go_wp2_with fail
  have K0 : (w.alloc (.cells #[.slice t0 m0 k0, .slice t1 m1 k1, .slice t2 m2 k2, .slice t3 m3 k3, .slice t4 m4 k4, .slice t5 m5 k5, .slice t6 m6 k6, .int .i64 dt, .slice t8 m8 k8] 30)).heap[w.heap.size]? = some (.cells #[.slice t0 m0 k0, .slice t1 m1 k1, .slice t2 m2 k2, .slice t3 m3 k3, .slice t4 m4 k4, .slice t5 m5 k5, .slice t6 m6 k6, .int .i64 dt, .slice t8 m8 k8] 30 (0, 0)) := heap_alloc_last _ _
  have K1 : ((w.alloc (.cells #[.slice t0 m0 k0, .slice t1 m1 k1, .slice t2 m2 k2, .slice t3 m3 k3, .slice t4 m4 k4, .slice t5 m5 k5, .slice t6 m6 k6, .int .i64 dt, .slice t8 m8 k8] 30)).alloc (.cells #[.int .i64 op, .int .u32 X, .int .u32 Y, .int .u64 N, .int .u32 al, .int .u32 me, .int .u64 off, .int .i64 bt, .int .i64 bn, .bool bz, .int .i64 bh, .slice b0 p0 q0, .slice b1 p1 q1, .bool he, .slice b2 p2 q2, .slice b3 p3 q3, .slice b4 p4 q4] 46)).heap[w.heap.size + 1]? = some (.cells #[.int .i64 op, .int .u32 X, .int .u32 Y, .int .u64 N, .int .u32 al, .int .u32 me, .int .u64 off, .int .i64 bt, .int .i64 bn, .bool bz, .int .i64 bh, .slice b0 p0 q0, .slice b1 p1 q1, .bool he, .slice b2 p2 q2, .slice b3 p3 q3, .slice b4 p4 q4] 46 (0, 0)) := by
    have := heap_alloc_last (w.alloc (.cells #[.slice t0 m0 k0, .slice t1 m1 k1, .slice t2 m2 k2, .slice t3 m3 k3, .slice t4 m4 k4, .slice t5 m5 k5, .slice t6 m6 k6, .int .i64 dt, .slice t8 m8 k8] 30)) (.cells #[.int .i64 op, .int .u32 X, .int .u32 Y, .int .u64 N, .int .u32 al, .int .u32 me, .int .u64 off, .int .i64 bt, .int .i64 bn, .bool bz, .int .i64 bh, .slice b0 p0 q0, .slice b1 p1 q1, .bool he, .slice b2 p2 q2, .slice b3 p3 q3, .slice b4 p4 q4] 46)
    rw [alloc_size] at this
    exact this
  have N0 := Hid.mk' ((G1.out.turn []).other (heap_alloc K0 (.cells #[.int .i64 op, .int .u32 X, .int .u32 Y, .int .u64 N, .int .u32 al, .int .u32 me, .int .u64 off, .int .i64 bt, .int .i64 bn, .bool bz, .int .i64 bh, .slice b0 p0 q0, .slice b1 p1 q1, .bool he, .slice b2 p2 q2, .slice b3 p3 q3, .slice b4 p4 q4] 46)) (by simp))
  have N1 := Hid.mk' ((G1.out.turn []).other K1 (by simp))
  clear K0 K1
  have i0 := cell_of N1.out 0
  simp at i0
  have hl1 := lt_of_obj N1.out
  have hl0 := lt_of_obj N0.out
  have GW0 : Hid (Grew w w1) := ((((Grew.refl w).alloc _).alloc _).trans G1.out)
  clear G1
  generalize w.heap.size = q at *
  have CS : Hid (∀ X, Calls Tryz.prog 36 #[] X fun en w' => en = .returned (.map (some X.heap.size)) ∧ StM 25 w' X.heap.size ∧ Grew X w') := steps_any
  go_region_held3 (fun w' => w'.cell? ⟨q + 1, 0, none⟩ = some (.int .i64 op)) (go_keep) (first
    | (with_reducible refine (CS.out _).mono ?_
       rintro en w2 ⟨rfl, hS, g2⟩
       have gg2 : Grew w1 w2 := Grew.trans (by repeat (first | with_reducible exact .refl _ | refine .alloc ?_ _ | refine .drewN ?_ _ | refine .drew ?_)) g2
       have G2 := Hid.mk' gg2
       have HS : Hid (StM 25 w2 w1.heap.size) := hS
       have i1 := cell_grew i0 gg2
       clear g2 gg2 hS)
    | (with_reducible refine (group_any op _).mono ?_
       rintro en w3 ⟨rfl, hw3⟩
       have g3 : Grew w2 w3 := by
         rw [hw3]
         exact (by repeat (first | with_reducible exact .refl _ | refine .alloc ?_ _ | refine .drewN ?_ _ | refine .drew ?_))
       have i2 := cell_grew i1 g3
       obtain ⟨f, hf, hrun⟩ := lookS_ok (HS.out.grew g3) hwf
       have HF := Hid.mk' hf
       have G3 := Hid.mk' (G2.out.trans g3)
       clear g3 hw3 hf)
    | fail)
  all_goals
    rcases HF.out with ⟨h1, rfl⟩ | ⟨n, hn, rfl⟩
    · have d1 : decide (stepF (grpF op) = -1) = true := by simpa using h1
      have H1 := Hid.mk' h1
      clear hrun h1 CM CE
      go_wp2_with fail
      go_ret
      exact ⟨6, rfl, ⟨fun _ => H1.out, fun _ => rfl⟩, HB.out _ (GW0.out.trans G3.out)⟩
    · have d1 : decide (stepF (grpF op) = -1) = false := by simp; omega
      have GW : Hid (Grew w1 w3) := G3.out
      have M0 := (GW.out.turn []).other N0.out (by simp)
      have M1 := (GW.out.turn []).other N1.out (by simp)
      have x0 := cell_of M0 0
      have x1 := cell_of M0 1
      have x2 := cell_of M0 2
      have x3 := cell_of M0 3
      have x4 := cell_of M0 4
      have x5 := cell_of M0 5
      have x6 := cell_of M0 6
      have x7 := cell_of M0 7
      have x8 := cell_of M0 8
      have y0 := cell_of M1 0
      have y1 := cell_of M1 1
      have y2 := cell_of M1 2
      have y3 := cell_of M1 3
      have y4 := cell_of M1 4
      have y5 := cell_of M1 5
      have y6 := cell_of M1 6
      have y7 := cell_of M1 7
      have y8 := cell_of M1 8
      have y9 := cell_of M1 9
      have y10 := cell_of M1 10
      have y11 := cell_of M1 11
      have y12 := cell_of M1 12
      have y13 := cell_of M1 13
      have y14 := cell_of M1 14
      have y15 := cell_of M1 15
      have y16 := cell_of M1 16
      simp at x0 x1 x2 x3 x4 x5 x6 x7 x8 y0 y1 y2 y3 y4 y5 y6 y7 y8 y9 y10 y11 y12 y13 y14 y15 y16
      have hm0 := lt_of_obj M0
      have hm1 := lt_of_obj M1
      have CN := Hid.mk' (CM.out n hn w3 (GW0.out.trans G3.out))
      have hen := CE.out n hn
      have HN := Hid.mk' hn
      clear hrun hn i0 i2 M0 M1 CM CE
      go_wp2_with fail
      refine CN.out.mono ?_
      rintro en w5 ⟨e, rfl, he, kb⟩
      have HE := Hid.mk' he
      have HK := Hid.mk' kb
      clear he kb CN hen
      go_wp2_with fail
      go_ret
      exact ⟨e, rfl, ⟨fun h => absurd h HE.out, fun h => by have := HN.out; omega⟩, KB.trans (HB.out _ ((GW0.out.trans G3.out).alloc _)) HK.out⟩
end Go.Proofs.YtikaidokllnifaaGreatDoor
