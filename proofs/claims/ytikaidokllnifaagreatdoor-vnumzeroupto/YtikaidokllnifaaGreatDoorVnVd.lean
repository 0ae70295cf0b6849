/-
  Steps of vnum: local.tee; no statement is proved here.
-/
import Derived.Test.YtikaidokllnifaaGreatDoorVnTj
import Derived.Deep.RegionHeld3
set_option maxRecDepth 100000
set_option maxHeartbeats 8000000
namespace Go.Proofs.YtikaidokllnifaaGreatDoor
open Go.RowKit
set_option linter.unusedVariables false
set_option linter.unusedSimpArgs false
section
variable {gv : Value} {L : List RT} {W0 w : World} {C : Nat} {lv fv ov : Value} {g c : Nat} {lo : List LO} {fr : List Int} {ops : List VT} {fs : List FV} {x : FV} {S : Nat} {es : Array Value}
theorem localTee_no (A : StA gv L W0 w C lv fv ov g c lo fr ops fs x S es) {n : Nat} (h32 : n < 4294967296) (hx : es[11]? = some (.int .u32 (n : Int))) {e : Int} (he : lo.length ≤ n ∧ e = 150) :
    Calls Tryz.prog 76 #[.pointer (some ⟨S, 0, none⟩)] w fun en w' => en = .returned (.int .i64 e) ∧ Grew w w' := by
  obtain ⟨e0, hne, hE, CG⟩ : ∃ e0 : Int, (namE e0 == 0) = false ∧ namE e0 = e ∧ Hid (∀ X, Grew w X → Calls Tryz.prog 149 #[.pointer (some ⟨C, 0, none⟩), .int .u32 (n : Int)] X fun en w' => en = .returned (.tuple #[VT0g, .int .i64 e0]) ∧ Grew X w') := by
    obtain ⟨h1, rfl⟩ := he
    exact ⟨1, by decide, by decide, fun X k => localT_out (A.h.grew k) h1 h32⟩
  have CN : Hid (∀ X, Calls Tryz.prog 147 #[VT0g, .int .i64 e0] X fun en w' => en = .returned (.tuple #[VT0g, .int .i64 (namE e0)]) ∧ Grew X w') := fun X => named_any 0 0 false e0 X
  subst hE
  clear he
  generalize namE e0 = e at *
  have s0 := A.cell A.hc
  have s1 := A.cell hx
  have hS := lt_of_obj A.N
  have hne1 : S ≠ w.heap.size := Nat.ne_of_lt hS
  have hne2 : w.heap.size ≠ S := Nat.ne_of_gt hS
  have HX := Hid.mk' hx
  have HAA := Hid.mk' A
  clear A hx
  go_enter Tryz.func76, Tryz.ntmps76
  go_wp2_with fail
  go_region_held3 (fun w' => w'.cell? ⟨S, 9, none⟩ = some (.pointer (some ⟨C, 0, none⟩)) ∧ w'.cell? ⟨S, 11, none⟩ = some (.int .u32 (n : Int))) (go_keep) (first
    | (with_reducible refine (CG.out _ ?gr).mono ?_
       case gr => exact (by repeat (first | with_reducible exact .refl _ | refine .alloc ?_ _ | refine .drewN ?_ _ | refine .drew ?_))
       rintro en w1 ⟨rfl, g1⟩
       have gg1 : Grew w w1 := Grew.trans (by repeat (first | with_reducible exact .refl _ | refine .alloc ?_ _ | refine .drewN ?_ _ | refine .drew ?_)) g1
       have G1 := Hid.mk' gg1
       have t0 := cell_grew s0 gg1
       have t1 := cell_grew s1 gg1
       have hne3 : S ≠ w1.heap.size := Nat.ne_of_lt (Nat.lt_of_lt_of_le hS gg1.2)
       have hne4 : w1.heap.size ≠ S := Ne.symm hne3
       first
       | (have gz : Grew (w.alloc (.cells #[.int .i64 0, .bool false, .int .i64 0] 39)) w1 := (by first | exact g1 | exact ((Grew.refl _).drew).trans g1 | exact ((Grew.refl _).drewN _).trans g1)
          have Bz := (gz.turn []).other (heap_alloc_last w (.cells #[.int .i64 0, .bool false, .int .i64 0] 39)) (by simp)
          have HBz := Hid.mk' Bz; have hlz := lt_of_obj Bz
          have y0 := cell_of Bz 0; have r0 := free_of Bz 0; have y1 := cell_of Bz 1; have r1 := free_of Bz 1; have y2 := cell_of Bz 2; have r2 := free_of Bz 2
          simp at y0 y1 y2
          clear gz Bz)
       | skip
       clear g1 gg1)
    | (with_reducible refine (CN.out _).mono ?_
       rintro en w2 ⟨rfl, g2⟩
       have gg2 : Grew w w2 := Grew.trans (by repeat (first | with_reducible exact G1.out | with_reducible exact .refl _ | refine .alloc ?_ _ | refine .drewN ?_ _ | refine .drew ?_)) g2
       have G2 := Hid.mk' gg2
       have u0 := cell_grew s0 gg2
       have u1 := cell_grew s1 gg2
       have hne5 : S ≠ w2.heap.size := Nat.ne_of_lt (Nat.lt_of_lt_of_le hS gg2.2)
       have hne6 : w2.heap.size ≠ S := Ne.symm hne5
       first
       | (have Bz := (g2.turn []).other HBz.out (by simp)
          have HBy := Hid.mk' Bz; have hly := lt_of_obj Bz
          have q0 := cell_of Bz 0; have p0 := free_of Bz 0; have q1 := cell_of Bz 1; have p1 := free_of Bz 1; have q2 := cell_of Bz 2; have p2 := free_of Bz 2
          simp at q0 q1 q2
          clear Bz)
       | (have gz : Grew (w1.alloc (.cells #[.int .i64 0, .bool false, .int .i64 0] 39)) w2 := (by first | exact g2 | exact ((Grew.refl _).drew).trans g2 | exact ((Grew.refl _).drewN _).trans g2)
          have Bz := (gz.turn []).other (heap_alloc_last w1 (.cells #[.int .i64 0, .bool false, .int .i64 0] 39)) (by simp)
          have HBy := Hid.mk' Bz; have hly := lt_of_obj Bz
          have q0 := cell_of Bz 0; have p0 := free_of Bz 0; have q1 := cell_of Bz 1; have p1 := free_of Bz 1; have q2 := cell_of Bz 2; have p2 := free_of Bz 2
          simp at q0 q1 q2
          clear gz Bz)
       | skip
       clear g2 gg2)
    | fail)
  all_goals
    go_wp2_with fail
    go_ret
    exact ⟨rfl, (by repeat (first | with_reducible exact G2.out | refine .set ?_ (Nat.le_refl _) _ | refine .set ?_ G1.out.2 _ | refine .set ?_ G2.out.2 _ | refine .alloc ?_ _ | refine .drewN ?_ _ | refine .drew ?_))⟩
theorem localTee_un (A : StA gv L W0 w C lv fv ov g c lo fr ops fs x S es) {n : Nat} (h32 : n < 4294967296) (hx : es[11]? = some (.int .u32 (n : Int))) {p : LO} (hp : lo[n]? = some p) (h0 : (popsR (matB L) x.height x.dead [p.kind].reverse ops).1 ≠ 0) :
    Calls Tryz.prog 76 #[.pointer (some ⟨S, 0, none⟩)] w fun en w' => en = .returned (.int .i64 (popsR (matB L) x.height x.dead [p.kind].reverse ops).1) ∧ KB W0.heap.size w w' := by
  have CG : Hid (∀ X, Grew w X → Calls Tryz.prog 149 #[.pointer (some ⟨C, 0, none⟩), .int .u32 (n : Int)] X fun en w' => en = .returned (.tuple #[.agg #[.int .i64 p.kind.num, .bool p.kind.null, .int .i64 p.kind.heap], .int .i64 0]) ∧ Grew X w') := fun X k => localT_in (A.h.grew k) hp h32
  have CN : Hid (∀ X, Calls Tryz.prog 147 #[.agg #[.int .i64 p.kind.num, .bool p.kind.null, .int .i64 p.kind.heap], .int .i64 0] X fun en w' => en = .returned (.tuple #[.agg #[.int .i64 p.kind.num, .bool p.kind.null, .int .i64 p.kind.heap], .int .i64 0]) ∧ Grew X w') := fun X => named_any p.kind.num p.kind.heap p.kind.null 0 X
  have CLi : Hid (∀ v X, Calls Tryz.prog 144 #[v] X fun en w' => en = .returned v ∧ w' = X) := list_any
  have CP : Hid (∀ X u b m c', Grew w X → LV X u [⟨p.kind.num, p.kind.null, p.kind.heap⟩] → LV X (.slice (some ⟨b, 0, none⟩) m c') [⟨p.kind.num, p.kind.null, p.kind.heap⟩] → (w.heap.size ≤ b ∧ b < X.heap.size) → Calls Tryz.prog 146 #[.pointer (some ⟨C, 0, none⟩), u, .slice (some ⟨b, 0, none⟩) m c'] X fun en w' => MP gv W0 w X C lv g c fs x (popsR (matB L) x.height x.dead [p.kind].reverse ops).1 lo fr ((popsR (matB L) x.height x.dead [p.kind].reverse ops).2 ++ [p.kind]) en w' ∧ FR w X w') := fun X u b m c' k h1 h2 h3 => A.swapQ k h1 h2 h3 (by simp)
  generalize (popsR (matB L) x.height x.dead [p.kind].reverse ops) = RR at *
  obtain ⟨e, o'⟩ := RR
  have hne : (e == 0) = false := by simp only at h0; simpa using h0
  clear h0
  have s0 := A.cell A.hc
  have s1 := A.cell hx
  have hS := lt_of_obj A.N
  have hne1 : S ≠ w.heap.size := Nat.ne_of_lt hS
  have hne2 : w.heap.size ≠ S := Nat.ne_of_gt hS
  have HX := Hid.mk' hx
  have HAA := Hid.mk' A
  clear A hx hp
  go_enter Tryz.func76, Tryz.ntmps76
  go_wp2_with fail
  go_region_held3 (fun w' => w'.cell? ⟨S, 9, none⟩ = some (.pointer (some ⟨C, 0, none⟩)) ∧ w'.cell? ⟨S, 11, none⟩ = some (.int .u32 (n : Int))) (go_keep) (first
    | (with_reducible refine (CG.out _ ?gr).mono ?_
       case gr => exact (by repeat (first | with_reducible exact .refl _ | refine .alloc ?_ _ | refine .drewN ?_ _ | refine .drew ?_))
       rintro en w1 ⟨rfl, g1⟩
       have gg1 : Grew w w1 := Grew.trans (by repeat (first | with_reducible exact .refl _ | refine .alloc ?_ _ | refine .drewN ?_ _ | refine .drew ?_)) g1
       have G1 := Hid.mk' gg1
       have t0 := cell_grew s0 gg1
       have t1 := cell_grew s1 gg1
       have hne3 : S ≠ w1.heap.size := Nat.ne_of_lt (Nat.lt_of_lt_of_le hS gg1.2)
       have hne4 : w1.heap.size ≠ S := Ne.symm hne3
       first
       | (have gz : Grew (w.alloc (.cells #[.int .i64 0, .bool false, .int .i64 0] 39)) w1 := (by first | exact g1 | exact ((Grew.refl _).drew).trans g1 | exact ((Grew.refl _).drewN _).trans g1)
          have Bz := (gz.turn []).other (heap_alloc_last w (.cells #[.int .i64 0, .bool false, .int .i64 0] 39)) (by simp)
          have HBz := Hid.mk' Bz; have hlz := lt_of_obj Bz
          have y0 := cell_of Bz 0; have r0 := free_of Bz 0; have y1 := cell_of Bz 1; have r1 := free_of Bz 1; have y2 := cell_of Bz 2; have r2 := free_of Bz 2
          simp at y0 y1 y2
          clear gz Bz)
       | skip
       clear g1 gg1)
    | (with_reducible refine (CN.out _).mono ?_
       rintro en w2 ⟨rfl, g2⟩
       have gg2 : Grew w w2 := Grew.trans (by repeat (first | with_reducible exact G1.out | with_reducible exact .refl _ | refine .alloc ?_ _ | refine .drewN ?_ _ | refine .drew ?_)) g2
       have G2 := Hid.mk' gg2
       have u0 := cell_grew s0 gg2
       have u1 := cell_grew s1 gg2
       have hne5 : S ≠ w2.heap.size := Nat.ne_of_lt (Nat.lt_of_lt_of_le hS gg2.2)
       have hne6 : w2.heap.size ≠ S := Ne.symm hne5
       first
       | (have Bz := (g2.turn []).other HBz.out (by simp)
          have HBy := Hid.mk' Bz; have hly := lt_of_obj Bz
          have q0 := cell_of Bz 0; have p0 := free_of Bz 0; have q1 := cell_of Bz 1; have p1 := free_of Bz 1; have q2 := cell_of Bz 2; have p2 := free_of Bz 2
          simp at q0 q1 q2
          clear Bz)
       | (have gz : Grew (w1.alloc (.cells #[.int .i64 0, .bool false, .int .i64 0] 39)) w2 := (by first | exact g2 | exact ((Grew.refl _).drew).trans g2 | exact ((Grew.refl _).drewN _).trans g2)
          have Bz := (gz.turn []).other (heap_alloc_last w1 (.cells #[.int .i64 0, .bool false, .int .i64 0] 39)) (by simp)
          have HBy := Hid.mk' Bz; have hly := lt_of_obj Bz
          have q0 := cell_of Bz 0; have p0 := free_of Bz 0; have q1 := cell_of Bz 1; have p1 := free_of Bz 1; have q2 := cell_of Bz 2; have p2 := free_of Bz 2
          simp at q0 q1 q2
          clear gz Bz)
       | skip
       clear g2 gg2)
    | fail)
  all_goals
    go_wp2_with fail
    first
    | (have B2 : (((w2.setCell ⟨w.heap.size, 0, none⟩ (.int .i64 p.kind.num)).setCell ⟨w.heap.size, 1, none⟩ (.bool p.kind.null)).setCell ⟨w.heap.size, 2, none⟩ (.int .i64 p.kind.heap)).heap[w.heap.size]? = some (.cells #[.int .i64 p.kind.num, .bool p.kind.null, .int .i64 p.kind.heap] 39 (0, 0)) := (heap_set (heap_set (heap_set HBy.out 0 (.int .i64 p.kind.num)) 1 (.bool p.kind.null)) 2 (.int .i64 p.kind.heap))
       have gg3 : Grew w (((w2.setCell ⟨w.heap.size, 0, none⟩ (.int .i64 p.kind.num)).setCell ⟨w.heap.size, 1, none⟩ (.bool p.kind.null)).setCell ⟨w.heap.size, 2, none⟩ (.int .i64 p.kind.heap)) := (((G2.out.set (p := ⟨w.heap.size, 0, none⟩) (Nat.le_refl _) (.int .i64 p.kind.num)).set (p := ⟨w.heap.size, 1, none⟩) (Nat.le_refl _) (.bool p.kind.null)).set (p := ⟨w.heap.size, 2, none⟩) (Nat.le_refl _) (.int .i64 p.kind.heap))
       have hq : w.heap.size ≤ w.heap.size := Nat.le_refl _
       have HB3 := Hid.mk' B2
       have HG3 := Hid.mk' gg3
       clear B2 gg3
       generalize (((w2.setCell ⟨w.heap.size, 0, none⟩ (.int .i64 p.kind.num)).setCell ⟨w.heap.size, 1, none⟩ (.bool p.kind.null)).setCell ⟨w.heap.size, 2, none⟩ (.int .i64 p.kind.heap)) = w3 at HB3 HG3 ⊢
       obtain ⟨q, hqq, HQ3⟩ : ∃ q, q = w.heap.size ∧ Hid (w.heap.size ≤ q) := ⟨_, rfl, hq⟩
       clear hq
       rw [← hqq] at HB3
       simp only [← hqq]
       clear hqq)
    | (have B2 : (((w2.setCell ⟨w1.heap.size, 0, none⟩ (.int .i64 p.kind.num)).setCell ⟨w1.heap.size, 1, none⟩ (.bool p.kind.null)).setCell ⟨w1.heap.size, 2, none⟩ (.int .i64 p.kind.heap)).heap[w1.heap.size]? = some (.cells #[.int .i64 p.kind.num, .bool p.kind.null, .int .i64 p.kind.heap] 39 (0, 0)) := (heap_set (heap_set (heap_set HBy.out 0 (.int .i64 p.kind.num)) 1 (.bool p.kind.null)) 2 (.int .i64 p.kind.heap))
       have gg3 : Grew w (((w2.setCell ⟨w1.heap.size, 0, none⟩ (.int .i64 p.kind.num)).setCell ⟨w1.heap.size, 1, none⟩ (.bool p.kind.null)).setCell ⟨w1.heap.size, 2, none⟩ (.int .i64 p.kind.heap)) := (((G2.out.set (p := ⟨w1.heap.size, 0, none⟩) G1.out.2 (.int .i64 p.kind.num)).set (p := ⟨w1.heap.size, 1, none⟩) G1.out.2 (.bool p.kind.null)).set (p := ⟨w1.heap.size, 2, none⟩) G1.out.2 (.int .i64 p.kind.heap))
       have hq : w.heap.size ≤ w1.heap.size := G1.out.2
       have HB3 := Hid.mk' B2
       have HG3 := Hid.mk' gg3
       clear B2 gg3
       generalize (((w2.setCell ⟨w1.heap.size, 0, none⟩ (.int .i64 p.kind.num)).setCell ⟨w1.heap.size, 1, none⟩ (.bool p.kind.null)).setCell ⟨w1.heap.size, 2, none⟩ (.int .i64 p.kind.heap)) = w3 at HB3 HG3 ⊢
       obtain ⟨q, hqq, HQ3⟩ : ∃ q, q = w1.heap.size ∧ Hid (w.heap.size ≤ q) := ⟨_, rfl, hq⟩
       clear hq
       rw [← hqq] at HB3
       simp only [← hqq]
       clear hqq)
    | (have B2 : (w2.alloc (.cells #[.int .i64 p.kind.num, .bool p.kind.null, .int .i64 p.kind.heap] 39)).heap[w2.heap.size]? = some (.cells #[.int .i64 p.kind.num, .bool p.kind.null, .int .i64 p.kind.heap] 39 (0, 0)) := heap_alloc_last _ _
       have gg3 : Grew w (w2.alloc (.cells #[.int .i64 p.kind.num, .bool p.kind.null, .int .i64 p.kind.heap] 39)) := G2.out.alloc _
       have hq : w.heap.size ≤ w2.heap.size := G2.out.2
       have HB3 := Hid.mk' B2
       have HG3 := Hid.mk' gg3
       clear B2 gg3
       generalize w2.alloc (.cells #[.int .i64 p.kind.num, .bool p.kind.null, .int .i64 p.kind.heap] 39) = w3 at HB3 HG3 ⊢
       obtain ⟨q, hqq, HQ3⟩ : ∃ q, q = w2.heap.size ∧ Hid (w.heap.size ≤ q) := ⟨_, rfl, hq⟩
       clear hq
       rw [← hqq] at HB3
       simp only [← hqq]
       clear hqq)
    have A3 := HAA.out.grew HG3.out
    have s9 := A3.cell A3.hc
    have s11 := A3.cell HX.out
    have z0 := cell_of HB3.out 0; have z1 := cell_of HB3.out 1; have z2 := cell_of HB3.out 2
    simp at z0 z1 z2
    clear A3
    have hq3 := lt_of_obj HB3.out
    go_wp2_with fail
    go_region_held3 (fun w' => w'.cell? ⟨S, 9, none⟩ = some (.pointer (some ⟨C, 0, none⟩)) ∧ w'.cell? ⟨q, 0, none⟩ = some (.int .i64 p.kind.num) ∧ w'.cell? ⟨q, 1, none⟩ = some (.bool p.kind.null) ∧ w'.cell? ⟨q, 2, none⟩ = some (.int .i64 p.kind.heap)) (go_keep) (first
    | (with_reducible refine (CLi.out _ _).mono ?_
       rintro en wl ⟨rfl, hwl⟩
       obtain rfl := hwl.symm
       clear hwl)
    | (with_reducible refine (CP.out _ _ _ _ _ ?gr ?h1 ?h2 ?h3).mono ?_
       case gr => exact (by repeat (first | with_reducible exact HG3.out | with_reducible exact .refl _ | refine .alloc ?_ _ | refine .drewN ?_ _ | refine .drew ?_))
       case h1 => exact (lv_1 (by go_simp) (by go_simp) (by go_simp))
       case h2 => exact (lv_1 (by go_simp) (by go_simp) (by go_simp))
       case h3 => exact ⟨by (have h1 := HG3.out.2; first | (simp; omega) | omega), by first | (simp; done) | (simp; omega)⟩
       rintro en w5 ⟨⟨rfl, kb, sk, _⟩, qq⟩
       have sk3 : SK w w5 := SK.trans (Grew.sk (by repeat (first | with_reducible exact HG3.out | with_reducible exact .refl _ | refine .alloc ?_ _ | refine .drewN ?_ _ | refine .drew ?_))) sk
       have N5 : w5.heap[S]? = some (.cells es 96 (0, 0)) := sk _ _ _ _ (by decide) (by decide) (Turn.other (Grew.turn (by repeat (first | with_reducible exact .refl _ | refine .alloc ?_ _ | refine .drewN ?_ _ | refine .drew ?_)) []) (HAA.out.grew HG3.out).N (by simp))
       have t9 := (cell_of N5 9).trans HAA.out.hc
       have t11 := (cell_of N5 11).trans HX.out
       have hS5 := lt_of_obj N5
       have B5 : w5.heap[q]? = some (.cells #[.int .i64 p.kind.num, .bool p.kind.null, .int .i64 p.kind.heap] 39 (0, 0)) := qq _ _ HQ3.out (Turn.other (Grew.turn (by repeat (first | with_reducible exact .refl _ | refine .alloc ?_ _ | refine .drewN ?_ _ | refine .drew ?_)) []) HB3.out (by simp))
       have t0 := cell_of B5 0; have t1 := cell_of B5 1; have t2 := cell_of B5 2
       simp at t0 t1 t2
       have HF := Hid.mk' kb
       have HN5 := Hid.mk' N5
       clear kb sk sk3 N5 B5 qq)
    | fail)
    all_goals
      go_wp2_with fail
      go_ret
      exact ⟨rfl, HF.out⟩
theorem localTee_ok (A : StA gv L W0 w C lv fv ov g c lo fr ops fs x S es) {n : Nat} (h32 : n < 4294967296) (hx : es[11]? = some (.int .u32 (n : Int))) {p : LO} (hp : lo[n]? = some p) (hfr : fr.length ≤ 4194304) (h0 : (popsR (matB L) x.height x.dead [p.kind].reverse ops).1 = 0) :
    Calls Tryz.prog 76 #[.pointer (some ⟨S, 0, none⟩)] w fun en w' => en = .returned (.int .i64 0) ∧ KB W0.heap.size w w' ∧ ∃ fv' ov', CHG gv W0.heap.size w' C lv fv' ov' (.slice (some ⟨g, 0, none⟩) (fs.length + 1) c) (setL lo fr n p).1 (setL lo fr n p).2 ((popsR (matB L) x.height x.dead [p.kind].reverse ops).2 ++ [p.kind]) (fs ++ [x]) := by
  have CG : Hid (∀ X, Grew w X → Calls Tryz.prog 149 #[.pointer (some ⟨C, 0, none⟩), .int .u32 (n : Int)] X fun en w' => en = .returned (.tuple #[.agg #[.int .i64 p.kind.num, .bool p.kind.null, .int .i64 p.kind.heap], .int .i64 0]) ∧ Grew X w') := fun X k => localT_in (A.h.grew k) hp h32
  have CN : Hid (∀ X, Calls Tryz.prog 147 #[.agg #[.int .i64 p.kind.num, .bool p.kind.null, .int .i64 p.kind.heap], .int .i64 0] X fun en w' => en = .returned (.tuple #[.agg #[.int .i64 p.kind.num, .bool p.kind.null, .int .i64 p.kind.heap], .int .i64 0]) ∧ Grew X w') := fun X => named_any p.kind.num p.kind.heap p.kind.null 0 X
  have CLi : Hid (∀ v X, Calls Tryz.prog 144 #[v] X fun en w' => en = .returned v ∧ w' = X) := list_any
  have CP : Hid (∀ X u b m c', Grew w X → LV X u [⟨p.kind.num, p.kind.null, p.kind.heap⟩] → LV X (.slice (some ⟨b, 0, none⟩) m c') [⟨p.kind.num, p.kind.null, p.kind.heap⟩] → (w.heap.size ≤ b ∧ b < X.heap.size) → Calls Tryz.prog 146 #[.pointer (some ⟨C, 0, none⟩), u, .slice (some ⟨b, 0, none⟩) m c'] X fun en w' => MP gv W0 w X C lv g c fs x (popsR (matB L) x.height x.dead [p.kind].reverse ops).1 lo fr ((popsR (matB L) x.height x.dead [p.kind].reverse ops).2 ++ [p.kind]) en w' ∧ FR w X w') := fun X u b m c' k h1 h2 h3 => A.swapQ k h1 h2 h3 (by simp)
  have CS : Hid (∀ X fv ov' o, KB W0.heap.size w X → CHG gv W0.heap.size X C lv fv ov' (.slice (some ⟨g, 0, none⟩) (fs.length + 1) c) lo fr o (fs ++ [x]) → Calls Tryz.prog 150 #[.pointer (some ⟨C, 0, none⟩), .int .u32 (n : Int)] X fun en w' => en = .returned (.tuple #[.agg #[.int .i64 p.kind.num, .bool p.kind.null, .int .i64 p.kind.heap], .int .i64 0]) ∧ KB W0.heap.size w w' ∧ SL X w' ∧ ∃ fv' ov', CHG gv W0.heap.size w' C lv fv' ov' (.slice (some ⟨g, 0, none⟩) (fs.length + 1) c) (setL lo fr n p).1 (setL lo fr n p).2 o (fs ++ [x])) := fun X fv ov' o kb h => (setM_in h hp h32 hfr (Nat.le_trans A.hB kb.2)).mono (by rintro en w' ⟨fv', rfl, k1, k2, k3⟩; exact ⟨rfl, kb.trans k2, k3, fv', ov', k1⟩)
  generalize (popsR (matB L) x.height x.dead [p.kind].reverse ops) = RR at *
  obtain ⟨e, o'⟩ := RR
  obtain rfl : e = 0 := h0
  have hBw := Hid.mk' A.hB
  have s0 := A.cell A.hc
  have s1 := A.cell hx
  have hS := lt_of_obj A.N
  have hne1 : S ≠ w.heap.size := Nat.ne_of_lt hS
  have hne2 : w.heap.size ≠ S := Nat.ne_of_gt hS
  have HX := Hid.mk' hx
  have HAA := Hid.mk' A
  clear A hx hp
  go_enter Tryz.func76, Tryz.ntmps76
  go_wp2_with fail
  go_region_held3 (fun w' => w'.cell? ⟨S, 9, none⟩ = some (.pointer (some ⟨C, 0, none⟩)) ∧ w'.cell? ⟨S, 11, none⟩ = some (.int .u32 (n : Int))) (go_keep) (first
    | (with_reducible refine (CG.out _ ?gr).mono ?_
       case gr => exact (by repeat (first | with_reducible exact .refl _ | refine .alloc ?_ _ | refine .drewN ?_ _ | refine .drew ?_))
       rintro en w1 ⟨rfl, g1⟩
       have gg1 : Grew w w1 := Grew.trans (by repeat (first | with_reducible exact .refl _ | refine .alloc ?_ _ | refine .drewN ?_ _ | refine .drew ?_)) g1
       have G1 := Hid.mk' gg1
       have t0 := cell_grew s0 gg1
       have t1 := cell_grew s1 gg1
       have hne3 : S ≠ w1.heap.size := Nat.ne_of_lt (Nat.lt_of_lt_of_le hS gg1.2)
       have hne4 : w1.heap.size ≠ S := Ne.symm hne3
       first
       | (have gz : Grew (w.alloc (.cells #[.int .i64 0, .bool false, .int .i64 0] 39)) w1 := (by first | exact g1 | exact ((Grew.refl _).drew).trans g1 | exact ((Grew.refl _).drewN _).trans g1)
          have Bz := (gz.turn []).other (heap_alloc_last w (.cells #[.int .i64 0, .bool false, .int .i64 0] 39)) (by simp)
          have HBz := Hid.mk' Bz; have hlz := lt_of_obj Bz
          have y0 := cell_of Bz 0; have r0 := free_of Bz 0; have y1 := cell_of Bz 1; have r1 := free_of Bz 1; have y2 := cell_of Bz 2; have r2 := free_of Bz 2
          simp at y0 y1 y2
          clear gz Bz)
       | skip
       clear g1 gg1)
    | (with_reducible refine (CN.out _).mono ?_
       rintro en w2 ⟨rfl, g2⟩
       have gg2 : Grew w w2 := Grew.trans (by repeat (first | with_reducible exact G1.out | with_reducible exact .refl _ | refine .alloc ?_ _ | refine .drewN ?_ _ | refine .drew ?_)) g2
       have G2 := Hid.mk' gg2
       have u0 := cell_grew s0 gg2
       have u1 := cell_grew s1 gg2
       have hne5 : S ≠ w2.heap.size := Nat.ne_of_lt (Nat.lt_of_lt_of_le hS gg2.2)
       have hne6 : w2.heap.size ≠ S := Ne.symm hne5
       first
       | (have Bz := (g2.turn []).other HBz.out (by simp)
          have HBy := Hid.mk' Bz; have hly := lt_of_obj Bz
          have q0 := cell_of Bz 0; have p0 := free_of Bz 0; have q1 := cell_of Bz 1; have p1 := free_of Bz 1; have q2 := cell_of Bz 2; have p2 := free_of Bz 2
          simp at q0 q1 q2
          clear Bz)
       | (have gz : Grew (w1.alloc (.cells #[.int .i64 0, .bool false, .int .i64 0] 39)) w2 := (by first | exact g2 | exact ((Grew.refl _).drew).trans g2 | exact ((Grew.refl _).drewN _).trans g2)
          have Bz := (gz.turn []).other (heap_alloc_last w1 (.cells #[.int .i64 0, .bool false, .int .i64 0] 39)) (by simp)
          have HBy := Hid.mk' Bz; have hly := lt_of_obj Bz
          have q0 := cell_of Bz 0; have p0 := free_of Bz 0; have q1 := cell_of Bz 1; have p1 := free_of Bz 1; have q2 := cell_of Bz 2; have p2 := free_of Bz 2
          simp at q0 q1 q2
          clear gz Bz)
       | skip
       clear g2 gg2)
    | fail)
  all_goals
    go_wp2_with fail
    first
    | (have B2 : (((w2.setCell ⟨w.heap.size, 0, none⟩ (.int .i64 p.kind.num)).setCell ⟨w.heap.size, 1, none⟩ (.bool p.kind.null)).setCell ⟨w.heap.size, 2, none⟩ (.int .i64 p.kind.heap)).heap[w.heap.size]? = some (.cells #[.int .i64 p.kind.num, .bool p.kind.null, .int .i64 p.kind.heap] 39 (0, 0)) := (heap_set (heap_set (heap_set HBy.out 0 (.int .i64 p.kind.num)) 1 (.bool p.kind.null)) 2 (.int .i64 p.kind.heap))
       have gg3 : Grew w (((w2.setCell ⟨w.heap.size, 0, none⟩ (.int .i64 p.kind.num)).setCell ⟨w.heap.size, 1, none⟩ (.bool p.kind.null)).setCell ⟨w.heap.size, 2, none⟩ (.int .i64 p.kind.heap)) := (((G2.out.set (p := ⟨w.heap.size, 0, none⟩) (Nat.le_refl _) (.int .i64 p.kind.num)).set (p := ⟨w.heap.size, 1, none⟩) (Nat.le_refl _) (.bool p.kind.null)).set (p := ⟨w.heap.size, 2, none⟩) (Nat.le_refl _) (.int .i64 p.kind.heap))
       have hq : w.heap.size ≤ w.heap.size := Nat.le_refl _
       have HB3 := Hid.mk' B2
       have HG3 := Hid.mk' gg3
       clear B2 gg3
       generalize (((w2.setCell ⟨w.heap.size, 0, none⟩ (.int .i64 p.kind.num)).setCell ⟨w.heap.size, 1, none⟩ (.bool p.kind.null)).setCell ⟨w.heap.size, 2, none⟩ (.int .i64 p.kind.heap)) = w3 at HB3 HG3 ⊢
       obtain ⟨q, hqq, HQ3⟩ : ∃ q, q = w.heap.size ∧ Hid (w.heap.size ≤ q) := ⟨_, rfl, hq⟩
       clear hq
       rw [← hqq] at HB3
       simp only [← hqq]
       clear hqq)
    | (have B2 : (((w2.setCell ⟨w1.heap.size, 0, none⟩ (.int .i64 p.kind.num)).setCell ⟨w1.heap.size, 1, none⟩ (.bool p.kind.null)).setCell ⟨w1.heap.size, 2, none⟩ (.int .i64 p.kind.heap)).heap[w1.heap.size]? = some (.cells #[.int .i64 p.kind.num, .bool p.kind.null, .int .i64 p.kind.heap] 39 (0, 0)) := (heap_set (heap_set (heap_set HBy.out 0 (.int .i64 p.kind.num)) 1 (.bool p.kind.null)) 2 (.int .i64 p.kind.heap))
       have gg3 : Grew w (((w2.setCell ⟨w1.heap.size, 0, none⟩ (.int .i64 p.kind.num)).setCell ⟨w1.heap.size, 1, none⟩ (.bool p.kind.null)).setCell ⟨w1.heap.size, 2, none⟩ (.int .i64 p.kind.heap)) := (((G2.out.set (p := ⟨w1.heap.size, 0, none⟩) G1.out.2 (.int .i64 p.kind.num)).set (p := ⟨w1.heap.size, 1, none⟩) G1.out.2 (.bool p.kind.null)).set (p := ⟨w1.heap.size, 2, none⟩) G1.out.2 (.int .i64 p.kind.heap))
       have hq : w.heap.size ≤ w1.heap.size := G1.out.2
       have HB3 := Hid.mk' B2
       have HG3 := Hid.mk' gg3
       clear B2 gg3
       generalize (((w2.setCell ⟨w1.heap.size, 0, none⟩ (.int .i64 p.kind.num)).setCell ⟨w1.heap.size, 1, none⟩ (.bool p.kind.null)).setCell ⟨w1.heap.size, 2, none⟩ (.int .i64 p.kind.heap)) = w3 at HB3 HG3 ⊢
       obtain ⟨q, hqq, HQ3⟩ : ∃ q, q = w1.heap.size ∧ Hid (w.heap.size ≤ q) := ⟨_, rfl, hq⟩
       clear hq
       rw [← hqq] at HB3
       simp only [← hqq]
       clear hqq)
    | (have B2 : (w2.alloc (.cells #[.int .i64 p.kind.num, .bool p.kind.null, .int .i64 p.kind.heap] 39)).heap[w2.heap.size]? = some (.cells #[.int .i64 p.kind.num, .bool p.kind.null, .int .i64 p.kind.heap] 39 (0, 0)) := heap_alloc_last _ _
       have gg3 : Grew w (w2.alloc (.cells #[.int .i64 p.kind.num, .bool p.kind.null, .int .i64 p.kind.heap] 39)) := G2.out.alloc _
       have hq : w.heap.size ≤ w2.heap.size := G2.out.2
       have HB3 := Hid.mk' B2
       have HG3 := Hid.mk' gg3
       clear B2 gg3
       generalize w2.alloc (.cells #[.int .i64 p.kind.num, .bool p.kind.null, .int .i64 p.kind.heap] 39) = w3 at HB3 HG3 ⊢
       obtain ⟨q, hqq, HQ3⟩ : ∃ q, q = w2.heap.size ∧ Hid (w.heap.size ≤ q) := ⟨_, rfl, hq⟩
       clear hq
       rw [← hqq] at HB3
       simp only [← hqq]
       clear hqq)
    have A3 := HAA.out.grew HG3.out
    have s9 := A3.cell A3.hc
    have s11 := A3.cell HX.out
    have z0 := cell_of HB3.out 0; have z1 := cell_of HB3.out 1; have z2 := cell_of HB3.out 2
    simp at z0 z1 z2
    clear A3
    have hq3 := lt_of_obj HB3.out
    go_wp2_with fail
    go_region_held3 (fun w' => w'.cell? ⟨S, 9, none⟩ = some (.pointer (some ⟨C, 0, none⟩)) ∧ w'.cell? ⟨q, 0, none⟩ = some (.int .i64 p.kind.num) ∧ w'.cell? ⟨q, 1, none⟩ = some (.bool p.kind.null) ∧ w'.cell? ⟨q, 2, none⟩ = some (.int .i64 p.kind.heap)) (go_keep) (first
    | (with_reducible refine (CLi.out _ _).mono ?_
       rintro en wl ⟨rfl, hwl⟩
       obtain rfl := hwl.symm
       clear hwl)
    | (with_reducible refine (CP.out _ _ _ _ _ ?gr ?h1 ?h2 ?h3).mono ?_
       case gr => exact (by repeat (first | with_reducible exact HG3.out | with_reducible exact .refl _ | refine .alloc ?_ _ | refine .drewN ?_ _ | refine .drew ?_))
       case h1 => exact (lv_1 (by go_simp) (by go_simp) (by go_simp))
       case h2 => exact (lv_1 (by go_simp) (by go_simp) (by go_simp))
       case h3 => exact ⟨by (have h1 := HG3.out.2; first | (simp; omega) | omega), by first | (simp; done) | (simp; omega)⟩
       rintro en w5 ⟨⟨rfl, kb, sk, hk⟩, qq⟩
       have sk3 : SK w w5 := SK.trans (Grew.sk (by repeat (first | with_reducible exact HG3.out | with_reducible exact .refl _ | refine .alloc ?_ _ | refine .drewN ?_ _ | refine .drew ?_))) sk
       have N5 : w5.heap[S]? = some (.cells es 96 (0, 0)) := sk _ _ _ _ (by decide) (by decide) (Turn.other (Grew.turn (by repeat (first | with_reducible exact .refl _ | refine .alloc ?_ _ | refine .drewN ?_ _ | refine .drew ?_)) []) (HAA.out.grew HG3.out).N (by simp))
       have t9 := (cell_of N5 9).trans HAA.out.hc
       have t11 := (cell_of N5 11).trans HX.out
       have hS5 := lt_of_obj N5
       have B5 : w5.heap[q]? = some (.cells #[.int .i64 p.kind.num, .bool p.kind.null, .int .i64 p.kind.heap] 39 (0, 0)) := qq _ _ HQ3.out (Turn.other (Grew.turn (by repeat (first | with_reducible exact .refl _ | refine .alloc ?_ _ | refine .drewN ?_ _ | refine .drew ?_)) []) HB3.out (by simp))
       have t0 := cell_of B5 0; have t1 := cell_of B5 1; have t2 := cell_of B5 2
       simp at t0 t1 t2
       obtain ⟨fv5, ov5, hk⟩ := hk (by first | rfl | trivial)
       have HF := Hid.mk' kb; have HK := Hid.mk' hk
       clear hk
       have HN5 := Hid.mk' N5
       clear kb sk sk3 N5 B5 qq)
    | fail)
    all_goals
      go_wp2_with fail
      go_region_held3 (fun w' => w'.cell? ⟨S, 9, none⟩ = some (.pointer (some ⟨C, 0, none⟩)) ∧ w'.cell? ⟨S, 11, none⟩ = some (.int .u32 (n : Int))) (go_keep) (first
      | (with_reducible refine (CS.out _ fv5 ov5 (o' ++ [p.kind]) ?kk ?hh).mono ?_
         case hh => first | exact HK.out | exact HK.out.grew (by repeat (first | with_reducible exact .refl _ | refine .alloc ?_ _ | refine .drewN ?_ _ | refine .drew ?_))
         case kk => first | exact HF.out | exact HF.out.trans (Grew.kb (by repeat (first | with_reducible exact .refl _ | refine .alloc ?_ _ | refine .drewN ?_ _ | refine .drew ?_)) (Nat.le_trans hBw.out HF.out.2))
         rintro en w6 ⟨rfl, kb, sl, hk⟩
         have HE := Hid.mk' (And.intro kb hk)
         have N6 : w6.heap[S]? = some (.cells es 96 (0, 0)) := sl _ _ _ _ (by decide) (by decide) (by decide) (by decide) (Turn.other (Grew.turn (by repeat (first | with_reducible exact .refl _ | refine .alloc ?_ _ | refine .drewN ?_ _ | refine .drew ?_)) []) HN5.out (by simp))
         have x9 := (cell_of N6 9).trans HAA.out.hc
         have x11 := (cell_of N6 11).trans HX.out
         clear kb hk sl N6)
      | fail)
      all_goals
        go_wp2_with fail
        go_ret
        first
        | exact ⟨rfl, HE.out⟩
        | (obtain ⟨k1, fv', ov', k2⟩ := HE.out
           have gg : Grew w6 (w6.alloc (.cells #[.int .i64 p.kind.num, .bool p.kind.null, .int .i64 p.kind.heap] 39)) := (Grew.refl _).alloc _
           exact ⟨rfl, k1.trans (gg.kb (Nat.le_trans hBw.out k1.2)), fv', ov', k2.grew gg⟩)
end
end Go.Proofs.YtikaidokllnifaaGreatDoor
