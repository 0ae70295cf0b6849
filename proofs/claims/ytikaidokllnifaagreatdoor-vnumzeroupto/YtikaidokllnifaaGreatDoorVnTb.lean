/-
  Steps of vnum: table.set, table.grow; no statement is proved here.
-/
import Derived.Test.YtikaidokllnifaaGreatDoorVnTj
import Derived.Deep.RegionHeld3
set_option maxRecDepth 100000
set_option maxHeartbeats 8000000
namespace Go.Proofs.YtikaidokllnifaaGreatDoor
open Go.RowKit
set_option linter.unusedVariables false
set_option linter.unusedSimpArgs false
section
variable {gv : Value} {L : List RT} {W0 w : World} {C : Nat} {lv fv ov : Value} {g c : Nat} {lo : List LO} {fr : List Int} {ops : List VT} {fs : List FV} {x : FV} {S : Nat} {es : Array Value}
theorem tableSet_out (A : StA gv L W0 w C lv fv ov g c lo fr ops fs x S es) {n : Nat} (h32 : n < 4294967296) (hx : es[11]? = some (.int .u32 (n : Int))) {mv : Value} {M : List TBt} (hm : es[2]? = some mv) (hM : LTb w mv M) (hn : M.length ≤ n) :
    Calls Tryz.prog 80 #[.pointer (some ⟨S, 0, none⟩)] w fun en w' => en = .returned (.int .i64 150) ∧ Grew w w' := by
  have CAt : Hid (∀ X, Grew w X → Calls Tryz.prog 152 #[mv, .int .u32 (n : Int)] X fun en w' => en = .returned (.tuple #[.agg #[.int .i64 0, .bool false, .int .i64 0, .bool false, .int .u64 0, .int .u64 0, .bool false], .int .i64 150]) ∧ Grew X w') := fun X k => atTB_out (hM.grew k) hn h32
  have s0 := A.cell hm
  have s1 := A.cell hx
  have hS := lt_of_obj A.N
  have hne1 : S ≠ w.heap.size := Nat.ne_of_lt hS
  have hne2 : w.heap.size ≠ S := Nat.ne_of_gt hS
  obtain ⟨ma, mc, hmv, _⟩ := hM.one
  subst hmv
  clear A hx hm hM hn h32
  go_enter Tryz.func80, Tryz.ntmps80
  go_wp2_with fail
  go_region_held3 (fun w' => w'.cell? ⟨S, 2, none⟩ = some (.slice ma M.length mc) ∧ w'.cell? ⟨S, 11, none⟩ = some (.int .u32 (n : Int))) (go_keep) (first
    | (with_reducible refine (CAt.out _ ?gr).mono ?_
       case gr => exact (by repeat (first | with_reducible exact .refl _ | refine .alloc ?_ _ | refine .drewN ?_ _ | refine .drew ?_))
       rintro en w1 ⟨rfl, g1⟩
       have gg1 : Grew w w1 := Grew.trans (by repeat (first | with_reducible exact .refl _ | refine .alloc ?_ _ | refine .drewN ?_ _ | refine .drew ?_)) g1
       have G1 := Hid.mk' gg1
       have s10 := cell_grew s0 gg1
       have s11 := cell_grew s1 gg1
       first
       | (have gz : Grew (w.alloc (.cells #[.int .i64 0, .bool false, .int .i64 0, .bool false, .int .u64 0, .int .u64 0, .bool false] 179)) w1 := (by first | exact g1 | exact ((Grew.refl _).drew).trans g1 | exact ((Grew.refl _).drewN _).trans g1)
          have Bz := (gz.turn []).other (heap_alloc_last w (.cells #[.int .i64 0, .bool false, .int .i64 0, .bool false, .int .u64 0, .int .u64 0, .bool false] 179)) (by simp)
          have HBz := Hid.mk' Bz
          have hlz := lt_of_obj Bz
          have y0 := cell_of Bz 0; have r0 := free_of Bz 0; have y1 := cell_of Bz 1; have r1 := free_of Bz 1; have y2 := cell_of Bz 2; have r2 := free_of Bz 2; have y3 := cell_of Bz 3; have r3 := free_of Bz 3; have y4 := cell_of Bz 4; have r4 := free_of Bz 4; have y5 := cell_of Bz 5; have r5 := free_of Bz 5; have y6 := cell_of Bz 6; have r6 := free_of Bz 6
          simp at y0 y1 y2 y3 y4 y5 y6
          clear gz Bz)
       | skip
       clear g1 gg1))
  all_goals
    go_wp2_with fail
    go_ret
    exact ⟨rfl, (by repeat (first | with_reducible exact G1.out | refine .set ?_ (Nat.le_refl _) _ | refine .alloc ?_ _ | refine .drewN ?_ _ | refine .drew ?_))⟩
theorem tableSet_in (A : StA gv L W0 w C lv fv ov g c lo fr ops fs x S es) {n : Nat} (h32 : n < 4294967296) (hx : es[11]? = some (.int .u32 (n : Int))) {mv : Value} {M : List TBt} (hm : es[2]? = some mv) (hM : LTb w mv M) {p : TBt} (hp : M[n]? = some p) :
    Calls Tryz.prog 80 #[.pointer (some ⟨S, 0, none⟩)] w (MP gv W0 w w C lv g c fs x (popsR (matB L) x.height x.dead [⟨if p.lim.wide then 2 else 1, false, 0⟩, ⟨p.el.num, p.el.null, p.el.heap⟩].reverse ops).1 lo fr (popsR (matB L) x.height x.dead [⟨if p.lim.wide then 2 else 1, false, 0⟩, ⟨p.el.num, p.el.null, p.el.heap⟩].reverse ops).2) := by
  have CAt : Hid (∀ X, Grew w X → Calls Tryz.prog 152 #[mv, .int .u32 (n : Int)] X fun en w' => en = .returned (.tuple #[.agg #[.int .i64 p.el.num, .bool p.el.null, .int .i64 p.el.heap, .bool p.lim.wide, .int .u64 p.lim.mn, .int .u64 p.lim.mx, .bool p.lim.hm], .int .i64 0]) ∧ Grew X w') := fun X k => atTB_in (hM.grew k) hp h32
  obtain ⟨AT, hAT⟩ : ∃ AT : Int, AT = if p.lim.wide then 2 else 1 := ⟨_, rfl⟩
  rw [← hAT]
  have CA : Hid (∀ X, Calls Tryz.prog 27 #[.agg #[.bool p.lim.wide, .int .u64 p.lim.mn, .int .u64 p.lim.mx, .bool p.lim.hm]] X fun en w' => en = .returned (.agg #[.int .i64 AT, .bool false, .int .i64 0]) ∧ Grew X w') := fun X => by rw [hAT]; exact addr_any p.lim.wide p.lim.mn p.lim.mx p.lim.hm X
  have CLi : Hid (∀ v X, Calls Tryz.prog 144 #[v] X fun en w' => en = .returned v ∧ w' = X) := list_any
  have CP : Hid (∀ X v, Grew w X → LV X v [⟨AT, false, 0⟩, ⟨p.el.num, p.el.null, p.el.heap⟩] → Calls Tryz.prog 35 #[.pointer (some ⟨C, 0, none⟩), v] X (MP gv W0 w X C lv g c fs x (popsR (matB L) x.height x.dead [⟨AT, false, 0⟩, ⟨p.el.num, p.el.null, p.el.heap⟩].reverse ops).1 lo fr (popsR (matB L) x.height x.dead [⟨AT, false, 0⟩, ⟨p.el.num, p.el.null, p.el.heap⟩].reverse ops).2)) := fun X v k hl => A.pops k hl
  generalize popsR (matB L) x.height x.dead [⟨AT, false, 0⟩, ⟨p.el.num, p.el.null, p.el.heap⟩].reverse ops = RR at *
  clear hAT
  have s0 := A.cell hm
  have s1 := A.cell hx
  have s2 := A.cell A.hc
  have hS := lt_of_obj A.N
  have hne1 : S ≠ w.heap.size := Nat.ne_of_lt hS
  have hne2 : w.heap.size ≠ S := Nat.ne_of_gt hS
  have HAA := Hid.mk' A
  have HC9 := Hid.mk' A.hc
  obtain ⟨ma, mc, hmv, _⟩ := hM.one
  subst hmv
  clear A hx hm hM hp h32
  go_enter Tryz.func80, Tryz.ntmps80
  go_wp2_with fail
  go_region_held3 (fun w' => w'.cell? ⟨S, 2, none⟩ = some (.slice ma M.length mc) ∧ w'.cell? ⟨S, 11, none⟩ = some (.int .u32 (n : Int))) (go_keep) (first
    | (with_reducible refine (CAt.out _ ?gr).mono ?_
       case gr => exact (by repeat (first | with_reducible exact .refl _ | refine .alloc ?_ _ | refine .drewN ?_ _ | refine .drew ?_))
       rintro en w1 ⟨rfl, g1⟩
       have gg1 : Grew w w1 := Grew.trans (by repeat (first | with_reducible exact .refl _ | refine .alloc ?_ _ | refine .drewN ?_ _ | refine .drew ?_)) g1
       have G1 := Hid.mk' gg1
       have s10 := cell_grew s0 gg1
       have s11 := cell_grew s1 gg1
       first
       | (have gz : Grew (w.alloc (.cells #[.int .i64 0, .bool false, .int .i64 0, .bool false, .int .u64 0, .int .u64 0, .bool false] 179)) w1 := (by first | exact g1 | exact ((Grew.refl _).drew).trans g1 | exact ((Grew.refl _).drewN _).trans g1)
          have Bz := (gz.turn []).other (heap_alloc_last w (.cells #[.int .i64 0, .bool false, .int .i64 0, .bool false, .int .u64 0, .int .u64 0, .bool false] 179)) (by simp)
          have HBz := Hid.mk' Bz
          have hlz := lt_of_obj Bz
          have y0 := cell_of Bz 0; have r0 := free_of Bz 0; have y1 := cell_of Bz 1; have r1 := free_of Bz 1; have y2 := cell_of Bz 2; have r2 := free_of Bz 2; have y3 := cell_of Bz 3; have r3 := free_of Bz 3; have y4 := cell_of Bz 4; have r4 := free_of Bz 4; have y5 := cell_of Bz 5; have r5 := free_of Bz 5; have y6 := cell_of Bz 6; have r6 := free_of Bz 6
          simp at y0 y1 y2 y3 y4 y5 y6
          clear gz Bz)
       | skip
       clear g1 gg1))
  all_goals
    clear s10 s11 s0 s1 s2 CAt
    go_wp2_with fail
    first
    | (have hh0 := hlz
       have B2 : (((((((w1.setCell ⟨w.heap.size, 0, none⟩ (.int .i64 p.el.num)).setCell ⟨w.heap.size, 1, none⟩ (.bool p.el.null)).setCell ⟨w.heap.size, 2, none⟩ (.int .i64 p.el.heap)).setCell ⟨w.heap.size, 3, none⟩ (.bool p.lim.wide)).setCell ⟨w.heap.size, 4, none⟩ (.int .u64 p.lim.mn)).setCell ⟨w.heap.size, 5, none⟩ (.int .u64 p.lim.mx)).setCell ⟨w.heap.size, 6, none⟩ (.bool p.lim.hm)).heap[w.heap.size]? = some (.cells #[.int .i64 p.el.num, .bool p.el.null, .int .i64 p.el.heap, .bool p.lim.wide, .int .u64 p.lim.mn, .int .u64 p.lim.mx, .bool p.lim.hm] 179 (0, 0)) := (heap_set (heap_set (heap_set (heap_set (heap_set (heap_set (heap_set HBz.out 0 (.int .i64 p.el.num)) 1 (.bool p.el.null)) 2 (.int .i64 p.el.heap)) 3 (.bool p.lim.wide)) 4 (.int .u64 p.lim.mn)) 5 (.int .u64 p.lim.mx)) 6 (.bool p.lim.hm))
       have gg2 : Grew w (((((((w1.setCell ⟨w.heap.size, 0, none⟩ (.int .i64 p.el.num)).setCell ⟨w.heap.size, 1, none⟩ (.bool p.el.null)).setCell ⟨w.heap.size, 2, none⟩ (.int .i64 p.el.heap)).setCell ⟨w.heap.size, 3, none⟩ (.bool p.lim.wide)).setCell ⟨w.heap.size, 4, none⟩ (.int .u64 p.lim.mn)).setCell ⟨w.heap.size, 5, none⟩ (.int .u64 p.lim.mx)).setCell ⟨w.heap.size, 6, none⟩ (.bool p.lim.hm)) := (((((((G1.out.set (p := ⟨w.heap.size, 0, none⟩) (Nat.le_refl _) (.int .i64 p.el.num)).set (p := ⟨w.heap.size, 1, none⟩) (Nat.le_refl _) (.bool p.el.null)).set (p := ⟨w.heap.size, 2, none⟩) (Nat.le_refl _) (.int .i64 p.el.heap)).set (p := ⟨w.heap.size, 3, none⟩) (Nat.le_refl _) (.bool p.lim.wide)).set (p := ⟨w.heap.size, 4, none⟩) (Nat.le_refl _) (.int .u64 p.lim.mn)).set (p := ⟨w.heap.size, 5, none⟩) (Nat.le_refl _) (.int .u64 p.lim.mx)).set (p := ⟨w.heap.size, 6, none⟩) (Nat.le_refl _) (.bool p.lim.hm))
       have hq : w.heap.size ≤ w.heap.size := Nat.le_refl _
       have HB2 := Hid.mk' B2
       have HG2 := Hid.mk' gg2
       have HQ2 := Hid.mk' hq
       clear hh0 hlz y0 r0 y1 r1 y2 r2 y3 r3 y4 r4 y5 r5 y6 r6 HBz B2 gg2 hq hne1 hne2 hS
       generalize (((((((w1.setCell ⟨w.heap.size, 0, none⟩ (.int .i64 p.el.num)).setCell ⟨w.heap.size, 1, none⟩ (.bool p.el.null)).setCell ⟨w.heap.size, 2, none⟩ (.int .i64 p.el.heap)).setCell ⟨w.heap.size, 3, none⟩ (.bool p.lim.wide)).setCell ⟨w.heap.size, 4, none⟩ (.int .u64 p.lim.mn)).setCell ⟨w.heap.size, 5, none⟩ (.int .u64 p.lim.mx)).setCell ⟨w.heap.size, 6, none⟩ (.bool p.lim.hm)) = w2 at *
       obtain ⟨q, hqq⟩ : ∃ q, q = w.heap.size := ⟨_, rfl⟩
       rw [← hqq] at HB2
       simp only [← hqq]
       clear hqq HQ2)
    | (have B2 : (w1.alloc (.cells #[.int .i64 p.el.num, .bool p.el.null, .int .i64 p.el.heap, .bool p.lim.wide, .int .u64 p.lim.mn, .int .u64 p.lim.mx, .bool p.lim.hm] 179)).heap[w1.heap.size]? = some (.cells #[.int .i64 p.el.num, .bool p.el.null, .int .i64 p.el.heap, .bool p.lim.wide, .int .u64 p.lim.mn, .int .u64 p.lim.mx, .bool p.lim.hm] 179 (0, 0)) := heap_alloc_last _ _
       have gg2 : Grew w (w1.alloc (.cells #[.int .i64 p.el.num, .bool p.el.null, .int .i64 p.el.heap, .bool p.lim.wide, .int .u64 p.lim.mn, .int .u64 p.lim.mx, .bool p.lim.hm] 179)) := G1.out.alloc _
       have HB2 := Hid.mk' B2
       have HG2 := Hid.mk' gg2
       clear B2 gg2 hne1 hne2 hS
       generalize w1.alloc (.cells #[.int .i64 p.el.num, .bool p.el.null, .int .i64 p.el.heap, .bool p.lim.wide, .int .u64 p.lim.mn, .int .u64 p.lim.mx, .bool p.lim.hm] 179) = w2 at *
       obtain ⟨q, hqq⟩ : ∃ q, q = w1.heap.size := ⟨_, rfl⟩
       rw [← hqq] at HB2
       simp only [← hqq]
       clear hqq)
    have A2 := HAA.out.grew HG2.out
    have s9 := A2.cell A2.hc
    have hS2 := lt_of_obj A2.N
    have HN2 := Hid.mk' A2.N
    have hq2 := lt_of_obj HB2.out
    have y0 := cell_of HB2.out 0; have y1 := cell_of HB2.out 1; have y2 := cell_of HB2.out 2; have y3 := cell_of HB2.out 3; have y4 := cell_of HB2.out 4; have y5 := cell_of HB2.out 5; have y6 := cell_of HB2.out 6
    simp at y0 y1 y2 y3 y4 y5 y6
    clear A2 G1
    go_region_held3 (fun w' => w'.cell? ⟨S, 9, none⟩ = some (.pointer (some ⟨C, 0, none⟩)) ∧ w'.cell? ⟨q, 0, none⟩ = some (.int .i64 p.el.num) ∧ w'.cell? ⟨q, 1, none⟩ = some (.bool p.el.null) ∧ w'.cell? ⟨q, 2, none⟩ = some (.int .i64 p.el.heap) ∧ w'.cell? ⟨q, 3, none⟩ = some (.bool p.lim.wide) ∧ w'.cell? ⟨q, 4, none⟩ = some (.int .u64 p.lim.mn) ∧ w'.cell? ⟨q, 5, none⟩ = some (.int .u64 p.lim.mx) ∧ w'.cell? ⟨q, 6, none⟩ = some (.bool p.lim.hm)) (go_keep) (first
    | (with_reducible refine (CA.out _).mono ?_
       rintro en wa ⟨rfl, ga⟩
       have gg : Grew w2 wa := Grew.trans (by repeat (first | with_reducible exact GG1.out | with_reducible exact .refl _ | refine .alloc ?_ _ | refine .drewN ?_ _ | refine .drew ?_)) ga
       first
       | (with_reducible have gf := fresh3 ga
          obtain ⟨_, hlA, pA0, pA1, pA2, _, _, _⟩ := gf
          have hneA := Nat.ne_of_lt hlA
          have hneB := Nat.ne_of_gt hlA)
       | (with_reducible have gf := fresh3 (Grew.trans (Grew.drew (Grew.refl _)) ga)
          obtain ⟨_, hlA, pA0, pA1, pA2, _, _, _⟩ := gf
          have hneA := Nat.ne_of_lt hlA
          have hneB := Nat.ne_of_gt hlA)
       | (with_reducible have gf := freshV6 ga
          obtain ⟨hlA, pA0, pA1, pA2, pA3, pA4, pA5⟩ := gf
          have hneA := Nat.ne_of_lt hlA
          have hneB := Nat.ne_of_gt hlA)
       | (with_reducible have gf := freshV6 (Grew.trans (Grew.drew (Grew.refl _)) ga)
          obtain ⟨hlA, pA0, pA1, pA2, pA3, pA4, pA5⟩ := gf
          have hneA := Nat.ne_of_lt hlA
          have hneB := Nat.ne_of_gt hlA)
       | skip
       have GA1 := Hid.mk' (HG2.out.trans gg)
       have GG1 := Hid.mk' gg
       have t9 := cell_grew s9 gg
       have t0 := cell_grew y0 gg; have t1 := cell_grew y1 gg; have t2 := cell_grew y2 gg; have t3 := cell_grew y3 gg; have t4 := cell_grew y4 gg; have t5 := cell_grew y5 gg; have t6 := cell_grew y6 gg
       clear ga gg)
    | (with_reducible refine (CLi.out _ _).mono ?_
       rintro en wl ⟨rfl, hwl⟩
       obtain rfl := hwl.symm
       clear hwl)
    | (with_reducible refine (CP.out _ _ ?gr (lv_2 (by go_simp) (by go_simp) (by go_simp) (by go_simp) (by go_simp) (by go_simp))).mono ?_
       case gr => exact (by repeat (first | with_reducible exact GA1.out | with_reducible exact HG2.out | with_reducible exact .refl _ | refine .alloc ?_ _ | refine .drewN ?_ _ | refine .drew ?_))
       rintro en w5 ⟨rfl, kb, sk, hk⟩
       have sk2 : SK w w5 := SK.trans (Grew.sk (Grew.trans HG2.out (by repeat (first | with_reducible exact GG1.out | with_reducible exact .refl _ | refine .alloc ?_ _ | refine .drewN ?_ _ | refine .drew ?_)))) sk
       have N5 : w5.heap[S]? = some (.cells es 96 (0, 0)) := sk _ _ _ _ (by decide) (by decide) (Turn.other (Grew.turn (by repeat (first | with_reducible exact GG1.out | with_reducible exact .refl _ | refine .alloc ?_ _ | refine .drewN ?_ _ | refine .drew ?_)) []) HN2.out (by simp))
       have B5 : w5.heap[q]? = some (.cells #[.int .i64 p.el.num, .bool p.el.null, .int .i64 p.el.heap, .bool p.lim.wide, .int .u64 p.lim.mn, .int .u64 p.lim.mx, .bool p.lim.hm] 179 (0, 0)) := sk _ _ _ _ (by decide) (by decide) (Turn.other (Grew.turn (by repeat (first | with_reducible exact GG1.out | with_reducible exact .refl _ | refine .alloc ?_ _ | refine .drewN ?_ _ | refine .drew ?_)) []) HB2.out (by simp))
       have t9 := (cell_of N5 9).trans HC9.out
       have t0 := cell_of B5 0; have t1 := cell_of B5 1; have t2 := cell_of B5 2; have t3 := cell_of B5 3; have t4 := cell_of B5 4; have t5 := cell_of B5 5; have t6 := cell_of B5 6
       simp at t0 t1 t2 t3 t4 t5 t6
       have HF := Hid.mk' (And.intro kb (And.intro sk2 hk))
       clear kb hk sk sk2 N5 B5)
    | fail)
    all_goals
      go_wp2_with fail
      go_ret
      exact ⟨rfl, HF.out.1, HF.out.2.1, fun he => HF.out.2.2 (by first | exact he | trivial)⟩
theorem tableGrow_out (A : StA gv L W0 w C lv fv ov g c lo fr ops fs x S es) {n : Nat} (h32 : n < 4294967296) (hx : es[11]? = some (.int .u32 (n : Int))) {mv : Value} {M : List TBt} (hm : es[2]? = some mv) (hM : LTb w mv M) (hn : M.length ≤ n) :
    Calls Tryz.prog 93 #[.pointer (some ⟨S, 0, none⟩)] w fun en w' => en = .returned (.int .i64 150) ∧ Grew w w' := by
  have CAt : Hid (∀ X, Grew w X → Calls Tryz.prog 152 #[mv, .int .u32 (n : Int)] X fun en w' => en = .returned (.tuple #[.agg #[.int .i64 0, .bool false, .int .i64 0, .bool false, .int .u64 0, .int .u64 0, .bool false], .int .i64 150]) ∧ Grew X w') := fun X k => atTB_out (hM.grew k) hn h32
  have s0 := A.cell hm
  have s1 := A.cell hx
  have hS := lt_of_obj A.N
  have hne1 : S ≠ w.heap.size := Nat.ne_of_lt hS
  have hne2 : w.heap.size ≠ S := Nat.ne_of_gt hS
  obtain ⟨ma, mc, hmv, _⟩ := hM.one
  subst hmv
  clear A hx hm hM hn h32
  go_enter Tryz.func93, Tryz.ntmps93
  go_wp2_with fail
  go_region_held3 (fun w' => w'.cell? ⟨S, 2, none⟩ = some (.slice ma M.length mc) ∧ w'.cell? ⟨S, 11, none⟩ = some (.int .u32 (n : Int))) (go_keep) (first
    | (with_reducible refine (CAt.out _ ?gr).mono ?_
       case gr => exact (by repeat (first | with_reducible exact .refl _ | refine .alloc ?_ _ | refine .drewN ?_ _ | refine .drew ?_))
       rintro en w1 ⟨rfl, g1⟩
       have gg1 : Grew w w1 := Grew.trans (by repeat (first | with_reducible exact .refl _ | refine .alloc ?_ _ | refine .drewN ?_ _ | refine .drew ?_)) g1
       have G1 := Hid.mk' gg1
       have s10 := cell_grew s0 gg1
       have s11 := cell_grew s1 gg1
       first
       | (have gz : Grew (w.alloc (.cells #[.int .i64 0, .bool false, .int .i64 0, .bool false, .int .u64 0, .int .u64 0, .bool false] 179)) w1 := (by first | exact g1 | exact ((Grew.refl _).drew).trans g1 | exact ((Grew.refl _).drewN _).trans g1)
          have Bz := (gz.turn []).other (heap_alloc_last w (.cells #[.int .i64 0, .bool false, .int .i64 0, .bool false, .int .u64 0, .int .u64 0, .bool false] 179)) (by simp)
          have HBz := Hid.mk' Bz
          have hlz := lt_of_obj Bz
          have y0 := cell_of Bz 0; have r0 := free_of Bz 0; have y1 := cell_of Bz 1; have r1 := free_of Bz 1; have y2 := cell_of Bz 2; have r2 := free_of Bz 2; have y3 := cell_of Bz 3; have r3 := free_of Bz 3; have y4 := cell_of Bz 4; have r4 := free_of Bz 4; have y5 := cell_of Bz 5; have r5 := free_of Bz 5; have y6 := cell_of Bz 6; have r6 := free_of Bz 6
          simp at y0 y1 y2 y3 y4 y5 y6
          clear gz Bz)
       | skip
       clear g1 gg1))
  all_goals
    go_wp2_with fail
    go_ret
    exact ⟨rfl, (by repeat (first | with_reducible exact G1.out | refine .set ?_ (Nat.le_refl _) _ | refine .alloc ?_ _ | refine .drewN ?_ _ | refine .drew ?_))⟩
theorem tableGrow_in (A : StA gv L W0 w C lv fv ov g c lo fr ops fs x S es) {n : Nat} (h32 : n < 4294967296) (hx : es[11]? = some (.int .u32 (n : Int))) {mv : Value} {M : List TBt} (hm : es[2]? = some mv) (hM : LTb w mv M) {p : TBt} (hp : M[n]? = some p) :
    Calls Tryz.prog 93 #[.pointer (some ⟨S, 0, none⟩)] w (MP gv W0 w w C lv g c fs x (popsR (matB L) x.height x.dead [⟨p.el.num, p.el.null, p.el.heap⟩, ⟨if p.lim.wide then 2 else 1, false, 0⟩].reverse ops).1 lo fr ((popsR (matB L) x.height x.dead [⟨p.el.num, p.el.null, p.el.heap⟩, ⟨if p.lim.wide then 2 else 1, false, 0⟩].reverse ops).2 ++ [⟨if p.lim.wide then 2 else 1, false, 0⟩])) := by
  have CAt : Hid (∀ X, Grew w X → Calls Tryz.prog 152 #[mv, .int .u32 (n : Int)] X fun en w' => en = .returned (.tuple #[.agg #[.int .i64 p.el.num, .bool p.el.null, .int .i64 p.el.heap, .bool p.lim.wide, .int .u64 p.lim.mn, .int .u64 p.lim.mx, .bool p.lim.hm], .int .i64 0]) ∧ Grew X w') := fun X k => atTB_in (hM.grew k) hp h32
  obtain ⟨AT, hAT⟩ : ∃ AT : Int, AT = if p.lim.wide then 2 else 1 := ⟨_, rfl⟩
  rw [← hAT]
  have CA : Hid (∀ X, Calls Tryz.prog 27 #[.agg #[.bool p.lim.wide, .int .u64 p.lim.mn, .int .u64 p.lim.mx, .bool p.lim.hm]] X fun en w' => en = .returned (.agg #[.int .i64 AT, .bool false, .int .i64 0]) ∧ Grew X w') := fun X => by rw [hAT]; exact addr_any p.lim.wide p.lim.mn p.lim.mx p.lim.hm X
  have CLi : Hid (∀ v X, Calls Tryz.prog 144 #[v] X fun en w' => en = .returned v ∧ w' = X) := list_any
  have CP : Hid (∀ X u b n c', Grew w X → LV X u [⟨p.el.num, p.el.null, p.el.heap⟩, ⟨AT, false, 0⟩] → LV X (.slice (some ⟨b, 0, none⟩) n c') [⟨AT, false, 0⟩] → (w.heap.size ≤ b ∧ b < X.heap.size) → Calls Tryz.prog 146 #[.pointer (some ⟨C, 0, none⟩), u, .slice (some ⟨b, 0, none⟩) n c'] X (MP gv W0 w X C lv g c fs x (popsR (matB L) x.height x.dead [⟨p.el.num, p.el.null, p.el.heap⟩, ⟨AT, false, 0⟩].reverse ops).1 lo fr ((popsR (matB L) x.height x.dead [⟨p.el.num, p.el.null, p.el.heap⟩, ⟨AT, false, 0⟩].reverse ops).2 ++ [⟨AT, false, 0⟩]))) := fun X u b n c' k h1 h2 h3 => A.swap k h1 h2 h3 (by simp)
  generalize popsR (matB L) x.height x.dead [⟨p.el.num, p.el.null, p.el.heap⟩, ⟨AT, false, 0⟩].reverse ops = RR at *
  clear hAT
  have s0 := A.cell hm
  have s1 := A.cell hx
  have s2 := A.cell A.hc
  have hS := lt_of_obj A.N
  have hne1 : S ≠ w.heap.size := Nat.ne_of_lt hS
  have hne2 : w.heap.size ≠ S := Nat.ne_of_gt hS
  have HAA := Hid.mk' A
  have HC9 := Hid.mk' A.hc
  obtain ⟨ma, mc, hmv, _⟩ := hM.one
  subst hmv
  clear A hx hm hM hp h32
  go_enter Tryz.func93, Tryz.ntmps93
  go_wp2_with fail
  go_region_held3 (fun w' => w'.cell? ⟨S, 2, none⟩ = some (.slice ma M.length mc) ∧ w'.cell? ⟨S, 11, none⟩ = some (.int .u32 (n : Int))) (go_keep) (first
    | (with_reducible refine (CAt.out _ ?gr).mono ?_
       case gr => exact (by repeat (first | with_reducible exact .refl _ | refine .alloc ?_ _ | refine .drewN ?_ _ | refine .drew ?_))
       rintro en w1 ⟨rfl, g1⟩
       have gg1 : Grew w w1 := Grew.trans (by repeat (first | with_reducible exact .refl _ | refine .alloc ?_ _ | refine .drewN ?_ _ | refine .drew ?_)) g1
       have G1 := Hid.mk' gg1
       have s10 := cell_grew s0 gg1
       have s11 := cell_grew s1 gg1
       first
       | (have gz : Grew (w.alloc (.cells #[.int .i64 0, .bool false, .int .i64 0, .bool false, .int .u64 0, .int .u64 0, .bool false] 179)) w1 := (by first | exact g1 | exact ((Grew.refl _).drew).trans g1 | exact ((Grew.refl _).drewN _).trans g1)
          have Bz := (gz.turn []).other (heap_alloc_last w (.cells #[.int .i64 0, .bool false, .int .i64 0, .bool false, .int .u64 0, .int .u64 0, .bool false] 179)) (by simp)
          have HBz := Hid.mk' Bz
          have hlz := lt_of_obj Bz
          have y0 := cell_of Bz 0; have r0 := free_of Bz 0; have y1 := cell_of Bz 1; have r1 := free_of Bz 1; have y2 := cell_of Bz 2; have r2 := free_of Bz 2; have y3 := cell_of Bz 3; have r3 := free_of Bz 3; have y4 := cell_of Bz 4; have r4 := free_of Bz 4; have y5 := cell_of Bz 5; have r5 := free_of Bz 5; have y6 := cell_of Bz 6; have r6 := free_of Bz 6
          simp at y0 y1 y2 y3 y4 y5 y6
          clear gz Bz)
       | skip
       clear g1 gg1))
  all_goals
    clear s10 s11 s0 s1 s2 CAt
    go_wp2_with fail
    first
    | (have hh0 := hlz
       have B2 : (((((((w1.setCell ⟨w.heap.size, 0, none⟩ (.int .i64 p.el.num)).setCell ⟨w.heap.size, 1, none⟩ (.bool p.el.null)).setCell ⟨w.heap.size, 2, none⟩ (.int .i64 p.el.heap)).setCell ⟨w.heap.size, 3, none⟩ (.bool p.lim.wide)).setCell ⟨w.heap.size, 4, none⟩ (.int .u64 p.lim.mn)).setCell ⟨w.heap.size, 5, none⟩ (.int .u64 p.lim.mx)).setCell ⟨w.heap.size, 6, none⟩ (.bool p.lim.hm)).heap[w.heap.size]? = some (.cells #[.int .i64 p.el.num, .bool p.el.null, .int .i64 p.el.heap, .bool p.lim.wide, .int .u64 p.lim.mn, .int .u64 p.lim.mx, .bool p.lim.hm] 179 (0, 0)) := (heap_set (heap_set (heap_set (heap_set (heap_set (heap_set (heap_set HBz.out 0 (.int .i64 p.el.num)) 1 (.bool p.el.null)) 2 (.int .i64 p.el.heap)) 3 (.bool p.lim.wide)) 4 (.int .u64 p.lim.mn)) 5 (.int .u64 p.lim.mx)) 6 (.bool p.lim.hm))
       have gg2 : Grew w (((((((w1.setCell ⟨w.heap.size, 0, none⟩ (.int .i64 p.el.num)).setCell ⟨w.heap.size, 1, none⟩ (.bool p.el.null)).setCell ⟨w.heap.size, 2, none⟩ (.int .i64 p.el.heap)).setCell ⟨w.heap.size, 3, none⟩ (.bool p.lim.wide)).setCell ⟨w.heap.size, 4, none⟩ (.int .u64 p.lim.mn)).setCell ⟨w.heap.size, 5, none⟩ (.int .u64 p.lim.mx)).setCell ⟨w.heap.size, 6, none⟩ (.bool p.lim.hm)) := (((((((G1.out.set (p := ⟨w.heap.size, 0, none⟩) (Nat.le_refl _) (.int .i64 p.el.num)).set (p := ⟨w.heap.size, 1, none⟩) (Nat.le_refl _) (.bool p.el.null)).set (p := ⟨w.heap.size, 2, none⟩) (Nat.le_refl _) (.int .i64 p.el.heap)).set (p := ⟨w.heap.size, 3, none⟩) (Nat.le_refl _) (.bool p.lim.wide)).set (p := ⟨w.heap.size, 4, none⟩) (Nat.le_refl _) (.int .u64 p.lim.mn)).set (p := ⟨w.heap.size, 5, none⟩) (Nat.le_refl _) (.int .u64 p.lim.mx)).set (p := ⟨w.heap.size, 6, none⟩) (Nat.le_refl _) (.bool p.lim.hm))
       have hq : w.heap.size ≤ w.heap.size := Nat.le_refl _
       have HB2 := Hid.mk' B2
       have HG2 := Hid.mk' gg2
       have HQ2 := Hid.mk' hq
       clear hh0 hlz y0 r0 y1 r1 y2 r2 y3 r3 y4 r4 y5 r5 y6 r6 HBz B2 gg2 hq hne1 hne2 hS
       generalize (((((((w1.setCell ⟨w.heap.size, 0, none⟩ (.int .i64 p.el.num)).setCell ⟨w.heap.size, 1, none⟩ (.bool p.el.null)).setCell ⟨w.heap.size, 2, none⟩ (.int .i64 p.el.heap)).setCell ⟨w.heap.size, 3, none⟩ (.bool p.lim.wide)).setCell ⟨w.heap.size, 4, none⟩ (.int .u64 p.lim.mn)).setCell ⟨w.heap.size, 5, none⟩ (.int .u64 p.lim.mx)).setCell ⟨w.heap.size, 6, none⟩ (.bool p.lim.hm)) = w2 at *
       obtain ⟨q, hqq⟩ : ∃ q, q = w.heap.size := ⟨_, rfl⟩
       rw [← hqq] at HB2
       simp only [← hqq]
       clear hqq HQ2)
    | (have B2 : (w1.alloc (.cells #[.int .i64 p.el.num, .bool p.el.null, .int .i64 p.el.heap, .bool p.lim.wide, .int .u64 p.lim.mn, .int .u64 p.lim.mx, .bool p.lim.hm] 179)).heap[w1.heap.size]? = some (.cells #[.int .i64 p.el.num, .bool p.el.null, .int .i64 p.el.heap, .bool p.lim.wide, .int .u64 p.lim.mn, .int .u64 p.lim.mx, .bool p.lim.hm] 179 (0, 0)) := heap_alloc_last _ _
       have gg2 : Grew w (w1.alloc (.cells #[.int .i64 p.el.num, .bool p.el.null, .int .i64 p.el.heap, .bool p.lim.wide, .int .u64 p.lim.mn, .int .u64 p.lim.mx, .bool p.lim.hm] 179)) := G1.out.alloc _
       have HB2 := Hid.mk' B2
       have HG2 := Hid.mk' gg2
       clear B2 gg2 hne1 hne2 hS
       generalize w1.alloc (.cells #[.int .i64 p.el.num, .bool p.el.null, .int .i64 p.el.heap, .bool p.lim.wide, .int .u64 p.lim.mn, .int .u64 p.lim.mx, .bool p.lim.hm] 179) = w2 at *
       obtain ⟨q, hqq⟩ : ∃ q, q = w1.heap.size := ⟨_, rfl⟩
       rw [← hqq] at HB2
       simp only [← hqq]
       clear hqq)
    have A2 := HAA.out.grew HG2.out
    have s9 := A2.cell A2.hc
    have hS2 := lt_of_obj A2.N
    have HN2 := Hid.mk' A2.N
    have hq2 := lt_of_obj HB2.out
    have y0 := cell_of HB2.out 0; have y1 := cell_of HB2.out 1; have y2 := cell_of HB2.out 2; have y3 := cell_of HB2.out 3; have y4 := cell_of HB2.out 4; have y5 := cell_of HB2.out 5; have y6 := cell_of HB2.out 6
    simp at y0 y1 y2 y3 y4 y5 y6
    clear A2 G1
    go_region_held3 (fun w' => w'.cell? ⟨S, 9, none⟩ = some (.pointer (some ⟨C, 0, none⟩)) ∧ w'.cell? ⟨q, 0, none⟩ = some (.int .i64 p.el.num) ∧ w'.cell? ⟨q, 1, none⟩ = some (.bool p.el.null) ∧ w'.cell? ⟨q, 2, none⟩ = some (.int .i64 p.el.heap) ∧ w'.cell? ⟨q, 3, none⟩ = some (.bool p.lim.wide) ∧ w'.cell? ⟨q, 4, none⟩ = some (.int .u64 p.lim.mn) ∧ w'.cell? ⟨q, 5, none⟩ = some (.int .u64 p.lim.mx) ∧ w'.cell? ⟨q, 6, none⟩ = some (.bool p.lim.hm)) (go_keep) (first
    | (with_reducible refine (CA.out _).mono ?_
       rintro en wa ⟨rfl, ga⟩
       have gg : Grew w2 wa := Grew.trans (by repeat (first | with_reducible exact GG1.out | with_reducible exact .refl _ | refine .alloc ?_ _ | refine .drewN ?_ _ | refine .drew ?_)) ga
       first
       | (with_reducible have gf := fresh3 ga
          obtain ⟨_, hlA, pA0, pA1, pA2, _, _, _⟩ := gf
          have hneA := Nat.ne_of_lt hlA
          have hneB := Nat.ne_of_gt hlA)
       | (with_reducible have gf := fresh3 (Grew.trans (Grew.drew (Grew.refl _)) ga)
          obtain ⟨_, hlA, pA0, pA1, pA2, _, _, _⟩ := gf
          have hneA := Nat.ne_of_lt hlA
          have hneB := Nat.ne_of_gt hlA)
       | (with_reducible have gf := freshV6 ga
          obtain ⟨hlA, pA0, pA1, pA2, pA3, pA4, pA5⟩ := gf
          have hneA := Nat.ne_of_lt hlA
          have hneB := Nat.ne_of_gt hlA)
       | (with_reducible have gf := freshV6 (Grew.trans (Grew.drew (Grew.refl _)) ga)
          obtain ⟨hlA, pA0, pA1, pA2, pA3, pA4, pA5⟩ := gf
          have hneA := Nat.ne_of_lt hlA
          have hneB := Nat.ne_of_gt hlA)
       | skip
       have GA1 := Hid.mk' (HG2.out.trans gg)
       have GG1 := Hid.mk' gg
       have t9 := cell_grew s9 gg
       have t0 := cell_grew y0 gg; have t1 := cell_grew y1 gg; have t2 := cell_grew y2 gg; have t3 := cell_grew y3 gg; have t4 := cell_grew y4 gg; have t5 := cell_grew y5 gg; have t6 := cell_grew y6 gg
       clear ga gg)
    | (with_reducible refine (CLi.out _ _).mono ?_
       rintro en wl ⟨rfl, hwl⟩
       obtain rfl := hwl.symm
       clear hwl)
    | (with_reducible refine (CP.out _ _ _ _ _ ?gr ?h1 ?h2 ?h3).mono ?_
       case gr => exact (by repeat (first | with_reducible exact GA1.out | with_reducible exact HG2.out | with_reducible exact .refl _ | refine .alloc ?_ _ | refine .drewN ?_ _ | refine .drew ?_))
       case h1 => exact (lv_2 (by go_simp) (by go_simp) (by go_simp) (by go_simp) (by go_simp) (by go_simp))
       case h2 => exact (lv_1 (by go_simp) (by go_simp) (by go_simp))
       case h3 => exact ⟨by (have h1 := HG2.out.2; first | (have h2 := GA1.out.2; simp; omega) | (simp; omega)), by first | (simp; done) | (simp; omega)⟩
       rintro en w5 ⟨rfl, kb, sk, hk⟩
       have sk2 : SK w w5 := SK.trans (Grew.sk (Grew.trans HG2.out (by repeat (first | with_reducible exact GG1.out | with_reducible exact .refl _ | refine .alloc ?_ _ | refine .drewN ?_ _ | refine .drew ?_)))) sk
       have N5 : w5.heap[S]? = some (.cells es 96 (0, 0)) := sk _ _ _ _ (by decide) (by decide) (Turn.other (Grew.turn (by repeat (first | with_reducible exact GG1.out | with_reducible exact .refl _ | refine .alloc ?_ _ | refine .drewN ?_ _ | refine .drew ?_)) []) HN2.out (by simp))
       have B5 : w5.heap[q]? = some (.cells #[.int .i64 p.el.num, .bool p.el.null, .int .i64 p.el.heap, .bool p.lim.wide, .int .u64 p.lim.mn, .int .u64 p.lim.mx, .bool p.lim.hm] 179 (0, 0)) := sk _ _ _ _ (by decide) (by decide) (Turn.other (Grew.turn (by repeat (first | with_reducible exact GG1.out | with_reducible exact .refl _ | refine .alloc ?_ _ | refine .drewN ?_ _ | refine .drew ?_)) []) HB2.out (by simp))
       have t9 := (cell_of N5 9).trans HC9.out
       have t0 := cell_of B5 0; have t1 := cell_of B5 1; have t2 := cell_of B5 2; have t3 := cell_of B5 3; have t4 := cell_of B5 4; have t5 := cell_of B5 5; have t6 := cell_of B5 6
       simp at t0 t1 t2 t3 t4 t5 t6
       have HF := Hid.mk' (And.intro kb (And.intro sk2 hk))
       clear kb hk sk sk2 N5 B5)
    | fail)
    all_goals
      go_wp2_with fail
      go_ret
      exact ⟨rfl, HF.out.1, HF.out.2.1, fun he => HF.out.2.2 (by first | exact he | trivial)⟩
end
end Go.Proofs.YtikaidokllnifaaGreatDoor
