/-
  Steps of vnum: memory.copy; no statement is proved here.
-/
import Derived.Test.YtikaidokllnifaaGreatDoorVnTj
import Derived.Deep.RegionHeld3
set_option maxRecDepth 100000
set_option maxHeartbeats 8000000
namespace Go.Proofs.YtikaidokllnifaaGreatDoor
open Go.RowKit
set_option linter.unusedVariables false
set_option linter.unusedSimpArgs false
section
variable {gv : Value} {L : List RT} {W0 w : World} {C : Nat} {lv fv ov : Value} {g c : Nat} {lo : List LO} {fr : List Int} {ops : List VT} {fs : List FV} {x : FV} {S : Nat} {es : Array Value}
theorem memoryCopy_in (A : StA gv L W0 w C lv fv ov g c lo fr ops fs x S es) {n : Nat} (h32 : n < 4294967296) (hx : es[11]? = some (.int .u32 (n : Int))) {n2 : Nat} (h322 : n2 < 4294967296) (hy : es[12]? = some (.int .u32 (n2 : Int))) {mv : Value} {M : List LMt} (hm : es[3]? = some mv) (hM : LLm w mv M) {p : LMt} (hp : M[n]? = some p) {p2 : LMt} (hp2 : M[n2]? = some p2) :
    Calls Tryz.prog 88 #[.pointer (some ⟨S, 0, none⟩)] w (MP gv W0 w w C lv g c fs x (popsR (matB L) x.height x.dead [⟨if p.wide then 2 else 1, false, 0⟩, ⟨if p2.wide then 2 else 1, false, 0⟩, ⟨if p.wide && p2.wide then 2 else 1, false, 0⟩].reverse ops).1 lo fr (popsR (matB L) x.height x.dead [⟨if p.wide then 2 else 1, false, 0⟩, ⟨if p2.wide then 2 else 1, false, 0⟩, ⟨if p.wide && p2.wide then 2 else 1, false, 0⟩].reverse ops).2) := by
  have CAt : Hid (∀ X, Grew w X → Calls Tryz.prog 154 #[mv, .int .u32 (n : Int)] X fun en w' => en = .returned (.tuple #[.agg #[.bool p.wide, .int .u64 p.mn, .int .u64 p.mx, .bool p.hm], .int .i64 0]) ∧ Grew X w') := fun X k => atLM_in (hM.grew k) hp h32
  have CA2 : Hid (∀ X, Grew w X → Calls Tryz.prog 154 #[mv, .int .u32 (n2 : Int)] X fun en w' => en = .returned (.tuple #[.agg #[.bool p2.wide, .int .u64 p2.mn, .int .u64 p2.mx, .bool p2.hm], .int .i64 0]) ∧ Grew X w') := fun X k => atLM_in (hM.grew k) hp2 h322
  have CY := Hid.mk' hy
  obtain ⟨AT, hAT⟩ : ∃ AT : Int, AT = if p.wide then 2 else 1 := ⟨_, rfl⟩
  obtain ⟨AF, hAF⟩ : ∃ AT : Int, AT = if p2.wide then 2 else 1 := ⟨_, rfl⟩
  obtain ⟨AL, hAL⟩ : ∃ AT : Int, AT = if p.wide && p2.wide then 2 else 1 := ⟨_, rfl⟩
  rw [← hAT, ← hAF, ← hAL]
  have CA : Hid (∀ X, Calls Tryz.prog 27 #[.agg #[.bool p.wide, .int .u64 p.mn, .int .u64 p.mx, .bool p.hm]] X fun en w' => en = .returned (.agg #[.int .i64 AT, .bool false, .int .i64 0]) ∧ Grew X w') := fun X => by rw [hAT]; exact addr_any p.wide p.mn p.mx p.hm X
  have CB : Hid (∀ X, Calls Tryz.prog 27 #[.agg #[.bool p2.wide, .int .u64 p2.mn, .int .u64 p2.mx, .bool p2.hm]] X fun en w' => en = .returned (.agg #[.int .i64 AF, .bool false, .int .i64 0]) ∧ Grew X w') := fun X => by rw [hAF]; exact addr_any p2.wide p2.mn p2.mx p2.hm X
  have CL : Hid (∀ X, Calls Tryz.prog 157 #[.agg #[.bool p.wide, .int .u64 p.mn, .int .u64 p.mx, .bool p.hm], .agg #[.bool p2.wide, .int .u64 p2.mn, .int .u64 p2.mx, .bool p2.hm]] X fun en w' => en = .returned (.agg #[.int .i64 AL, .bool false, .int .i64 0]) ∧ Grew X w') := fun X => by rw [hAL]; exact least_any p.wide p.mn p.mx p.hm p2.wide p2.mn p2.mx p2.hm X
  have CLi : Hid (∀ v X, Calls Tryz.prog 144 #[v] X fun en w' => en = .returned v ∧ w' = X) := list_any
  have CP : Hid (∀ X v, Grew w X → LV X v [⟨AT, false, 0⟩, ⟨AF, false, 0⟩, ⟨AL, false, 0⟩] → Calls Tryz.prog 35 #[.pointer (some ⟨C, 0, none⟩), v] X (MP gv W0 w X C lv g c fs x (popsR (matB L) x.height x.dead [⟨AT, false, 0⟩, ⟨AF, false, 0⟩, ⟨AL, false, 0⟩].reverse ops).1 lo fr (popsR (matB L) x.height x.dead [⟨AT, false, 0⟩, ⟨AF, false, 0⟩, ⟨AL, false, 0⟩].reverse ops).2)) := fun X v k hl => A.pops k hl
  generalize (popsR (matB L) x.height x.dead [⟨AT, false, 0⟩, ⟨AF, false, 0⟩, ⟨AL, false, 0⟩].reverse ops) = RR at *
  have HB0 := Hid.mk' A.hB
  clear hAT hAF hAL hy hp2 h322
  have s0 := A.cell hm
  have s1 := A.cell hx
  have s2 := A.cell A.hc
  have hS := lt_of_obj A.N
  have hne1 : S ≠ w.heap.size := Nat.ne_of_lt hS
  have hne2 : w.heap.size ≠ S := Nat.ne_of_gt hS
  have HAA := Hid.mk' A
  have HC9 := Hid.mk' A.hc
  obtain ⟨ma, mc, hmv, _⟩ := hM.one
  subst hmv
  have CM3 := Hid.mk' hm
  clear A hx hm hM hp h32
  go_enter Tryz.func88, Tryz.ntmps88
  go_wp2_with fail
  go_region_held3 (fun w' => w'.cell? ⟨S, 3, none⟩ = some (.slice ma M.length mc) ∧ w'.cell? ⟨S, 11, none⟩ = some (.int .u32 (n : Int))) (go_keep) (first
    | (with_reducible refine (CAt.out _ ?gr).mono ?_
       case gr => exact (by repeat (first | with_reducible exact .refl _ | refine .alloc ?_ _ | refine .drewN ?_ _ | refine .drew ?_))
       rintro en v1 ⟨rfl, g1⟩
       have gg1 : Grew w v1 := Grew.trans (by repeat (first | with_reducible exact .refl _ | refine .alloc ?_ _ | refine .drewN ?_ _ | refine .drew ?_)) g1
       have GZ1 := Hid.mk' gg1
       have s10 := cell_grew s0 gg1
       have s11 := cell_grew s1 gg1
       first
       | (have gz : Grew (w.alloc (.cells #[.bool false, .int .u64 0, .int .u64 0, .bool false] 81)) v1 := (by first | exact g1 | exact ((Grew.refl _).drew).trans g1 | exact ((Grew.refl _).drewN _).trans g1)
          have Bz := (gz.turn []).other (heap_alloc_last w (.cells #[.bool false, .int .u64 0, .int .u64 0, .bool false] 81)) (by simp)
          have HBz := Hid.mk' Bz
          have hlz := lt_of_obj Bz
          have ya0 := cell_of Bz 0; have r0 := free_of Bz 0; have ya1 := cell_of Bz 1; have r1 := free_of Bz 1; have ya2 := cell_of Bz 2; have r2 := free_of Bz 2; have ya3 := cell_of Bz 3; have r3 := free_of Bz 3
          simp at ya0 ya1 ya2 ya3
          clear gz Bz)
       | skip
       clear g1 gg1))
  all_goals
    clear s10 s11 s0 s1 s2 CAt
    go_wp2_with fail
    first
    | (have hh0 := hlz
       have B2 : ((((v1.setCell ⟨w.heap.size, 0, none⟩ (.bool p.wide)).setCell ⟨w.heap.size, 1, none⟩ (.int .u64 p.mn)).setCell ⟨w.heap.size, 2, none⟩ (.int .u64 p.mx)).setCell ⟨w.heap.size, 3, none⟩ (.bool p.hm)).heap[w.heap.size]? = some (.cells #[.bool p.wide, .int .u64 p.mn, .int .u64 p.mx, .bool p.hm] 81 (0, 0)) := (heap_set (heap_set (heap_set (heap_set HBz.out 0 (.bool p.wide)) 1 (.int .u64 p.mn)) 2 (.int .u64 p.mx)) 3 (.bool p.hm))
       have gg2 : Grew w ((((v1.setCell ⟨w.heap.size, 0, none⟩ (.bool p.wide)).setCell ⟨w.heap.size, 1, none⟩ (.int .u64 p.mn)).setCell ⟨w.heap.size, 2, none⟩ (.int .u64 p.mx)).setCell ⟨w.heap.size, 3, none⟩ (.bool p.hm)) := ((((GZ1.out.set (p := ⟨w.heap.size, 0, none⟩) (Nat.le_refl _) (.bool p.wide)).set (p := ⟨w.heap.size, 1, none⟩) (Nat.le_refl _) (.int .u64 p.mn)).set (p := ⟨w.heap.size, 2, none⟩) (Nat.le_refl _) (.int .u64 p.mx)).set (p := ⟨w.heap.size, 3, none⟩) (Nat.le_refl _) (.bool p.hm))
       have hq : w.heap.size ≤ w.heap.size := Nat.le_refl _
       have HBa := Hid.mk' B2
       have GD := Hid.mk' gg2
       have HQ2 := Hid.mk' hq
       clear hh0 hlz ya0 r0 ya1 r1 ya2 r2 ya3 r3 HBz B2 gg2 hq hne1 hne2 hS
       generalize ((((v1.setCell ⟨w.heap.size, 0, none⟩ (.bool p.wide)).setCell ⟨w.heap.size, 1, none⟩ (.int .u64 p.mn)).setCell ⟨w.heap.size, 2, none⟩ (.int .u64 p.mx)).setCell ⟨w.heap.size, 3, none⟩ (.bool p.hm)) = wd at *
       obtain ⟨qa, hqq⟩ : ∃ qa, qa = w.heap.size := ⟨_, rfl⟩
       rw [← hqq] at HBa
       simp only [← hqq]
       clear hqq HQ2)
    | (have B2 : (v1.alloc (.cells #[.bool p.wide, .int .u64 p.mn, .int .u64 p.mx, .bool p.hm] 81)).heap[v1.heap.size]? = some (.cells #[.bool p.wide, .int .u64 p.mn, .int .u64 p.mx, .bool p.hm] 81 (0, 0)) := heap_alloc_last _ _
       have gg2 : Grew w (v1.alloc (.cells #[.bool p.wide, .int .u64 p.mn, .int .u64 p.mx, .bool p.hm] 81)) := GZ1.out.alloc _
       have HBa := Hid.mk' B2
       have GD := Hid.mk' gg2
       clear B2 gg2 hne1 hne2 hS
       generalize v1.alloc (.cells #[.bool p.wide, .int .u64 p.mn, .int .u64 p.mx, .bool p.hm] 81) = wd at *
       obtain ⟨qa, hqq⟩ : ∃ qa, qa = v1.heap.size := ⟨_, rfl⟩
       rw [← hqq] at HBa
       simp only [← hqq]
       clear hqq)
    have A2 := HAA.out.grew GD.out
    have s9 := A2.cell A2.hc
    have hSa := lt_of_obj A2.N
    have HNa := Hid.mk' A2.N
    have hqa := lt_of_obj HBa.out
    have ya0 := cell_of HBa.out 0; have ya1 := cell_of HBa.out 1; have ya2 := cell_of HBa.out 2; have ya3 := cell_of HBa.out 3
    simp at ya0 ya1 ya2 ya3
    clear A2 GZ1
    have Ad := HAA.out.grew GD.out
    have s0 := Ad.cell CM3.out
    have s1 := Ad.cell CY.out
    have s2 := Ad.cell Ad.hc
    have hS := lt_of_obj Ad.N
    have hne1 : S ≠ wd.heap.size := Nat.ne_of_lt hS
    have hne2 : wd.heap.size ≠ S := Nat.ne_of_gt hS
    have CAt := Hid.mk' (fun X k => CA2.out X (GD.out.trans k))
    have HA0 := HAA
    replace HAA := Hid.mk' Ad
    clear Ad CA2 hSa hqa s9
    go_wp2_with fail
    go_region_held3 (fun wd' => wd'.cell? ⟨S, 3, none⟩ = some (.slice ma M.length mc) ∧ wd'.cell? ⟨S, 12, none⟩ = some (.int .u32 (n2 : Int))) (go_keep) (first
      | (with_reducible refine (CAt.out _ ?gr).mono ?_
         case gr => exact (by repeat (first | with_reducible exact .refl _ | refine .alloc ?_ _ | refine .drewN ?_ _ | refine .drew ?_))
         rintro en w1 ⟨rfl, g1⟩
         have gg1 : Grew wd w1 := Grew.trans (by repeat (first | with_reducible exact .refl _ | refine .alloc ?_ _ | refine .drewN ?_ _ | refine .drew ?_)) g1
         have G1 := Hid.mk' gg1
         have s10 := cell_grew s0 gg1
         have s11 := cell_grew s1 gg1
         first
         | (have gz : Grew (wd.alloc (.cells #[.bool false, .int .u64 0, .int .u64 0, .bool false] 81)) w1 := (by first | exact g1 | exact ((Grew.refl _).drew).trans g1 | exact ((Grew.refl _).drewN _).trans g1)
            have Bz := (gz.turn []).other (heap_alloc_last wd (.cells #[.bool false, .int .u64 0, .int .u64 0, .bool false] 81)) (by simp)
            have HBz := Hid.mk' Bz
            have hlz := lt_of_obj Bz
            have y0 := cell_of Bz 0; have r0 := free_of Bz 0; have y1 := cell_of Bz 1; have r1 := free_of Bz 1; have y2 := cell_of Bz 2; have r2 := free_of Bz 2; have y3 := cell_of Bz 3; have r3 := free_of Bz 3
            simp at y0 y1 y2 y3
            clear gz Bz)
         | skip
         clear g1 gg1))
    all_goals
      clear s10 s11 s0 s1 s2 CAt
      go_wp2_with fail
      first
      | (have hh0 := hlz
         have B2 : ((((w1.setCell ⟨wd.heap.size, 0, none⟩ (.bool p2.wide)).setCell ⟨wd.heap.size, 1, none⟩ (.int .u64 p2.mn)).setCell ⟨wd.heap.size, 2, none⟩ (.int .u64 p2.mx)).setCell ⟨wd.heap.size, 3, none⟩ (.bool p2.hm)).heap[wd.heap.size]? = some (.cells #[.bool p2.wide, .int .u64 p2.mn, .int .u64 p2.mx, .bool p2.hm] 81 (0, 0)) := (heap_set (heap_set (heap_set (heap_set HBz.out 0 (.bool p2.wide)) 1 (.int .u64 p2.mn)) 2 (.int .u64 p2.mx)) 3 (.bool p2.hm))
         have gg2 : Grew wd ((((w1.setCell ⟨wd.heap.size, 0, none⟩ (.bool p2.wide)).setCell ⟨wd.heap.size, 1, none⟩ (.int .u64 p2.mn)).setCell ⟨wd.heap.size, 2, none⟩ (.int .u64 p2.mx)).setCell ⟨wd.heap.size, 3, none⟩ (.bool p2.hm)) := ((((G1.out.set (p := ⟨wd.heap.size, 0, none⟩) (Nat.le_refl _) (.bool p2.wide)).set (p := ⟨wd.heap.size, 1, none⟩) (Nat.le_refl _) (.int .u64 p2.mn)).set (p := ⟨wd.heap.size, 2, none⟩) (Nat.le_refl _) (.int .u64 p2.mx)).set (p := ⟨wd.heap.size, 3, none⟩) (Nat.le_refl _) (.bool p2.hm))
         have hq : wd.heap.size ≤ wd.heap.size := Nat.le_refl _
         have HB2 := Hid.mk' B2
         have HG2 := Hid.mk' gg2
         have HQ2 := Hid.mk' hq
         clear hh0 hlz y0 r0 y1 r1 y2 r2 y3 r3 HBz B2 gg2 hq hne1 hne2 hS
         generalize ((((w1.setCell ⟨wd.heap.size, 0, none⟩ (.bool p2.wide)).setCell ⟨wd.heap.size, 1, none⟩ (.int .u64 p2.mn)).setCell ⟨wd.heap.size, 2, none⟩ (.int .u64 p2.mx)).setCell ⟨wd.heap.size, 3, none⟩ (.bool p2.hm)) = w2 at *
         obtain ⟨q, hqq⟩ : ∃ q, q = wd.heap.size := ⟨_, rfl⟩
         rw [← hqq] at HB2
         simp only [← hqq]
         clear hqq HQ2)
      | (have B2 : (w1.alloc (.cells #[.bool p2.wide, .int .u64 p2.mn, .int .u64 p2.mx, .bool p2.hm] 81)).heap[w1.heap.size]? = some (.cells #[.bool p2.wide, .int .u64 p2.mn, .int .u64 p2.mx, .bool p2.hm] 81 (0, 0)) := heap_alloc_last _ _
         have gg2 : Grew wd (w1.alloc (.cells #[.bool p2.wide, .int .u64 p2.mn, .int .u64 p2.mx, .bool p2.hm] 81)) := G1.out.alloc _
         have HB2 := Hid.mk' B2
         have HG2 := Hid.mk' gg2
         clear B2 gg2 hne1 hne2 hS
         generalize w1.alloc (.cells #[.bool p2.wide, .int .u64 p2.mn, .int .u64 p2.mx, .bool p2.hm] 81) = w2 at *
         obtain ⟨q, hqq⟩ : ∃ q, q = w1.heap.size := ⟨_, rfl⟩
         rw [← hqq] at HB2
         simp only [← hqq]
         clear hqq)
      have A2 := HAA.out.grew HG2.out
      have s9 := A2.cell A2.hc
      have hS2 := lt_of_obj A2.N
      have HN2 := Hid.mk' A2.N
      have hq2 := lt_of_obj HB2.out
      have y0 := cell_of HB2.out 0; have y1 := cell_of HB2.out 1; have y2 := cell_of HB2.out 2; have y3 := cell_of HB2.out 3
      simp at y0 y1 y2 y3
      clear A2 G1
      have Ba := (HG2.out.turn []).other HBa.out (by simp)
      have hqa2 := lt_of_obj Ba
      have HBb := Hid.mk' Ba
      clear ya0 ya1 ya2 ya3
      have ya0 := cell_of Ba 0; have ya1 := cell_of Ba 1; have ya2 := cell_of Ba 2; have ya3 := cell_of Ba 3
      simp at ya0 ya1 ya2 ya3
      clear Ba
      have HGW := Hid.mk' (GD.out.trans HG2.out)
      go_wp2_with fail
      go_region_held3 (fun w' => w'.cell? ⟨S, 9, none⟩ = some (.pointer (some ⟨C, 0, none⟩)) ∧ w'.cell? ⟨qa, 0, none⟩ = some (.bool p.wide) ∧ w'.cell? ⟨qa, 1, none⟩ = some (.int .u64 p.mn) ∧ w'.cell? ⟨qa, 2, none⟩ = some (.int .u64 p.mx) ∧ w'.cell? ⟨qa, 3, none⟩ = some (.bool p.hm) ∧ w'.cell? ⟨q, 0, none⟩ = some (.bool p2.wide) ∧ w'.cell? ⟨q, 1, none⟩ = some (.int .u64 p2.mn) ∧ w'.cell? ⟨q, 2, none⟩ = some (.int .u64 p2.mx) ∧ w'.cell? ⟨q, 3, none⟩ = some (.bool p2.hm)) (go_keep) (first
      | (with_reducible refine (CA.out _).mono ?_
         rintro en wa ⟨rfl, ga⟩
         have gg : Grew w2 wa := Grew.trans (by repeat (first | with_reducible exact GG1.out | with_reducible exact .refl _ | refine .alloc ?_ _ | refine .drewN ?_ _ | refine .drew ?_)) ga
         have GA1 := Hid.mk' (HGW.out.trans gg)
         have GG1 := Hid.mk' gg
         have t9 := cell_grew s9 gg
         have t0 := cell_grew y0 gg; have u0 := cell_grew ya0 gg; have t1 := cell_grew y1 gg; have u1 := cell_grew ya1 gg; have t2 := cell_grew y2 gg; have u2 := cell_grew ya2 gg; have t3 := cell_grew y3 gg; have u3 := cell_grew ya3 gg
         clear ga gg)
      | (with_reducible refine (CB.out _).mono ?_
         rintro en wa ⟨rfl, ga⟩
         have gg : Grew w2 wa := Grew.trans (by repeat (first | with_reducible exact GG1.out | with_reducible exact .refl _ | refine .alloc ?_ _ | refine .drewN ?_ _ | refine .drew ?_)) ga
         have GA1 := Hid.mk' (HGW.out.trans gg)
         have GG1 := Hid.mk' gg
         have t9 := cell_grew s9 gg
         have t0 := cell_grew y0 gg; have u0 := cell_grew ya0 gg; have t1 := cell_grew y1 gg; have u1 := cell_grew ya1 gg; have t2 := cell_grew y2 gg; have u2 := cell_grew ya2 gg; have t3 := cell_grew y3 gg; have u3 := cell_grew ya3 gg
         clear ga gg)
      | (with_reducible refine (CL.out _).mono ?_
         rintro en wa ⟨rfl, ga⟩
         have gg : Grew w2 wa := Grew.trans (by repeat (first | with_reducible exact GG1.out | with_reducible exact .refl _ | refine .alloc ?_ _ | refine .drewN ?_ _ | refine .drew ?_)) ga
         have GA1 := Hid.mk' (HGW.out.trans gg)
         have GG1 := Hid.mk' gg
         have t9 := cell_grew s9 gg
         have t0 := cell_grew y0 gg; have u0 := cell_grew ya0 gg; have t1 := cell_grew y1 gg; have u1 := cell_grew ya1 gg; have t2 := cell_grew y2 gg; have u2 := cell_grew ya2 gg; have t3 := cell_grew y3 gg; have u3 := cell_grew ya3 gg
         clear ga gg)
      | (with_reducible refine (CLi.out _ _).mono ?_
         rintro en wl ⟨rfl, hwl⟩
         obtain rfl := hwl.symm
         clear hwl)
      | (with_reducible refine (CP.out _ _ ?gr (lv_3 (by go_simp) (by go_simp) (by go_simp) (by go_simp) (by go_simp) (by go_simp) (by go_simp) (by go_simp) (by go_simp))).mono ?_
         case gr => exact (by repeat (first | with_reducible exact GA1.out | with_reducible exact HGW.out | with_reducible exact .refl _ | refine .alloc ?_ _ | refine .drewN ?_ _ | refine .drew ?_))
         rintro en w5 ⟨rfl, kb, sk, hk⟩
         have sk2 : SK w w5 := SK.trans (Grew.sk (Grew.trans HGW.out (by repeat (first | with_reducible exact GG1.out | with_reducible exact .refl _ | refine .alloc ?_ _ | refine .drewN ?_ _ | refine .drew ?_)))) sk
         have N5 : w5.heap[S]? = some (.cells es 96 (0, 0)) := sk _ _ _ _ (by decide) (by decide) (Turn.other (Grew.turn (by repeat (first | with_reducible exact GG1.out | with_reducible exact .refl _ | refine .alloc ?_ _ | refine .drewN ?_ _ | refine .drew ?_)) []) HN2.out (by simp))
         have B5 : w5.heap[q]? = some (.cells #[.bool p2.wide, .int .u64 p2.mn, .int .u64 p2.mx, .bool p2.hm] 81 (0, 0)) := sk _ _ _ _ (by decide) (by decide) (Turn.other (Grew.turn (by repeat (first | with_reducible exact GG1.out | with_reducible exact .refl _ | refine .alloc ?_ _ | refine .drewN ?_ _ | refine .drew ?_)) []) HB2.out (by simp))
         have D5 : w5.heap[qa]? = some (.cells #[.bool p.wide, .int .u64 p.mn, .int .u64 p.mx, .bool p.hm] 81 (0, 0)) := sk _ _ _ _ (by decide) (by decide) (Turn.other (Grew.turn (by repeat (first | with_reducible exact GG1.out | with_reducible exact .refl _ | refine .alloc ?_ _ | refine .drewN ?_ _ | refine .drew ?_)) []) HBb.out (by simp))
         have t9 := (cell_of N5 9).trans HC9.out
         have t0 := cell_of B5 0; have u0 := cell_of D5 0; have t1 := cell_of B5 1; have u1 := cell_of D5 1; have t2 := cell_of B5 2; have u2 := cell_of D5 2; have t3 := cell_of B5 3; have u3 := cell_of D5 3
         simp at t0 u0 t1 u1 t2 u2 t3 u3
         have HF := Hid.mk' (And.intro kb (And.intro sk2 hk))
         clear kb hk sk sk2 N5 B5 D5)
      | fail)
      all_goals
        go_wp2_with fail
        go_ret
        exact ⟨rfl, HF.out.1, HF.out.2.1, fun he => HF.out.2.2 (by first | exact he | trivial)⟩
end
end Go.Proofs.YtikaidokllnifaaGreatDoor
