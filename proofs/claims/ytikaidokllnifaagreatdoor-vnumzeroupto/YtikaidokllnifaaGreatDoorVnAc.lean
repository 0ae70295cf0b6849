/-
  Steps of vnum: the place that a load or a store speaks of; no statement is proved here.
-/
import Derived.Test.YtikaidokllnifaaGreatDoorVnCh
import Derived.Test.YtikaidokllnifaaGreatDoorVnGa
import Derived.Deep.RegionHeld3
set_option maxRecDepth 100000
set_option maxHeartbeats 8000000
namespace Go.Proofs.YtikaidokllnifaaGreatDoor
open Go.RowKit
set_option linter.unusedVariables false
set_option linter.unusedSimpArgs false
section
variable {gv : Value} {L : List RT} {W0 w : World} {C : Nat} {lv fv ov : Value} {g c : Nat} {lo : List LO} {fr : List Int} {ops : List VT} {fs : List FV} {x : FV} {S : Nat} {es : Array Value}
theorem access_out (A : StA gv L W0 w C lv fv ov g c lo fr ops fs x S es) {n : Nat} (h32 : n < 4294967296) (hx : es[15]? = some (.int .u32 (n : Int))) {mv : Value} {M : List LMt} (hm : es[3]? = some mv) (hM : LLm w mv M) (hn : M.length ≤ n) :
    Calls Tryz.prog 153 #[.pointer (some ⟨S, 0, none⟩)] w fun en w' => en = .returned (.tuple #[.agg #[.int .i64 0, .bool false, .int .i64 0], .agg #[.int .i64 0, .bool false, .int .i64 0], .int .i64 150]) ∧ Grew w w' := by
  have CAt : Hid (∀ X, Grew w X → Calls Tryz.prog 154 #[mv, .int .u32 (n : Int)] X fun en w' => en = .returned (.tuple #[.agg #[.bool false, .int .u64 0, .int .u64 0, .bool false], .int .i64 150]) ∧ Grew X w') := fun X k => atLM_out (hM.grew k) hn h32
  have s0 := A.cell hm
  have s1 := A.cell hx
  have HAA := Hid.mk' A
  obtain ⟨ma, mc, hmv, _⟩ := hM.one
  subst hmv
  clear A hx hm hM hn h32
  go_enter Tryz.func153, Tryz.ntmps153
  go_wp2_with fail
  obtain ⟨wz, hwz⟩ : ∃ wz, wz = (w.alloc (.cells #[.int .i64 0, .bool false, .int .i64 0] 39)).alloc (.cells #[.int .i64 0, .bool false, .int .i64 0] 39) := ⟨_, rfl⟩
  have Gz : Hid (Grew w wz) := by rw [hwz]; exact ((Grew.refl w).alloc _).alloc _
  have Na : Hid (wz.heap[w.heap.size]? = some (.cells #[.int .i64 0, .bool false, .int .i64 0] 39 (0, 0))) := by rw [hwz]; exact heap_alloc (heap_alloc_last _ _) _
  have Nb : Hid (wz.heap[w.heap.size + 1]? = some (.cells #[.int .i64 0, .bool false, .int .i64 0] 39 (0, 0))) := by
    rw [hwz]
    have := heap_alloc_last (w.alloc (.cells #[.int .i64 0, .bool false, .int .i64 0] 39)) (.cells #[.int .i64 0, .bool false, .int .i64 0] 39)
    rw [alloc_size] at this
    exact this
  have HLS : Hid (S < w.heap.size) := lt_of_obj HAA.out.N
  have HZ2 : Hid (wz.heap.size = w.heap.size + 2) := by rw [hwz]; simp [Hid]
  rw [← hwz]
  clear hwz
  have s0 := cell_grew s0 Gz.out
  have s1 := cell_grew s1 Gz.out
  have hS := lt_of_cell s1
  have hne1 : S ≠ wz.heap.size := Nat.ne_of_lt hS
  have hne2 : wz.heap.size ≠ S := Nat.ne_of_gt hS
  replace CAt := Hid.mk' (fun X k => CAt.out X (Gz.out.trans k))
  go_region_held3 (fun w' => w'.cell? ⟨S, 3, none⟩ = some (.slice ma M.length mc) ∧ w'.cell? ⟨S, 15, none⟩ = some (.int .u32 (n : Int))) (go_keep) (first
    | (with_reducible refine (CAt.out _ ?gr).mono ?_
       case gr => exact (by repeat (first | with_reducible exact .refl _ | refine .alloc ?_ _ | refine .drewN ?_ _ | refine .drew ?_))
       rintro en w1 ⟨rfl, g1⟩
       have gg1 : Grew wz w1 := Grew.trans (by repeat (first | with_reducible exact .refl _ | refine .alloc ?_ _ | refine .drewN ?_ _ | refine .drew ?_)) g1
       have G1 := Hid.mk' gg1
       have s10 := cell_grew s0 gg1
       have s11 := cell_grew s1 gg1
       first
       | (have gz : Grew (wz.alloc (.cells #[.bool false, .int .u64 0, .int .u64 0, .bool false] 81)) w1 := (by first | exact g1 | exact ((Grew.refl _).drew).trans g1 | exact ((Grew.refl _).drewN _).trans g1)
          have Bz := (gz.turn []).other (heap_alloc_last wz (.cells #[.bool false, .int .u64 0, .int .u64 0, .bool false] 81)) (by simp)
          have HBz := Hid.mk' Bz
          have hlz := lt_of_obj Bz
          have y0 := cell_of Bz 0; have r0 := free_of Bz 0; have y1 := cell_of Bz 1; have r1 := free_of Bz 1; have y2 := cell_of Bz 2; have r2 := free_of Bz 2; have y3 := cell_of Bz 3; have r3 := free_of Bz 3
          simp at y0 y1 y2 y3
          clear gz Bz)
       | skip
       clear g1 gg1)
    | fail)
  all_goals
    clear s10 s11 s0 s1 CAt
    go_wp2_with fail
    first
    | (have hh0 := hlz
       have B2 : ((((w1.setCell ⟨wz.heap.size, 0, none⟩ (.bool false)).setCell ⟨wz.heap.size, 1, none⟩ (.int .u64 0)).setCell ⟨wz.heap.size, 2, none⟩ (.int .u64 0)).setCell ⟨wz.heap.size, 3, none⟩ (.bool false)).heap[wz.heap.size]? = some (.cells #[.bool false, .int .u64 0, .int .u64 0, .bool false] 81 (0, 0)) := (heap_set (heap_set (heap_set (heap_set HBz.out 0 (.bool false)) 1 (.int .u64 0)) 2 (.int .u64 0)) 3 (.bool false))
       have gg2 : Grew wz ((((w1.setCell ⟨wz.heap.size, 0, none⟩ (.bool false)).setCell ⟨wz.heap.size, 1, none⟩ (.int .u64 0)).setCell ⟨wz.heap.size, 2, none⟩ (.int .u64 0)).setCell ⟨wz.heap.size, 3, none⟩ (.bool false)) := ((((G1.out.set (p := ⟨wz.heap.size, 0, none⟩) (Nat.le_refl _) (.bool false)).set (p := ⟨wz.heap.size, 1, none⟩) (Nat.le_refl _) (.int .u64 0)).set (p := ⟨wz.heap.size, 2, none⟩) (Nat.le_refl _) (.int .u64 0)).set (p := ⟨wz.heap.size, 3, none⟩) (Nat.le_refl _) (.bool false))
       have HB2 := Hid.mk' B2
       have HG2 := Hid.mk' gg2
       clear hh0 hlz y0 r0 y1 r1 y2 r2 y3 r3 HBz B2 gg2 hne1 hne2 hS
       generalize ((((w1.setCell ⟨wz.heap.size, 0, none⟩ (.bool false)).setCell ⟨wz.heap.size, 1, none⟩ (.int .u64 0)).setCell ⟨wz.heap.size, 2, none⟩ (.int .u64 0)).setCell ⟨wz.heap.size, 3, none⟩ (.bool false)) = w2 at *
       obtain ⟨q, hqq⟩ : ∃ q, q = wz.heap.size := ⟨_, rfl⟩
       have HQB : Hid (q ≠ w.heap.size + 1 ∧ q ≠ w.heap.size) := ⟨by rw [hqq, HZ2.out]; omega, by rw [hqq, HZ2.out]; omega⟩
       rw [← hqq] at HB2
       simp only [← hqq]
       clear hqq)
    | (have B2 : (w1.alloc (.cells #[.bool false, .int .u64 0, .int .u64 0, .bool false] 81)).heap[w1.heap.size]? = some (.cells #[.bool false, .int .u64 0, .int .u64 0, .bool false] 81 (0, 0)) := heap_alloc_last _ _
       have gg2 : Grew wz (w1.alloc (.cells #[.bool false, .int .u64 0, .int .u64 0, .bool false] 81)) := G1.out.alloc _
       have HB2 := Hid.mk' B2
       have HG2 := Hid.mk' gg2
       clear B2 gg2 hne1 hne2 hS
       generalize w1.alloc (.cells #[.bool false, .int .u64 0, .int .u64 0, .bool false] 81) = w2 at *
       obtain ⟨q, hqq⟩ : ∃ q, q = w1.heap.size := ⟨_, rfl⟩
       have HQB : Hid (q ≠ w.heap.size + 1 ∧ q ≠ w.heap.size) := by have h1 := G1.out.2; rw [HZ2.out] at h1; exact ⟨by rw [hqq]; omega, by rw [hqq]; omega⟩
       rw [← hqq] at HB2
       simp only [← hqq]
       clear hqq)
    have HGw := Hid.mk' (Gz.out.trans HG2.out)
    have A2 := HAA.out.grew HGw.out
    have HN2 := Hid.mk' A2.N
    have hS2 := lt_of_obj A2.N
    have hq2 := lt_of_obj HB2.out
    have Na2 := (HG2.out.turn []).other Na.out (by simp)
    have Nb2 := (HG2.out.turn []).other Nb.out (by simp)
    have ha2 := lt_of_obj Na2
    have hb2 := lt_of_obj Nb2
    have a0 := cell_of Na2 0; have a1 := cell_of Na2 1; have a2 := cell_of Na2 2
    have b0 := cell_of Nb2 0; have b1 := cell_of Nb2 1; have b2 := cell_of Nb2 2
    have y0 := cell_of HB2.out 0; have y1 := cell_of HB2.out 1; have y2 := cell_of HB2.out 2; have y3 := cell_of HB2.out 3
    simp at a0 a1 a2 b0 b1 b2 y0 y1 y2 y3
    have f0 := free_of Na2 0; have f1 := free_of Na2 1; have f2 := free_of Na2 2
    have f3 := free_of Nb2 0; have f4 := free_of Nb2 1; have f5 := free_of Nb2 2
    have E0 := set_same (o := 0) (v := .int .i64 0) Na2 rfl
    have E1 := set_same (o := 1) (v := .bool false) Na2 rfl
    have E2 := set_same (o := 2) (v := .int .i64 0) Na2 rfl
    have F0 := set_same (o := 0) (v := .int .i64 0) Nb2 rfl
    have F1 := set_same (o := 1) (v := .bool false) Nb2 rfl
    have F2 := set_same (o := 2) (v := .int .i64 0) Nb2 rfl
    clear Na2 Nb2 A2
    go_region
    all_goals
      go_wp2_with fail
      refine bodyPost_ret (v := .tuple #[.agg #[.int .i64 0, .bool false, .int .i64 0], .agg #[.int .i64 0, .bool false, .int .i64 0], .int .i64 150]) (by simp [results, Tryz.results153, go_sem, a0, a1, a2, b0, b1, b2]) rfl ⟨rfl, (by repeat (first | with_reducible exact HGw.out | refine .alloc ?_ _ | refine .drewN ?_ _ | refine .drew ?_))⟩
theorem access_al (A : StA gv L W0 w C lv fv ov g c lo fr ops fs x S es) {n : Nat} (h32 : n < 4294967296) (hx : es[15]? = some (.int .u32 (n : Int))) {mv : Value} {M : List LMt} (hm : es[3]? = some mv) (hM : LLm w mv M) {p : LMt} (hp : M[n]? = some p) {op vn vb : Int} {vs : Bool} (ho : es[10]? = some (.int .i64 op)) (h40 : 40 ≤ op) (h62 : op ≤ 62) (hr : accL[(op - 40).toNat]? = some (vn, vb, vs)) (hT : TabA w) {al off : Int} (hal : es[14]? = some (.int .u32 al)) (hof : es[16]? = some (.int .u64 off)) (hal0 : 0 ≤ al) (hz : IntKind.u64.wrap vb / 2 ^ min al.toNat 64 = 0) :
    Calls Tryz.prog 153 #[.pointer (some ⟨S, 0, none⟩)] w fun en w' => en = .returned (.tuple #[.agg #[.int .i64 0, .bool false, .int .i64 0], .agg #[.int .i64 vn, .bool false, .int .i64 0], .int .i64 140]) ∧ Grew w w' := by
  have CAt : Hid (∀ X, Grew w X → Calls Tryz.prog 154 #[mv, .int .u32 (n : Int)] X fun en w' => en = .returned (.tuple #[.agg #[.bool p.wide, .int .u64 p.mn, .int .u64 p.mx, .bool p.hm], .int .i64 0]) ∧ Grew X w') := fun X k => atLM_in (hM.grew k) hp h32
  have CW : Hid (∀ X, Grew w X → Calls Tryz.prog 192 #[.int .i64 op] X fun en w' => en = .returned (.tuple #[.agg #[.int .i64 vn, .bool false, .int .i64 0], .int .i64 vb, .bool (decide (54 ≤ op)), .bool vs, .int .i64 0]) ∧ Grew X w') := fun X k => width_yes op h40 h62 vn vb vs hr X (hT.grew k)
  have CO := Hid.mk' ho
  have CAL := Hid.mk' hal
  have COF := Hid.mk' hof
  clear hr hT h40 h62 hal hof ho
  obtain ⟨R, hR⟩ : ∃ R, R = IntKind.u64.wrap vb / 2 ^ min al.toNat 64 := ⟨_, rfl⟩
  have HSH : Hid (Op.shift .shr .u64 (IntKind.u64.wrap vb) .u32 al = pure (.int .u64 R)) := by
    show Op.shift .shr .u64 (IntKind.u64.wrap vb) .u32 al = pure (.int .u64 R)
    rw [shift_shr_any _ _ _ _ hal0, hR]
    rfl
  rw [← hR] at hz
  clear hal0 hR
  have dz : (R == 0) = true := by simpa using hz
  have s0 := A.cell hm
  have s1 := A.cell hx
  have HAA := Hid.mk' A
  obtain ⟨ma, mc, hmv, _⟩ := hM.one
  subst hmv
  clear A hx hm hM hp h32
  go_enter Tryz.func153, Tryz.ntmps153
  go_wp2_with fail
  obtain ⟨wz, hwz⟩ : ∃ wz, wz = (w.alloc (.cells #[.int .i64 0, .bool false, .int .i64 0] 39)).alloc (.cells #[.int .i64 0, .bool false, .int .i64 0] 39) := ⟨_, rfl⟩
  have Gz : Hid (Grew w wz) := by rw [hwz]; exact ((Grew.refl w).alloc _).alloc _
  have Na : Hid (wz.heap[w.heap.size]? = some (.cells #[.int .i64 0, .bool false, .int .i64 0] 39 (0, 0))) := by rw [hwz]; exact heap_alloc (heap_alloc_last _ _) _
  have Nb : Hid (wz.heap[w.heap.size + 1]? = some (.cells #[.int .i64 0, .bool false, .int .i64 0] 39 (0, 0))) := by
    rw [hwz]
    have := heap_alloc_last (w.alloc (.cells #[.int .i64 0, .bool false, .int .i64 0] 39)) (.cells #[.int .i64 0, .bool false, .int .i64 0] 39)
    rw [alloc_size] at this
    exact this
  have HLS : Hid (S < w.heap.size) := lt_of_obj HAA.out.N
  have HZ2 : Hid (wz.heap.size = w.heap.size + 2) := by rw [hwz]; simp [Hid]
  rw [← hwz]
  clear hwz
  have s0 := cell_grew s0 Gz.out
  have s1 := cell_grew s1 Gz.out
  have hS := lt_of_cell s1
  have hne1 : S ≠ wz.heap.size := Nat.ne_of_lt hS
  have hne2 : wz.heap.size ≠ S := Nat.ne_of_gt hS
  replace CAt := Hid.mk' (fun X k => CAt.out X (Gz.out.trans k))
  go_region_held3 (fun w' => w'.cell? ⟨S, 3, none⟩ = some (.slice ma M.length mc) ∧ w'.cell? ⟨S, 15, none⟩ = some (.int .u32 (n : Int))) (go_keep) (first
    | (with_reducible refine (CAt.out _ ?gr).mono ?_
       case gr => exact (by repeat (first | with_reducible exact .refl _ | refine .alloc ?_ _ | refine .drewN ?_ _ | refine .drew ?_))
       rintro en w1 ⟨rfl, g1⟩
       have gg1 : Grew wz w1 := Grew.trans (by repeat (first | with_reducible exact .refl _ | refine .alloc ?_ _ | refine .drewN ?_ _ | refine .drew ?_)) g1
       have G1 := Hid.mk' gg1
       have s10 := cell_grew s0 gg1
       have s11 := cell_grew s1 gg1
       first
       | (have gz : Grew (wz.alloc (.cells #[.bool false, .int .u64 0, .int .u64 0, .bool false] 81)) w1 := (by first | exact g1 | exact ((Grew.refl _).drew).trans g1 | exact ((Grew.refl _).drewN _).trans g1)
          have Bz := (gz.turn []).other (heap_alloc_last wz (.cells #[.bool false, .int .u64 0, .int .u64 0, .bool false] 81)) (by simp)
          have HBz := Hid.mk' Bz
          have hlz := lt_of_obj Bz
          have y0 := cell_of Bz 0; have r0 := free_of Bz 0; have y1 := cell_of Bz 1; have r1 := free_of Bz 1; have y2 := cell_of Bz 2; have r2 := free_of Bz 2; have y3 := cell_of Bz 3; have r3 := free_of Bz 3
          simp at y0 y1 y2 y3
          clear gz Bz)
       | skip
       clear g1 gg1)
    | fail)
  all_goals
    clear s10 s11 s0 s1 CAt
    have AW := HAA.out.grew (Gz.out.trans G1.out)
    have s4 := AW.cell CO.out
    have hS1 := lt_of_obj AW.N
    clear AW
    go_wp2_with fail
    clear s4 hS1
    first
    | (have hh0 := hlz
       have B2 : ((((w1.setCell ⟨wz.heap.size, 0, none⟩ (.bool p.wide)).setCell ⟨wz.heap.size, 1, none⟩ (.int .u64 p.mn)).setCell ⟨wz.heap.size, 2, none⟩ (.int .u64 p.mx)).setCell ⟨wz.heap.size, 3, none⟩ (.bool p.hm)).heap[wz.heap.size]? = some (.cells #[.bool p.wide, .int .u64 p.mn, .int .u64 p.mx, .bool p.hm] 81 (0, 0)) := (heap_set (heap_set (heap_set (heap_set HBz.out 0 (.bool p.wide)) 1 (.int .u64 p.mn)) 2 (.int .u64 p.mx)) 3 (.bool p.hm))
       have gg2 : Grew wz ((((w1.setCell ⟨wz.heap.size, 0, none⟩ (.bool p.wide)).setCell ⟨wz.heap.size, 1, none⟩ (.int .u64 p.mn)).setCell ⟨wz.heap.size, 2, none⟩ (.int .u64 p.mx)).setCell ⟨wz.heap.size, 3, none⟩ (.bool p.hm)) := ((((G1.out.set (p := ⟨wz.heap.size, 0, none⟩) (Nat.le_refl _) (.bool p.wide)).set (p := ⟨wz.heap.size, 1, none⟩) (Nat.le_refl _) (.int .u64 p.mn)).set (p := ⟨wz.heap.size, 2, none⟩) (Nat.le_refl _) (.int .u64 p.mx)).set (p := ⟨wz.heap.size, 3, none⟩) (Nat.le_refl _) (.bool p.hm))
       have HB2 := Hid.mk' B2
       have HG2 := Hid.mk' gg2
       clear hh0 hlz y0 r0 y1 r1 y2 r2 y3 r3 HBz B2 gg2 hne1 hne2 hS
       generalize ((((w1.setCell ⟨wz.heap.size, 0, none⟩ (.bool p.wide)).setCell ⟨wz.heap.size, 1, none⟩ (.int .u64 p.mn)).setCell ⟨wz.heap.size, 2, none⟩ (.int .u64 p.mx)).setCell ⟨wz.heap.size, 3, none⟩ (.bool p.hm)) = w2 at *
       obtain ⟨q, hqq⟩ : ∃ q, q = wz.heap.size := ⟨_, rfl⟩
       have HQB : Hid (q ≠ w.heap.size + 1 ∧ q ≠ w.heap.size) := ⟨by rw [hqq, HZ2.out]; omega, by rw [hqq, HZ2.out]; omega⟩
       rw [← hqq] at HB2
       simp only [← hqq]
       clear hqq)
    | (have B2 : (w1.alloc (.cells #[.bool p.wide, .int .u64 p.mn, .int .u64 p.mx, .bool p.hm] 81)).heap[w1.heap.size]? = some (.cells #[.bool p.wide, .int .u64 p.mn, .int .u64 p.mx, .bool p.hm] 81 (0, 0)) := heap_alloc_last _ _
       have gg2 : Grew wz (w1.alloc (.cells #[.bool p.wide, .int .u64 p.mn, .int .u64 p.mx, .bool p.hm] 81)) := G1.out.alloc _
       have HB2 := Hid.mk' B2
       have HG2 := Hid.mk' gg2
       clear B2 gg2 hne1 hne2 hS
       generalize w1.alloc (.cells #[.bool p.wide, .int .u64 p.mn, .int .u64 p.mx, .bool p.hm] 81) = w2 at *
       obtain ⟨q, hqq⟩ : ∃ q, q = w1.heap.size := ⟨_, rfl⟩
       have HQB : Hid (q ≠ w.heap.size + 1 ∧ q ≠ w.heap.size) := by have h1 := G1.out.2; rw [HZ2.out] at h1; exact ⟨by rw [hqq]; omega, by rw [hqq]; omega⟩
       rw [← hqq] at HB2
       simp only [← hqq]
       clear hqq)
    have HGw := Hid.mk' (Gz.out.trans HG2.out)
    have A2 := HAA.out.grew HGw.out
    have HN2 := Hid.mk' A2.N
    have hS2 := lt_of_obj A2.N
    have hq2 := lt_of_obj HB2.out
    have Na2 := (HG2.out.turn []).other Na.out (by simp)
    have Nb2 := (HG2.out.turn []).other Nb.out (by simp)
    have ha2 := lt_of_obj Na2
    have hb2 := lt_of_obj Nb2
    have a0 := cell_of Na2 0; have a1 := cell_of Na2 1; have a2 := cell_of Na2 2
    have b0 := cell_of Nb2 0; have b1 := cell_of Nb2 1; have b2 := cell_of Nb2 2
    have y0 := cell_of HB2.out 0; have y1 := cell_of HB2.out 1; have y2 := cell_of HB2.out 2; have y3 := cell_of HB2.out 3
    simp at a0 a1 a2 b0 b1 b2 y0 y1 y2 y3
    have f0 := free_of Na2 0; have f1 := free_of Na2 1; have f2 := free_of Na2 2
    have f3 := free_of Nb2 0; have f4 := free_of Nb2 1; have f5 := free_of Nb2 2
    have s5 := A2.cell CAL.out
    have s6 := A2.cell COF.out
    have HBl := Hid.mk' HB2.out
    clear a0 a1 a2 b0 b1 b2 y0 y1 y2 y3 f0 f1 f2 f3 f4 f5 A2 ha2 hb2 hq2
    have HNa2 := Hid.mk' Na2
    have HNb2 := Hid.mk' Nb2
    clear Na2 Nb2 Na Nb
    go_wp2_with fail
    refine (CW.out _ HGw.out).mono ?_
    rintro en w3 ⟨rfl, g3⟩
    have Na3 := (g3.turn []).other HNa2.out (by simp)
    have Nb3 := (g3.turn []).other HNb2.out (by simp)
    have Nq3 := (g3.turn []).other HBl.out (by simp)
    have s5 := cell_grew s5 g3
    have s6 := cell_grew s6 g3
    have HG3 := Hid.mk' (HGw.out.trans g3)
    have b0 := cell_of Nb3 0; have b1 := cell_of Nb3 1; have b2 := cell_of Nb3 2
    have f3 := free_of Nb3 0; have f4 := free_of Nb3 1; have f5 := free_of Nb3 2
    simp at b0 b1 b2
    have ha3 := lt_of_obj Na3
    have hb3 := lt_of_obj Nb3
    have hq3 := lt_of_obj Nq3
    have hS3 := lt_of_cell s5
    have y0 := cell_of Nq3 0; have y1 := cell_of Nq3 1; have y2 := cell_of Nq3 2; have y3 := cell_of Nq3 3
    simp at y0 y1 y2 y3
    clear g3 CW
    have hSb : S ≠ w.heap.size + 1 := fun e => by have := HLS.out; omega
    have hbS : w.heap.size + 1 ≠ S := Ne.symm hSb
    have hqb : q ≠ w.heap.size + 1 := HQB.out.1
    have hbq : w.heap.size + 1 ≠ q := Ne.symm hqb
    go_wp2_with fail
    have Nb4 : (((w3.setCell ⟨w.heap.size + 1, 0, none⟩ (.int .i64 vn)).setCell ⟨w.heap.size + 1, 1, none⟩ (.bool false)).setCell ⟨w.heap.size + 1, 2, none⟩ (.int .i64 0)).heap[w.heap.size + 1]? = some (.cells #[.int .i64 vn, .bool false, .int .i64 0] 39 (0, 0)) := heap_set (heap_set (heap_set Nb3 0 _) 1 _) 2 _
    have Na4 : (((w3.setCell ⟨w.heap.size + 1, 0, none⟩ (.int .i64 vn)).setCell ⟨w.heap.size + 1, 1, none⟩ (.bool false)).setCell ⟨w.heap.size + 1, 2, none⟩ (.int .i64 0)).heap[w.heap.size]? = some (.cells #[.int .i64 0, .bool false, .int .i64 0] 39 (0, 0)) := heap_other (heap_other (heap_other Na3 (by simp) _) (by simp) _) (by simp) _
    have Nq4 : (((w3.setCell ⟨w.heap.size + 1, 0, none⟩ (.int .i64 vn)).setCell ⟨w.heap.size + 1, 1, none⟩ (.bool false)).setCell ⟨w.heap.size + 1, 2, none⟩ (.int .i64 0)).heap[q]? = some (.cells #[.bool p.wide, .int .u64 p.mn, .int .u64 p.mx, .bool p.hm] 81 (0, 0)) := heap_other (heap_other (heap_other Nq3 (by simpa using hqb) _) (by simpa using hqb) _) (by simpa using hqb) _
    have G4 : Hid (Grew w (((w3.setCell ⟨w.heap.size + 1, 0, none⟩ (.int .i64 vn)).setCell ⟨w.heap.size + 1, 1, none⟩ (.bool false)).setCell ⟨w.heap.size + 1, 2, none⟩ (.int .i64 0))) := ((HG3.out.set (p := ⟨w.heap.size + 1, 0, none⟩) (Nat.le_succ _) _).set (p := ⟨w.heap.size + 1, 1, none⟩) (Nat.le_succ _) _).set (p := ⟨w.heap.size + 1, 2, none⟩) (Nat.le_succ _) _
    clear Na3 Nb3 Nq3 HG3 HG2 HGw b0 b1 b2 f3 f4 f5 y0 y1 y2 y3 s5 s6 ha3 hb3 hq3 hS3 hSb hbS hqb hbq HNa2 HNb2 HBl hS2
    generalize (((w3.setCell ⟨w.heap.size + 1, 0, none⟩ (.int .i64 vn)).setCell ⟨w.heap.size + 1, 1, none⟩ (.bool false)).setCell ⟨w.heap.size + 1, 2, none⟩ (.int .i64 0)) = w4 at *
    have A4 := HAA.out.grew G4.out
    have s6 := A4.cell COF.out
    have hS4 := lt_of_obj A4.N
    have ha4 := lt_of_obj Na4
    have hb4 := lt_of_obj Nb4
    have hq4 := lt_of_obj Nq4
    have a0 := cell_of Na4 0; have a1 := cell_of Na4 1; have a2 := cell_of Na4 2
    have b0 := cell_of Nb4 0; have b1 := cell_of Nb4 1; have b2 := cell_of Nb4 2
    have y0 := cell_of Nq4 0; have y1 := cell_of Nq4 1; have y2 := cell_of Nq4 2; have y3 := cell_of Nq4 3
    simp at a0 a1 a2 b0 b1 b2 y0 y1 y2 y3
    have f0 := free_of Na4 0; have f1 := free_of Na4 1; have f2 := free_of Na4 2
    have f3 := free_of Nb4 0; have f4 := free_of Nb4 1; have f5 := free_of Nb4 2
    have E0 := set_same (o := 0) (v := .int .i64 0) Na4 rfl
    have E1 := set_same (o := 1) (v := .bool false) Na4 rfl
    have E2 := set_same (o := 2) (v := .int .i64 0) Na4 rfl
    have F0 := set_same (o := 0) (v := .int .i64 vn) Nb4 rfl
    have F1 := set_same (o := 1) (v := .bool false) Nb4 rfl
    have F2 := set_same (o := 2) (v := .int .i64 0) Nb4 rfl
    have HNa4 := Hid.mk' Na4
    have HNb4 := Hid.mk' Nb4
    have HNq4 := Hid.mk' Nq4
    clear A4 Na4 Nb4 Nq4
    simp only [HSH.out]
    go_simp
    go_wp2_with fail
    go_region
    all_goals
      go_wp2_with fail
      refine bodyPost_ret (v := .tuple #[.agg #[.int .i64 0, .bool false, .int .i64 0], .agg #[.int .i64 vn, .bool false, .int .i64 0], .int .i64 140]) (by simp [results, Tryz.results153, go_sem, a0, a1, a2, b0, b1, b2]) rfl ⟨rfl, (by repeat (first | with_reducible exact G4.out | refine .alloc ?_ _ | refine .drewN ?_ _ | refine .drew ?_))⟩
theorem access_of (A : StA gv L W0 w C lv fv ov g c lo fr ops fs x S es) {n : Nat} (h32 : n < 4294967296) (hx : es[15]? = some (.int .u32 (n : Int))) {mv : Value} {M : List LMt} (hm : es[3]? = some mv) (hM : LLm w mv M) {p : LMt} (hp : M[n]? = some p) {op vn vb : Int} {vs : Bool} (ho : es[10]? = some (.int .i64 op)) (h40 : 40 ≤ op) (h62 : op ≤ 62) (hr : accL[(op - 40).toNat]? = some (vn, vb, vs)) (hT : TabA w) {al off : Int} (hal : es[14]? = some (.int .u32 al)) (hof : es[16]? = some (.int .u64 off)) (hal0 : 0 ≤ al) (hz : ¬ IntKind.u64.wrap vb / 2 ^ min al.toNat 64 = 0) (hwd : p.wide = false) (hof2 : 4294967295 < off) :
    Calls Tryz.prog 153 #[.pointer (some ⟨S, 0, none⟩)] w fun en w' => en = .returned (.tuple #[.agg #[.int .i64 0, .bool false, .int .i64 0], .agg #[.int .i64 vn, .bool false, .int .i64 0], .int .i64 141]) ∧ Grew w w' := by
  have CAt : Hid (∀ X, Grew w X → Calls Tryz.prog 154 #[mv, .int .u32 (n : Int)] X fun en w' => en = .returned (.tuple #[.agg #[.bool p.wide, .int .u64 p.mn, .int .u64 p.mx, .bool p.hm], .int .i64 0]) ∧ Grew X w') := fun X k => atLM_in (hM.grew k) hp h32
  have CW : Hid (∀ X, Grew w X → Calls Tryz.prog 192 #[.int .i64 op] X fun en w' => en = .returned (.tuple #[.agg #[.int .i64 vn, .bool false, .int .i64 0], .int .i64 vb, .bool (decide (54 ≤ op)), .bool vs, .int .i64 0]) ∧ Grew X w') := fun X k => width_yes op h40 h62 vn vb vs hr X (hT.grew k)
  have CO := Hid.mk' ho
  have CAL := Hid.mk' hal
  have COF := Hid.mk' hof
  clear hr hT h40 h62 hal hof ho
  obtain ⟨R, hR⟩ : ∃ R, R = IntKind.u64.wrap vb / 2 ^ min al.toNat 64 := ⟨_, rfl⟩
  have HSH : Hid (Op.shift .shr .u64 (IntKind.u64.wrap vb) .u32 al = pure (.int .u64 R)) := by
    show Op.shift .shr .u64 (IntKind.u64.wrap vb) .u32 al = pure (.int .u64 R)
    rw [shift_shr_any _ _ _ _ hal0, hR]
    rfl
  rw [← hR] at hz
  clear hal0 hR
  have dz : (R == 0) = false := by simpa using hz
  have d1 : decide (4294967295 < off) = true := by simpa using hof2
  have HWD := Hid.mk' hwd
  clear hwd
  have s0 := A.cell hm
  have s1 := A.cell hx
  have HAA := Hid.mk' A
  obtain ⟨ma, mc, hmv, _⟩ := hM.one
  subst hmv
  clear A hx hm hM hp h32
  go_enter Tryz.func153, Tryz.ntmps153
  go_wp2_with fail
  obtain ⟨wz, hwz⟩ : ∃ wz, wz = (w.alloc (.cells #[.int .i64 0, .bool false, .int .i64 0] 39)).alloc (.cells #[.int .i64 0, .bool false, .int .i64 0] 39) := ⟨_, rfl⟩
  have Gz : Hid (Grew w wz) := by rw [hwz]; exact ((Grew.refl w).alloc _).alloc _
  have Na : Hid (wz.heap[w.heap.size]? = some (.cells #[.int .i64 0, .bool false, .int .i64 0] 39 (0, 0))) := by rw [hwz]; exact heap_alloc (heap_alloc_last _ _) _
  have Nb : Hid (wz.heap[w.heap.size + 1]? = some (.cells #[.int .i64 0, .bool false, .int .i64 0] 39 (0, 0))) := by
    rw [hwz]
    have := heap_alloc_last (w.alloc (.cells #[.int .i64 0, .bool false, .int .i64 0] 39)) (.cells #[.int .i64 0, .bool false, .int .i64 0] 39)
    rw [alloc_size] at this
    exact this
  have HLS : Hid (S < w.heap.size) := lt_of_obj HAA.out.N
  have HZ2 : Hid (wz.heap.size = w.heap.size + 2) := by rw [hwz]; simp [Hid]
  rw [← hwz]
  clear hwz
  have s0 := cell_grew s0 Gz.out
  have s1 := cell_grew s1 Gz.out
  have hS := lt_of_cell s1
  have hne1 : S ≠ wz.heap.size := Nat.ne_of_lt hS
  have hne2 : wz.heap.size ≠ S := Nat.ne_of_gt hS
  replace CAt := Hid.mk' (fun X k => CAt.out X (Gz.out.trans k))
  go_region_held3 (fun w' => w'.cell? ⟨S, 3, none⟩ = some (.slice ma M.length mc) ∧ w'.cell? ⟨S, 15, none⟩ = some (.int .u32 (n : Int))) (go_keep) (first
    | (with_reducible refine (CAt.out _ ?gr).mono ?_
       case gr => exact (by repeat (first | with_reducible exact .refl _ | refine .alloc ?_ _ | refine .drewN ?_ _ | refine .drew ?_))
       rintro en w1 ⟨rfl, g1⟩
       have gg1 : Grew wz w1 := Grew.trans (by repeat (first | with_reducible exact .refl _ | refine .alloc ?_ _ | refine .drewN ?_ _ | refine .drew ?_)) g1
       have G1 := Hid.mk' gg1
       have s10 := cell_grew s0 gg1
       have s11 := cell_grew s1 gg1
       first
       | (have gz : Grew (wz.alloc (.cells #[.bool false, .int .u64 0, .int .u64 0, .bool false] 81)) w1 := (by first | exact g1 | exact ((Grew.refl _).drew).trans g1 | exact ((Grew.refl _).drewN _).trans g1)
          have Bz := (gz.turn []).other (heap_alloc_last wz (.cells #[.bool false, .int .u64 0, .int .u64 0, .bool false] 81)) (by simp)
          have HBz := Hid.mk' Bz
          have hlz := lt_of_obj Bz
          have y0 := cell_of Bz 0; have r0 := free_of Bz 0; have y1 := cell_of Bz 1; have r1 := free_of Bz 1; have y2 := cell_of Bz 2; have r2 := free_of Bz 2; have y3 := cell_of Bz 3; have r3 := free_of Bz 3
          simp at y0 y1 y2 y3
          clear gz Bz)
       | skip
       clear g1 gg1)
    | fail)
  all_goals
    clear s10 s11 s0 s1 CAt
    have AW := HAA.out.grew (Gz.out.trans G1.out)
    have s4 := AW.cell CO.out
    have hS1 := lt_of_obj AW.N
    clear AW
    go_wp2_with fail
    clear s4 hS1
    first
    | (have hh0 := hlz
       have B2 : ((((w1.setCell ⟨wz.heap.size, 0, none⟩ (.bool p.wide)).setCell ⟨wz.heap.size, 1, none⟩ (.int .u64 p.mn)).setCell ⟨wz.heap.size, 2, none⟩ (.int .u64 p.mx)).setCell ⟨wz.heap.size, 3, none⟩ (.bool p.hm)).heap[wz.heap.size]? = some (.cells #[.bool p.wide, .int .u64 p.mn, .int .u64 p.mx, .bool p.hm] 81 (0, 0)) := (heap_set (heap_set (heap_set (heap_set HBz.out 0 (.bool p.wide)) 1 (.int .u64 p.mn)) 2 (.int .u64 p.mx)) 3 (.bool p.hm))
       have gg2 : Grew wz ((((w1.setCell ⟨wz.heap.size, 0, none⟩ (.bool p.wide)).setCell ⟨wz.heap.size, 1, none⟩ (.int .u64 p.mn)).setCell ⟨wz.heap.size, 2, none⟩ (.int .u64 p.mx)).setCell ⟨wz.heap.size, 3, none⟩ (.bool p.hm)) := ((((G1.out.set (p := ⟨wz.heap.size, 0, none⟩) (Nat.le_refl _) (.bool p.wide)).set (p := ⟨wz.heap.size, 1, none⟩) (Nat.le_refl _) (.int .u64 p.mn)).set (p := ⟨wz.heap.size, 2, none⟩) (Nat.le_refl _) (.int .u64 p.mx)).set (p := ⟨wz.heap.size, 3, none⟩) (Nat.le_refl _) (.bool p.hm))
       have HB2 := Hid.mk' B2
       have HG2 := Hid.mk' gg2
       clear hh0 hlz y0 r0 y1 r1 y2 r2 y3 r3 HBz B2 gg2 hne1 hne2 hS
       generalize ((((w1.setCell ⟨wz.heap.size, 0, none⟩ (.bool p.wide)).setCell ⟨wz.heap.size, 1, none⟩ (.int .u64 p.mn)).setCell ⟨wz.heap.size, 2, none⟩ (.int .u64 p.mx)).setCell ⟨wz.heap.size, 3, none⟩ (.bool p.hm)) = w2 at *
       obtain ⟨q, hqq⟩ : ∃ q, q = wz.heap.size := ⟨_, rfl⟩
       have HQB : Hid (q ≠ w.heap.size + 1 ∧ q ≠ w.heap.size) := ⟨by rw [hqq, HZ2.out]; omega, by rw [hqq, HZ2.out]; omega⟩
       rw [← hqq] at HB2
       simp only [← hqq]
       clear hqq)
    | (have B2 : (w1.alloc (.cells #[.bool p.wide, .int .u64 p.mn, .int .u64 p.mx, .bool p.hm] 81)).heap[w1.heap.size]? = some (.cells #[.bool p.wide, .int .u64 p.mn, .int .u64 p.mx, .bool p.hm] 81 (0, 0)) := heap_alloc_last _ _
       have gg2 : Grew wz (w1.alloc (.cells #[.bool p.wide, .int .u64 p.mn, .int .u64 p.mx, .bool p.hm] 81)) := G1.out.alloc _
       have HB2 := Hid.mk' B2
       have HG2 := Hid.mk' gg2
       clear B2 gg2 hne1 hne2 hS
       generalize w1.alloc (.cells #[.bool p.wide, .int .u64 p.mn, .int .u64 p.mx, .bool p.hm] 81) = w2 at *
       obtain ⟨q, hqq⟩ : ∃ q, q = w1.heap.size := ⟨_, rfl⟩
       have HQB : Hid (q ≠ w.heap.size + 1 ∧ q ≠ w.heap.size) := by have h1 := G1.out.2; rw [HZ2.out] at h1; exact ⟨by rw [hqq]; omega, by rw [hqq]; omega⟩
       rw [← hqq] at HB2
       simp only [← hqq]
       clear hqq)
    have HGw := Hid.mk' (Gz.out.trans HG2.out)
    have A2 := HAA.out.grew HGw.out
    have HN2 := Hid.mk' A2.N
    have hS2 := lt_of_obj A2.N
    have hq2 := lt_of_obj HB2.out
    have Na2 := (HG2.out.turn []).other Na.out (by simp)
    have Nb2 := (HG2.out.turn []).other Nb.out (by simp)
    have ha2 := lt_of_obj Na2
    have hb2 := lt_of_obj Nb2
    have a0 := cell_of Na2 0; have a1 := cell_of Na2 1; have a2 := cell_of Na2 2
    have b0 := cell_of Nb2 0; have b1 := cell_of Nb2 1; have b2 := cell_of Nb2 2
    have y0 := cell_of HB2.out 0; have y1 := cell_of HB2.out 1; have y2 := cell_of HB2.out 2; have y3 := cell_of HB2.out 3
    simp at a0 a1 a2 b0 b1 b2 y0 y1 y2 y3
    have f0 := free_of Na2 0; have f1 := free_of Na2 1; have f2 := free_of Na2 2
    have f3 := free_of Nb2 0; have f4 := free_of Nb2 1; have f5 := free_of Nb2 2
    have s5 := A2.cell CAL.out
    have s6 := A2.cell COF.out
    have HBl := Hid.mk' HB2.out
    clear a0 a1 a2 b0 b1 b2 y0 y1 y2 y3 f0 f1 f2 f3 f4 f5 A2 ha2 hb2 hq2
    have HNa2 := Hid.mk' Na2
    have HNb2 := Hid.mk' Nb2
    clear Na2 Nb2 Na Nb
    go_wp2_with fail
    refine (CW.out _ HGw.out).mono ?_
    rintro en w3 ⟨rfl, g3⟩
    have Na3 := (g3.turn []).other HNa2.out (by simp)
    have Nb3 := (g3.turn []).other HNb2.out (by simp)
    have Nq3 := (g3.turn []).other HBl.out (by simp)
    have s5 := cell_grew s5 g3
    have s6 := cell_grew s6 g3
    have HG3 := Hid.mk' (HGw.out.trans g3)
    have b0 := cell_of Nb3 0; have b1 := cell_of Nb3 1; have b2 := cell_of Nb3 2
    have f3 := free_of Nb3 0; have f4 := free_of Nb3 1; have f5 := free_of Nb3 2
    simp at b0 b1 b2
    have ha3 := lt_of_obj Na3
    have hb3 := lt_of_obj Nb3
    have hq3 := lt_of_obj Nq3
    have hS3 := lt_of_cell s5
    have y0 := cell_of Nq3 0; have y1 := cell_of Nq3 1; have y2 := cell_of Nq3 2; have y3 := cell_of Nq3 3
    simp at y0 y1 y2 y3
    clear g3 CW
    have hSb : S ≠ w.heap.size + 1 := fun e => by have := HLS.out; omega
    have hbS : w.heap.size + 1 ≠ S := Ne.symm hSb
    have hqb : q ≠ w.heap.size + 1 := HQB.out.1
    have hbq : w.heap.size + 1 ≠ q := Ne.symm hqb
    go_wp2_with fail
    have Nb4 : (((w3.setCell ⟨w.heap.size + 1, 0, none⟩ (.int .i64 vn)).setCell ⟨w.heap.size + 1, 1, none⟩ (.bool false)).setCell ⟨w.heap.size + 1, 2, none⟩ (.int .i64 0)).heap[w.heap.size + 1]? = some (.cells #[.int .i64 vn, .bool false, .int .i64 0] 39 (0, 0)) := heap_set (heap_set (heap_set Nb3 0 _) 1 _) 2 _
    have Na4 : (((w3.setCell ⟨w.heap.size + 1, 0, none⟩ (.int .i64 vn)).setCell ⟨w.heap.size + 1, 1, none⟩ (.bool false)).setCell ⟨w.heap.size + 1, 2, none⟩ (.int .i64 0)).heap[w.heap.size]? = some (.cells #[.int .i64 0, .bool false, .int .i64 0] 39 (0, 0)) := heap_other (heap_other (heap_other Na3 (by simp) _) (by simp) _) (by simp) _
    have Nq4 : (((w3.setCell ⟨w.heap.size + 1, 0, none⟩ (.int .i64 vn)).setCell ⟨w.heap.size + 1, 1, none⟩ (.bool false)).setCell ⟨w.heap.size + 1, 2, none⟩ (.int .i64 0)).heap[q]? = some (.cells #[.bool p.wide, .int .u64 p.mn, .int .u64 p.mx, .bool p.hm] 81 (0, 0)) := heap_other (heap_other (heap_other Nq3 (by simpa using hqb) _) (by simpa using hqb) _) (by simpa using hqb) _
    have G4 : Hid (Grew w (((w3.setCell ⟨w.heap.size + 1, 0, none⟩ (.int .i64 vn)).setCell ⟨w.heap.size + 1, 1, none⟩ (.bool false)).setCell ⟨w.heap.size + 1, 2, none⟩ (.int .i64 0))) := ((HG3.out.set (p := ⟨w.heap.size + 1, 0, none⟩) (Nat.le_succ _) _).set (p := ⟨w.heap.size + 1, 1, none⟩) (Nat.le_succ _) _).set (p := ⟨w.heap.size + 1, 2, none⟩) (Nat.le_succ _) _
    clear Na3 Nb3 Nq3 HG3 HG2 HGw b0 b1 b2 f3 f4 f5 y0 y1 y2 y3 s5 s6 ha3 hb3 hq3 hS3 hSb hbS hqb hbq HNa2 HNb2 HBl hS2
    generalize (((w3.setCell ⟨w.heap.size + 1, 0, none⟩ (.int .i64 vn)).setCell ⟨w.heap.size + 1, 1, none⟩ (.bool false)).setCell ⟨w.heap.size + 1, 2, none⟩ (.int .i64 0)) = w4 at *
    have A4 := HAA.out.grew G4.out
    have s6 := A4.cell COF.out
    have hS4 := lt_of_obj A4.N
    have ha4 := lt_of_obj Na4
    have hb4 := lt_of_obj Nb4
    have hq4 := lt_of_obj Nq4
    have a0 := cell_of Na4 0; have a1 := cell_of Na4 1; have a2 := cell_of Na4 2
    have b0 := cell_of Nb4 0; have b1 := cell_of Nb4 1; have b2 := cell_of Nb4 2
    have y0 := cell_of Nq4 0; have y1 := cell_of Nq4 1; have y2 := cell_of Nq4 2; have y3 := cell_of Nq4 3
    simp at a0 a1 a2 b0 b1 b2 y0 y1 y2 y3
    have f0 := free_of Na4 0; have f1 := free_of Na4 1; have f2 := free_of Na4 2
    have f3 := free_of Nb4 0; have f4 := free_of Nb4 1; have f5 := free_of Nb4 2
    have E0 := set_same (o := 0) (v := .int .i64 0) Na4 rfl
    have E1 := set_same (o := 1) (v := .bool false) Na4 rfl
    have E2 := set_same (o := 2) (v := .int .i64 0) Na4 rfl
    have F0 := set_same (o := 0) (v := .int .i64 vn) Nb4 rfl
    have F1 := set_same (o := 1) (v := .bool false) Nb4 rfl
    have F2 := set_same (o := 2) (v := .int .i64 0) Nb4 rfl
    have HNa4 := Hid.mk' Na4
    have HNb4 := Hid.mk' Nb4
    have HNq4 := Hid.mk' Nq4
    clear A4 Na4 Nb4 Nq4
    simp only [HSH.out]
    rw [HWD.out] at y0
    go_simp
    go_wp2_with fail
    go_region
    all_goals
      go_wp2_with fail
      refine bodyPost_ret (v := .tuple #[.agg #[.int .i64 0, .bool false, .int .i64 0], .agg #[.int .i64 vn, .bool false, .int .i64 0], .int .i64 141]) (by simp [results, Tryz.results153, go_sem, a0, a1, a2, b0, b1, b2]) rfl ⟨rfl, (by repeat (first | with_reducible exact G4.out | refine .alloc ?_ _ | refine .drewN ?_ _ | refine .drew ?_))⟩
theorem access_wide (A : StA gv L W0 w C lv fv ov g c lo fr ops fs x S es) {n : Nat} (h32 : n < 4294967296) (hx : es[15]? = some (.int .u32 (n : Int))) {mv : Value} {M : List LMt} (hm : es[3]? = some mv) (hM : LLm w mv M) {p : LMt} (hp : M[n]? = some p) {op vn vb : Int} {vs : Bool} (ho : es[10]? = some (.int .i64 op)) (h40 : 40 ≤ op) (h62 : op ≤ 62) (hr : accL[(op - 40).toNat]? = some (vn, vb, vs)) (hT : TabA w) {al off : Int} (hal : es[14]? = some (.int .u32 al)) (hof : es[16]? = some (.int .u64 off)) (hal0 : 0 ≤ al) (hz : ¬ IntKind.u64.wrap vb / 2 ^ min al.toNat 64 = 0) (hwd : p.wide = true) :
    Calls Tryz.prog 153 #[.pointer (some ⟨S, 0, none⟩)] w fun en w' => en = .returned (.tuple #[.agg #[.int .i64 (if p.wide then 2 else 1), .bool false, .int .i64 0], .agg #[.int .i64 vn, .bool false, .int .i64 0], .int .i64 0]) ∧ Grew w w' := by
  have CAt : Hid (∀ X, Grew w X → Calls Tryz.prog 154 #[mv, .int .u32 (n : Int)] X fun en w' => en = .returned (.tuple #[.agg #[.bool p.wide, .int .u64 p.mn, .int .u64 p.mx, .bool p.hm], .int .i64 0]) ∧ Grew X w') := fun X k => atLM_in (hM.grew k) hp h32
  have CW : Hid (∀ X, Grew w X → Calls Tryz.prog 192 #[.int .i64 op] X fun en w' => en = .returned (.tuple #[.agg #[.int .i64 vn, .bool false, .int .i64 0], .int .i64 vb, .bool (decide (54 ≤ op)), .bool vs, .int .i64 0]) ∧ Grew X w') := fun X k => width_yes op h40 h62 vn vb vs hr X (hT.grew k)
  have CO := Hid.mk' ho
  have CAL := Hid.mk' hal
  have COF := Hid.mk' hof
  clear hr hT h40 h62 hal hof ho
  obtain ⟨R, hR⟩ : ∃ R, R = IntKind.u64.wrap vb / 2 ^ min al.toNat 64 := ⟨_, rfl⟩
  have HSH : Hid (Op.shift .shr .u64 (IntKind.u64.wrap vb) .u32 al = pure (.int .u64 R)) := by
    show Op.shift .shr .u64 (IntKind.u64.wrap vb) .u32 al = pure (.int .u64 R)
    rw [shift_shr_any _ _ _ _ hal0, hR]
    rfl
  rw [← hR] at hz
  clear hal0 hR
  have dz : (R == 0) = false := by simpa using hz
  obtain ⟨AT, hAT⟩ : ∃ AT : Int, AT = if p.wide then 2 else 1 := ⟨_, rfl⟩
  have CAd : Hid (∀ X, Calls Tryz.prog 27 #[.agg #[.bool p.wide, .int .u64 p.mn, .int .u64 p.mx, .bool p.hm]] X fun en w' => en = .returned (.agg #[.int .i64 AT, .bool false, .int .i64 0]) ∧ Grew X w') := fun X => by rw [hAT]; exact addr_any p.wide p.mn p.mx p.hm X
  rw [← hAT]
  clear hAT
  have HWD := Hid.mk' hwd
  clear hwd
  have s0 := A.cell hm
  have s1 := A.cell hx
  have HAA := Hid.mk' A
  obtain ⟨ma, mc, hmv, _⟩ := hM.one
  subst hmv
  clear A hx hm hM hp h32
  go_enter Tryz.func153, Tryz.ntmps153
  go_wp2_with fail
  obtain ⟨wz, hwz⟩ : ∃ wz, wz = (w.alloc (.cells #[.int .i64 0, .bool false, .int .i64 0] 39)).alloc (.cells #[.int .i64 0, .bool false, .int .i64 0] 39) := ⟨_, rfl⟩
  have Gz : Hid (Grew w wz) := by rw [hwz]; exact ((Grew.refl w).alloc _).alloc _
  have Na : Hid (wz.heap[w.heap.size]? = some (.cells #[.int .i64 0, .bool false, .int .i64 0] 39 (0, 0))) := by rw [hwz]; exact heap_alloc (heap_alloc_last _ _) _
  have Nb : Hid (wz.heap[w.heap.size + 1]? = some (.cells #[.int .i64 0, .bool false, .int .i64 0] 39 (0, 0))) := by
    rw [hwz]
    have := heap_alloc_last (w.alloc (.cells #[.int .i64 0, .bool false, .int .i64 0] 39)) (.cells #[.int .i64 0, .bool false, .int .i64 0] 39)
    rw [alloc_size] at this
    exact this
  have HLS : Hid (S < w.heap.size) := lt_of_obj HAA.out.N
  have HZ2 : Hid (wz.heap.size = w.heap.size + 2) := by rw [hwz]; simp [Hid]
  rw [← hwz]
  clear hwz
  have s0 := cell_grew s0 Gz.out
  have s1 := cell_grew s1 Gz.out
  have hS := lt_of_cell s1
  have hne1 : S ≠ wz.heap.size := Nat.ne_of_lt hS
  have hne2 : wz.heap.size ≠ S := Nat.ne_of_gt hS
  replace CAt := Hid.mk' (fun X k => CAt.out X (Gz.out.trans k))
  go_region_held3 (fun w' => w'.cell? ⟨S, 3, none⟩ = some (.slice ma M.length mc) ∧ w'.cell? ⟨S, 15, none⟩ = some (.int .u32 (n : Int))) (go_keep) (first
    | (with_reducible refine (CAt.out _ ?gr).mono ?_
       case gr => exact (by repeat (first | with_reducible exact .refl _ | refine .alloc ?_ _ | refine .drewN ?_ _ | refine .drew ?_))
       rintro en w1 ⟨rfl, g1⟩
       have gg1 : Grew wz w1 := Grew.trans (by repeat (first | with_reducible exact .refl _ | refine .alloc ?_ _ | refine .drewN ?_ _ | refine .drew ?_)) g1
       have G1 := Hid.mk' gg1
       have s10 := cell_grew s0 gg1
       have s11 := cell_grew s1 gg1
       first
       | (have gz : Grew (wz.alloc (.cells #[.bool false, .int .u64 0, .int .u64 0, .bool false] 81)) w1 := (by first | exact g1 | exact ((Grew.refl _).drew).trans g1 | exact ((Grew.refl _).drewN _).trans g1)
          have Bz := (gz.turn []).other (heap_alloc_last wz (.cells #[.bool false, .int .u64 0, .int .u64 0, .bool false] 81)) (by simp)
          have HBz := Hid.mk' Bz
          have hlz := lt_of_obj Bz
          have y0 := cell_of Bz 0; have r0 := free_of Bz 0; have y1 := cell_of Bz 1; have r1 := free_of Bz 1; have y2 := cell_of Bz 2; have r2 := free_of Bz 2; have y3 := cell_of Bz 3; have r3 := free_of Bz 3
          simp at y0 y1 y2 y3
          clear gz Bz)
       | skip
       clear g1 gg1)
    | fail)
  all_goals
    clear s10 s11 s0 s1 CAt
    have AW := HAA.out.grew (Gz.out.trans G1.out)
    have s4 := AW.cell CO.out
    have hS1 := lt_of_obj AW.N
    clear AW
    go_wp2_with fail
    clear s4 hS1
    first
    | (have hh0 := hlz
       have B2 : ((((w1.setCell ⟨wz.heap.size, 0, none⟩ (.bool p.wide)).setCell ⟨wz.heap.size, 1, none⟩ (.int .u64 p.mn)).setCell ⟨wz.heap.size, 2, none⟩ (.int .u64 p.mx)).setCell ⟨wz.heap.size, 3, none⟩ (.bool p.hm)).heap[wz.heap.size]? = some (.cells #[.bool p.wide, .int .u64 p.mn, .int .u64 p.mx, .bool p.hm] 81 (0, 0)) := (heap_set (heap_set (heap_set (heap_set HBz.out 0 (.bool p.wide)) 1 (.int .u64 p.mn)) 2 (.int .u64 p.mx)) 3 (.bool p.hm))
       have gg2 : Grew wz ((((w1.setCell ⟨wz.heap.size, 0, none⟩ (.bool p.wide)).setCell ⟨wz.heap.size, 1, none⟩ (.int .u64 p.mn)).setCell ⟨wz.heap.size, 2, none⟩ (.int .u64 p.mx)).setCell ⟨wz.heap.size, 3, none⟩ (.bool p.hm)) := ((((G1.out.set (p := ⟨wz.heap.size, 0, none⟩) (Nat.le_refl _) (.bool p.wide)).set (p := ⟨wz.heap.size, 1, none⟩) (Nat.le_refl _) (.int .u64 p.mn)).set (p := ⟨wz.heap.size, 2, none⟩) (Nat.le_refl _) (.int .u64 p.mx)).set (p := ⟨wz.heap.size, 3, none⟩) (Nat.le_refl _) (.bool p.hm))
       have HB2 := Hid.mk' B2
       have HG2 := Hid.mk' gg2
       clear hh0 hlz y0 r0 y1 r1 y2 r2 y3 r3 HBz B2 gg2 hne1 hne2 hS
       generalize ((((w1.setCell ⟨wz.heap.size, 0, none⟩ (.bool p.wide)).setCell ⟨wz.heap.size, 1, none⟩ (.int .u64 p.mn)).setCell ⟨wz.heap.size, 2, none⟩ (.int .u64 p.mx)).setCell ⟨wz.heap.size, 3, none⟩ (.bool p.hm)) = w2 at *
       obtain ⟨q, hqq⟩ : ∃ q, q = wz.heap.size := ⟨_, rfl⟩
       have HQB : Hid (q ≠ w.heap.size + 1 ∧ q ≠ w.heap.size) := ⟨by rw [hqq, HZ2.out]; omega, by rw [hqq, HZ2.out]; omega⟩
       rw [← hqq] at HB2
       simp only [← hqq]
       clear hqq)
    | (have B2 : (w1.alloc (.cells #[.bool p.wide, .int .u64 p.mn, .int .u64 p.mx, .bool p.hm] 81)).heap[w1.heap.size]? = some (.cells #[.bool p.wide, .int .u64 p.mn, .int .u64 p.mx, .bool p.hm] 81 (0, 0)) := heap_alloc_last _ _
       have gg2 : Grew wz (w1.alloc (.cells #[.bool p.wide, .int .u64 p.mn, .int .u64 p.mx, .bool p.hm] 81)) := G1.out.alloc _
       have HB2 := Hid.mk' B2
       have HG2 := Hid.mk' gg2
       clear B2 gg2 hne1 hne2 hS
       generalize w1.alloc (.cells #[.bool p.wide, .int .u64 p.mn, .int .u64 p.mx, .bool p.hm] 81) = w2 at *
       obtain ⟨q, hqq⟩ : ∃ q, q = w1.heap.size := ⟨_, rfl⟩
       have HQB : Hid (q ≠ w.heap.size + 1 ∧ q ≠ w.heap.size) := by have h1 := G1.out.2; rw [HZ2.out] at h1; exact ⟨by rw [hqq]; omega, by rw [hqq]; omega⟩
       rw [← hqq] at HB2
       simp only [← hqq]
       clear hqq)
    have HGw := Hid.mk' (Gz.out.trans HG2.out)
    have A2 := HAA.out.grew HGw.out
    have HN2 := Hid.mk' A2.N
    have hS2 := lt_of_obj A2.N
    have hq2 := lt_of_obj HB2.out
    have Na2 := (HG2.out.turn []).other Na.out (by simp)
    have Nb2 := (HG2.out.turn []).other Nb.out (by simp)
    have ha2 := lt_of_obj Na2
    have hb2 := lt_of_obj Nb2
    have a0 := cell_of Na2 0; have a1 := cell_of Na2 1; have a2 := cell_of Na2 2
    have b0 := cell_of Nb2 0; have b1 := cell_of Nb2 1; have b2 := cell_of Nb2 2
    have y0 := cell_of HB2.out 0; have y1 := cell_of HB2.out 1; have y2 := cell_of HB2.out 2; have y3 := cell_of HB2.out 3
    simp at a0 a1 a2 b0 b1 b2 y0 y1 y2 y3
    have f0 := free_of Na2 0; have f1 := free_of Na2 1; have f2 := free_of Na2 2
    have f3 := free_of Nb2 0; have f4 := free_of Nb2 1; have f5 := free_of Nb2 2
    have s5 := A2.cell CAL.out
    have s6 := A2.cell COF.out
    have HBl := Hid.mk' HB2.out
    clear a0 a1 a2 b0 b1 b2 y0 y1 y2 y3 f0 f1 f2 f3 f4 f5 A2 ha2 hb2 hq2
    have HNa2 := Hid.mk' Na2
    have HNb2 := Hid.mk' Nb2
    clear Na2 Nb2 Na Nb
    go_wp2_with fail
    refine (CW.out _ HGw.out).mono ?_
    rintro en w3 ⟨rfl, g3⟩
    have Na3 := (g3.turn []).other HNa2.out (by simp)
    have Nb3 := (g3.turn []).other HNb2.out (by simp)
    have Nq3 := (g3.turn []).other HBl.out (by simp)
    have s5 := cell_grew s5 g3
    have s6 := cell_grew s6 g3
    have HG3 := Hid.mk' (HGw.out.trans g3)
    have b0 := cell_of Nb3 0; have b1 := cell_of Nb3 1; have b2 := cell_of Nb3 2
    have f3 := free_of Nb3 0; have f4 := free_of Nb3 1; have f5 := free_of Nb3 2
    simp at b0 b1 b2
    have ha3 := lt_of_obj Na3
    have hb3 := lt_of_obj Nb3
    have hq3 := lt_of_obj Nq3
    have hS3 := lt_of_cell s5
    have y0 := cell_of Nq3 0; have y1 := cell_of Nq3 1; have y2 := cell_of Nq3 2; have y3 := cell_of Nq3 3
    simp at y0 y1 y2 y3
    clear g3 CW
    have hSb : S ≠ w.heap.size + 1 := fun e => by have := HLS.out; omega
    have hbS : w.heap.size + 1 ≠ S := Ne.symm hSb
    have hqb : q ≠ w.heap.size + 1 := HQB.out.1
    have hbq : w.heap.size + 1 ≠ q := Ne.symm hqb
    go_wp2_with fail
    have Nb4 : (((w3.setCell ⟨w.heap.size + 1, 0, none⟩ (.int .i64 vn)).setCell ⟨w.heap.size + 1, 1, none⟩ (.bool false)).setCell ⟨w.heap.size + 1, 2, none⟩ (.int .i64 0)).heap[w.heap.size + 1]? = some (.cells #[.int .i64 vn, .bool false, .int .i64 0] 39 (0, 0)) := heap_set (heap_set (heap_set Nb3 0 _) 1 _) 2 _
    have Na4 : (((w3.setCell ⟨w.heap.size + 1, 0, none⟩ (.int .i64 vn)).setCell ⟨w.heap.size + 1, 1, none⟩ (.bool false)).setCell ⟨w.heap.size + 1, 2, none⟩ (.int .i64 0)).heap[w.heap.size]? = some (.cells #[.int .i64 0, .bool false, .int .i64 0] 39 (0, 0)) := heap_other (heap_other (heap_other Na3 (by simp) _) (by simp) _) (by simp) _
    have Nq4 : (((w3.setCell ⟨w.heap.size + 1, 0, none⟩ (.int .i64 vn)).setCell ⟨w.heap.size + 1, 1, none⟩ (.bool false)).setCell ⟨w.heap.size + 1, 2, none⟩ (.int .i64 0)).heap[q]? = some (.cells #[.bool p.wide, .int .u64 p.mn, .int .u64 p.mx, .bool p.hm] 81 (0, 0)) := heap_other (heap_other (heap_other Nq3 (by simpa using hqb) _) (by simpa using hqb) _) (by simpa using hqb) _
    have G4 : Hid (Grew w (((w3.setCell ⟨w.heap.size + 1, 0, none⟩ (.int .i64 vn)).setCell ⟨w.heap.size + 1, 1, none⟩ (.bool false)).setCell ⟨w.heap.size + 1, 2, none⟩ (.int .i64 0))) := ((HG3.out.set (p := ⟨w.heap.size + 1, 0, none⟩) (Nat.le_succ _) _).set (p := ⟨w.heap.size + 1, 1, none⟩) (Nat.le_succ _) _).set (p := ⟨w.heap.size + 1, 2, none⟩) (Nat.le_succ _) _
    clear Na3 Nb3 Nq3 HG3 HG2 HGw b0 b1 b2 f3 f4 f5 y0 y1 y2 y3 s5 s6 ha3 hb3 hq3 hS3 hSb hbS hqb hbq HNa2 HNb2 HBl hS2
    generalize (((w3.setCell ⟨w.heap.size + 1, 0, none⟩ (.int .i64 vn)).setCell ⟨w.heap.size + 1, 1, none⟩ (.bool false)).setCell ⟨w.heap.size + 1, 2, none⟩ (.int .i64 0)) = w4 at *
    have A4 := HAA.out.grew G4.out
    have s6 := A4.cell COF.out
    have hS4 := lt_of_obj A4.N
    have ha4 := lt_of_obj Na4
    have hb4 := lt_of_obj Nb4
    have hq4 := lt_of_obj Nq4
    have a0 := cell_of Na4 0; have a1 := cell_of Na4 1; have a2 := cell_of Na4 2
    have b0 := cell_of Nb4 0; have b1 := cell_of Nb4 1; have b2 := cell_of Nb4 2
    have y0 := cell_of Nq4 0; have y1 := cell_of Nq4 1; have y2 := cell_of Nq4 2; have y3 := cell_of Nq4 3
    simp at a0 a1 a2 b0 b1 b2 y0 y1 y2 y3
    have f0 := free_of Na4 0; have f1 := free_of Na4 1; have f2 := free_of Na4 2
    have f3 := free_of Nb4 0; have f4 := free_of Nb4 1; have f5 := free_of Nb4 2
    have E0 := set_same (o := 0) (v := .int .i64 0) Na4 rfl
    have E1 := set_same (o := 1) (v := .bool false) Na4 rfl
    have E2 := set_same (o := 2) (v := .int .i64 0) Na4 rfl
    have F0 := set_same (o := 0) (v := .int .i64 vn) Nb4 rfl
    have F1 := set_same (o := 1) (v := .bool false) Nb4 rfl
    have F2 := set_same (o := 2) (v := .int .i64 0) Nb4 rfl
    have HNa4 := Hid.mk' Na4
    have HNb4 := Hid.mk' Nb4
    have HNq4 := Hid.mk' Nq4
    clear A4 Na4 Nb4 Nq4
    simp only [HSH.out]
    have HAT := Hid.mk' (rfl : AT = AT)
    rw [HWD.out] at y0 CAd
    go_simp
    go_wp2_with fail
    clear E0 E1 E2 F0 F1 F2
    have hqa := HQB.out.2
    have haq := Ne.symm hqa
    have hqb := HQB.out.1
    have hbq := Ne.symm hqb
    go_region_held3 (fun w' => w'.cell? ⟨q, 0, none⟩ = some (.bool true) ∧ w'.cell? ⟨q, 1, none⟩ = some (.int .u64 p.mn) ∧ w'.cell? ⟨q, 2, none⟩ = some (.int .u64 p.mx) ∧ w'.cell? ⟨q, 3, none⟩ = some (.bool p.hm) ∧ w'.cell? ⟨w.heap.size + 1, 0, none⟩ = some (.int .i64 vn) ∧ w'.cell? ⟨w.heap.size + 1, 1, none⟩ = some (.bool false) ∧ w'.cell? ⟨w.heap.size + 1, 2, none⟩ = some (.int .i64 0)) (go_keep) (first
      | (with_reducible refine (CAd.out _).mono ?_
         rintro en wa ⟨rfl, ga⟩
         have gg : Grew w4 wa := Grew.trans (by repeat (first | with_reducible exact .refl _ | refine .alloc ?_ _ | refine .drewN ?_ _ | refine .drew ?_)) ga
         have GA := Hid.mk' (G4.out.trans gg)
         have Nax := (gg.turn []).other HNa4.out (by simp)
         have Nbx := (gg.turn []).other HNb4.out (by simp)
         have k0 := cell_of Nax 0; have k1 := cell_of Nax 1; have k2 := cell_of Nax 2
         simp at k0 k1 k2
         have l0 := free_of Nax 0; have l1 := free_of Nax 1; have l2 := free_of Nax 2
         have l3 := free_of Nbx 0; have l4 := free_of Nbx 1; have l5 := free_of Nbx 2
         have hax := lt_of_obj Nax
         have hbx := lt_of_obj Nbx
         have t0 := cell_grew y0 gg; have t1 := cell_grew y1 gg; have t2 := cell_grew y2 gg; have t3 := cell_grew y3 gg
         have u0 := cell_grew b0 gg; have u1 := cell_grew b1 gg; have u2 := cell_grew b2 gg
         have NbW : (((wa.setCell ⟨w.heap.size, 0, none⟩ (.int .i64 AT)).setCell ⟨w.heap.size, 1, none⟩ (.bool false)).setCell ⟨w.heap.size, 2, none⟩ (.int .i64 0)).heap[w.heap.size + 1]? = some (.cells #[.int .i64 vn, .bool false, .int .i64 0] 39 (0, 0)) := heap_other (heap_other (heap_other Nbx (by simp) _) (by simp) _) (by simp) _
         have Fb0 := set_same (o := 0) (v := .int .i64 vn) NbW rfl
         have Fb1 := set_same (o := 1) (v := .bool false) NbW rfl
         have Fb2 := set_same (o := 2) (v := .int .i64 0) NbW rfl
         clear ga gg Nax Nbx NbW)
      | fail)
    all_goals
      go_wp2_with fail
      first
      | refine bodyPost_ret (v := .tuple #[.agg #[.int .i64 AT, .bool false, .int .i64 0], .agg #[.int .i64 vn, .bool false, .int .i64 0], .int .i64 0]) (by simp [results, Tryz.results153, go_sem, k0, k1, k2, u0, u1, u2, hax, hbx]) rfl ?_
      | trace_state
      exact ⟨rfl, (by repeat (first | with_reducible exact GA.out | refine .set ?_ (Nat.le_refl _) _ | refine .set ?_ (Nat.le_succ _) _ | refine .alloc ?_ _ | refine .drewN ?_ _ | refine .drew ?_))⟩
theorem access_narrow (A : StA gv L W0 w C lv fv ov g c lo fr ops fs x S es) {n : Nat} (h32 : n < 4294967296) (hx : es[15]? = some (.int .u32 (n : Int))) {mv : Value} {M : List LMt} (hm : es[3]? = some mv) (hM : LLm w mv M) {p : LMt} (hp : M[n]? = some p) {op vn vb : Int} {vs : Bool} (ho : es[10]? = some (.int .i64 op)) (h40 : 40 ≤ op) (h62 : op ≤ 62) (hr : accL[(op - 40).toNat]? = some (vn, vb, vs)) (hT : TabA w) {al off : Int} (hal : es[14]? = some (.int .u32 al)) (hof : es[16]? = some (.int .u64 off)) (hal0 : 0 ≤ al) (hz : ¬ IntKind.u64.wrap vb / 2 ^ min al.toNat 64 = 0) (hwd : p.wide = false) (hof2 : off ≤ 4294967295) :
    Calls Tryz.prog 153 #[.pointer (some ⟨S, 0, none⟩)] w fun en w' => en = .returned (.tuple #[.agg #[.int .i64 (if p.wide then 2 else 1), .bool false, .int .i64 0], .agg #[.int .i64 vn, .bool false, .int .i64 0], .int .i64 0]) ∧ Grew w w' := by
  have CAt : Hid (∀ X, Grew w X → Calls Tryz.prog 154 #[mv, .int .u32 (n : Int)] X fun en w' => en = .returned (.tuple #[.agg #[.bool p.wide, .int .u64 p.mn, .int .u64 p.mx, .bool p.hm], .int .i64 0]) ∧ Grew X w') := fun X k => atLM_in (hM.grew k) hp h32
  have CW : Hid (∀ X, Grew w X → Calls Tryz.prog 192 #[.int .i64 op] X fun en w' => en = .returned (.tuple #[.agg #[.int .i64 vn, .bool false, .int .i64 0], .int .i64 vb, .bool (decide (54 ≤ op)), .bool vs, .int .i64 0]) ∧ Grew X w') := fun X k => width_yes op h40 h62 vn vb vs hr X (hT.grew k)
  have CO := Hid.mk' ho
  have CAL := Hid.mk' hal
  have COF := Hid.mk' hof
  clear hr hT h40 h62 hal hof ho
  obtain ⟨R, hR⟩ : ∃ R, R = IntKind.u64.wrap vb / 2 ^ min al.toNat 64 := ⟨_, rfl⟩
  have HSH : Hid (Op.shift .shr .u64 (IntKind.u64.wrap vb) .u32 al = pure (.int .u64 R)) := by
    show Op.shift .shr .u64 (IntKind.u64.wrap vb) .u32 al = pure (.int .u64 R)
    rw [shift_shr_any _ _ _ _ hal0, hR]
    rfl
  rw [← hR] at hz
  clear hal0 hR
  have dz : (R == 0) = false := by simpa using hz
  obtain ⟨AT, hAT⟩ : ∃ AT : Int, AT = if p.wide then 2 else 1 := ⟨_, rfl⟩
  have CAd : Hid (∀ X, Calls Tryz.prog 27 #[.agg #[.bool p.wide, .int .u64 p.mn, .int .u64 p.mx, .bool p.hm]] X fun en w' => en = .returned (.agg #[.int .i64 AT, .bool false, .int .i64 0]) ∧ Grew X w') := fun X => by rw [hAT]; exact addr_any p.wide p.mn p.mx p.hm X
  rw [← hAT]
  clear hAT
  have d1 : decide (4294967295 < off) = false := by simp; omega
  have HWD := Hid.mk' hwd
  clear hwd
  have s0 := A.cell hm
  have s1 := A.cell hx
  have HAA := Hid.mk' A
  obtain ⟨ma, mc, hmv, _⟩ := hM.one
  subst hmv
  clear A hx hm hM hp h32
  go_enter Tryz.func153, Tryz.ntmps153
  go_wp2_with fail
  obtain ⟨wz, hwz⟩ : ∃ wz, wz = (w.alloc (.cells #[.int .i64 0, .bool false, .int .i64 0] 39)).alloc (.cells #[.int .i64 0, .bool false, .int .i64 0] 39) := ⟨_, rfl⟩
  have Gz : Hid (Grew w wz) := by rw [hwz]; exact ((Grew.refl w).alloc _).alloc _
  have Na : Hid (wz.heap[w.heap.size]? = some (.cells #[.int .i64 0, .bool false, .int .i64 0] 39 (0, 0))) := by rw [hwz]; exact heap_alloc (heap_alloc_last _ _) _
  have Nb : Hid (wz.heap[w.heap.size + 1]? = some (.cells #[.int .i64 0, .bool false, .int .i64 0] 39 (0, 0))) := by
    rw [hwz]
    have := heap_alloc_last (w.alloc (.cells #[.int .i64 0, .bool false, .int .i64 0] 39)) (.cells #[.int .i64 0, .bool false, .int .i64 0] 39)
    rw [alloc_size] at this
    exact this
  have HLS : Hid (S < w.heap.size) := lt_of_obj HAA.out.N
  have HZ2 : Hid (wz.heap.size = w.heap.size + 2) := by rw [hwz]; simp [Hid]
  rw [← hwz]
  clear hwz
  have s0 := cell_grew s0 Gz.out
  have s1 := cell_grew s1 Gz.out
  have hS := lt_of_cell s1
  have hne1 : S ≠ wz.heap.size := Nat.ne_of_lt hS
  have hne2 : wz.heap.size ≠ S := Nat.ne_of_gt hS
  replace CAt := Hid.mk' (fun X k => CAt.out X (Gz.out.trans k))
  go_region_held3 (fun w' => w'.cell? ⟨S, 3, none⟩ = some (.slice ma M.length mc) ∧ w'.cell? ⟨S, 15, none⟩ = some (.int .u32 (n : Int))) (go_keep) (first
    | (with_reducible refine (CAt.out _ ?gr).mono ?_
       case gr => exact (by repeat (first | with_reducible exact .refl _ | refine .alloc ?_ _ | refine .drewN ?_ _ | refine .drew ?_))
       rintro en w1 ⟨rfl, g1⟩
       have gg1 : Grew wz w1 := Grew.trans (by repeat (first | with_reducible exact .refl _ | refine .alloc ?_ _ | refine .drewN ?_ _ | refine .drew ?_)) g1
       have G1 := Hid.mk' gg1
       have s10 := cell_grew s0 gg1
       have s11 := cell_grew s1 gg1
       first
       | (have gz : Grew (wz.alloc (.cells #[.bool false, .int .u64 0, .int .u64 0, .bool false] 81)) w1 := (by first | exact g1 | exact ((Grew.refl _).drew).trans g1 | exact ((Grew.refl _).drewN _).trans g1)
          have Bz := (gz.turn []).other (heap_alloc_last wz (.cells #[.bool false, .int .u64 0, .int .u64 0, .bool false] 81)) (by simp)
          have HBz := Hid.mk' Bz
          have hlz := lt_of_obj Bz
          have y0 := cell_of Bz 0; have r0 := free_of Bz 0; have y1 := cell_of Bz 1; have r1 := free_of Bz 1; have y2 := cell_of Bz 2; have r2 := free_of Bz 2; have y3 := cell_of Bz 3; have r3 := free_of Bz 3
          simp at y0 y1 y2 y3
          clear gz Bz)
       | skip
       clear g1 gg1)
    | fail)
  all_goals
    clear s10 s11 s0 s1 CAt
    have AW := HAA.out.grew (Gz.out.trans G1.out)
    have s4 := AW.cell CO.out
    have hS1 := lt_of_obj AW.N
    clear AW
    go_wp2_with fail
    clear s4 hS1
    first
    | (have hh0 := hlz
       have B2 : ((((w1.setCell ⟨wz.heap.size, 0, none⟩ (.bool p.wide)).setCell ⟨wz.heap.size, 1, none⟩ (.int .u64 p.mn)).setCell ⟨wz.heap.size, 2, none⟩ (.int .u64 p.mx)).setCell ⟨wz.heap.size, 3, none⟩ (.bool p.hm)).heap[wz.heap.size]? = some (.cells #[.bool p.wide, .int .u64 p.mn, .int .u64 p.mx, .bool p.hm] 81 (0, 0)) := (heap_set (heap_set (heap_set (heap_set HBz.out 0 (.bool p.wide)) 1 (.int .u64 p.mn)) 2 (.int .u64 p.mx)) 3 (.bool p.hm))
       have gg2 : Grew wz ((((w1.setCell ⟨wz.heap.size, 0, none⟩ (.bool p.wide)).setCell ⟨wz.heap.size, 1, none⟩ (.int .u64 p.mn)).setCell ⟨wz.heap.size, 2, none⟩ (.int .u64 p.mx)).setCell ⟨wz.heap.size, 3, none⟩ (.bool p.hm)) := ((((G1.out.set (p := ⟨wz.heap.size, 0, none⟩) (Nat.le_refl _) (.bool p.wide)).set (p := ⟨wz.heap.size, 1, none⟩) (Nat.le_refl _) (.int .u64 p.mn)).set (p := ⟨wz.heap.size, 2, none⟩) (Nat.le_refl _) (.int .u64 p.mx)).set (p := ⟨wz.heap.size, 3, none⟩) (Nat.le_refl _) (.bool p.hm))
       have HB2 := Hid.mk' B2
       have HG2 := Hid.mk' gg2
       clear hh0 hlz y0 r0 y1 r1 y2 r2 y3 r3 HBz B2 gg2 hne1 hne2 hS
       generalize ((((w1.setCell ⟨wz.heap.size, 0, none⟩ (.bool p.wide)).setCell ⟨wz.heap.size, 1, none⟩ (.int .u64 p.mn)).setCell ⟨wz.heap.size, 2, none⟩ (.int .u64 p.mx)).setCell ⟨wz.heap.size, 3, none⟩ (.bool p.hm)) = w2 at *
       obtain ⟨q, hqq⟩ : ∃ q, q = wz.heap.size := ⟨_, rfl⟩
       have HQB : Hid (q ≠ w.heap.size + 1 ∧ q ≠ w.heap.size) := ⟨by rw [hqq, HZ2.out]; omega, by rw [hqq, HZ2.out]; omega⟩
       rw [← hqq] at HB2
       simp only [← hqq]
       clear hqq)
    | (have B2 : (w1.alloc (.cells #[.bool p.wide, .int .u64 p.mn, .int .u64 p.mx, .bool p.hm] 81)).heap[w1.heap.size]? = some (.cells #[.bool p.wide, .int .u64 p.mn, .int .u64 p.mx, .bool p.hm] 81 (0, 0)) := heap_alloc_last _ _
       have gg2 : Grew wz (w1.alloc (.cells #[.bool p.wide, .int .u64 p.mn, .int .u64 p.mx, .bool p.hm] 81)) := G1.out.alloc _
       have HB2 := Hid.mk' B2
       have HG2 := Hid.mk' gg2
       clear B2 gg2 hne1 hne2 hS
       generalize w1.alloc (.cells #[.bool p.wide, .int .u64 p.mn, .int .u64 p.mx, .bool p.hm] 81) = w2 at *
       obtain ⟨q, hqq⟩ : ∃ q, q = w1.heap.size := ⟨_, rfl⟩
       have HQB : Hid (q ≠ w.heap.size + 1 ∧ q ≠ w.heap.size) := by have h1 := G1.out.2; rw [HZ2.out] at h1; exact ⟨by rw [hqq]; omega, by rw [hqq]; omega⟩
       rw [← hqq] at HB2
       simp only [← hqq]
       clear hqq)
    have HGw := Hid.mk' (Gz.out.trans HG2.out)
    have A2 := HAA.out.grew HGw.out
    have HN2 := Hid.mk' A2.N
    have hS2 := lt_of_obj A2.N
    have hq2 := lt_of_obj HB2.out
    have Na2 := (HG2.out.turn []).other Na.out (by simp)
    have Nb2 := (HG2.out.turn []).other Nb.out (by simp)
    have ha2 := lt_of_obj Na2
    have hb2 := lt_of_obj Nb2
    have a0 := cell_of Na2 0; have a1 := cell_of Na2 1; have a2 := cell_of Na2 2
    have b0 := cell_of Nb2 0; have b1 := cell_of Nb2 1; have b2 := cell_of Nb2 2
    have y0 := cell_of HB2.out 0; have y1 := cell_of HB2.out 1; have y2 := cell_of HB2.out 2; have y3 := cell_of HB2.out 3
    simp at a0 a1 a2 b0 b1 b2 y0 y1 y2 y3
    have f0 := free_of Na2 0; have f1 := free_of Na2 1; have f2 := free_of Na2 2
    have f3 := free_of Nb2 0; have f4 := free_of Nb2 1; have f5 := free_of Nb2 2
    have s5 := A2.cell CAL.out
    have s6 := A2.cell COF.out
    have HBl := Hid.mk' HB2.out
    clear a0 a1 a2 b0 b1 b2 y0 y1 y2 y3 f0 f1 f2 f3 f4 f5 A2 ha2 hb2 hq2
    have HNa2 := Hid.mk' Na2
    have HNb2 := Hid.mk' Nb2
    clear Na2 Nb2 Na Nb
    go_wp2_with fail
    refine (CW.out _ HGw.out).mono ?_
    rintro en w3 ⟨rfl, g3⟩
    have Na3 := (g3.turn []).other HNa2.out (by simp)
    have Nb3 := (g3.turn []).other HNb2.out (by simp)
    have Nq3 := (g3.turn []).other HBl.out (by simp)
    have s5 := cell_grew s5 g3
    have s6 := cell_grew s6 g3
    have HG3 := Hid.mk' (HGw.out.trans g3)
    have b0 := cell_of Nb3 0; have b1 := cell_of Nb3 1; have b2 := cell_of Nb3 2
    have f3 := free_of Nb3 0; have f4 := free_of Nb3 1; have f5 := free_of Nb3 2
    simp at b0 b1 b2
    have ha3 := lt_of_obj Na3
    have hb3 := lt_of_obj Nb3
    have hq3 := lt_of_obj Nq3
    have hS3 := lt_of_cell s5
    have y0 := cell_of Nq3 0; have y1 := cell_of Nq3 1; have y2 := cell_of Nq3 2; have y3 := cell_of Nq3 3
    simp at y0 y1 y2 y3
    clear g3 CW
    have hSb : S ≠ w.heap.size + 1 := fun e => by have := HLS.out; omega
    have hbS : w.heap.size + 1 ≠ S := Ne.symm hSb
    have hqb : q ≠ w.heap.size + 1 := HQB.out.1
    have hbq : w.heap.size + 1 ≠ q := Ne.symm hqb
    go_wp2_with fail
    have Nb4 : (((w3.setCell ⟨w.heap.size + 1, 0, none⟩ (.int .i64 vn)).setCell ⟨w.heap.size + 1, 1, none⟩ (.bool false)).setCell ⟨w.heap.size + 1, 2, none⟩ (.int .i64 0)).heap[w.heap.size + 1]? = some (.cells #[.int .i64 vn, .bool false, .int .i64 0] 39 (0, 0)) := heap_set (heap_set (heap_set Nb3 0 _) 1 _) 2 _
    have Na4 : (((w3.setCell ⟨w.heap.size + 1, 0, none⟩ (.int .i64 vn)).setCell ⟨w.heap.size + 1, 1, none⟩ (.bool false)).setCell ⟨w.heap.size + 1, 2, none⟩ (.int .i64 0)).heap[w.heap.size]? = some (.cells #[.int .i64 0, .bool false, .int .i64 0] 39 (0, 0)) := heap_other (heap_other (heap_other Na3 (by simp) _) (by simp) _) (by simp) _
    have Nq4 : (((w3.setCell ⟨w.heap.size + 1, 0, none⟩ (.int .i64 vn)).setCell ⟨w.heap.size + 1, 1, none⟩ (.bool false)).setCell ⟨w.heap.size + 1, 2, none⟩ (.int .i64 0)).heap[q]? = some (.cells #[.bool p.wide, .int .u64 p.mn, .int .u64 p.mx, .bool p.hm] 81 (0, 0)) := heap_other (heap_other (heap_other Nq3 (by simpa using hqb) _) (by simpa using hqb) _) (by simpa using hqb) _
    have G4 : Hid (Grew w (((w3.setCell ⟨w.heap.size + 1, 0, none⟩ (.int .i64 vn)).setCell ⟨w.heap.size + 1, 1, none⟩ (.bool false)).setCell ⟨w.heap.size + 1, 2, none⟩ (.int .i64 0))) := ((HG3.out.set (p := ⟨w.heap.size + 1, 0, none⟩) (Nat.le_succ _) _).set (p := ⟨w.heap.size + 1, 1, none⟩) (Nat.le_succ _) _).set (p := ⟨w.heap.size + 1, 2, none⟩) (Nat.le_succ _) _
    clear Na3 Nb3 Nq3 HG3 HG2 HGw b0 b1 b2 f3 f4 f5 y0 y1 y2 y3 s5 s6 ha3 hb3 hq3 hS3 hSb hbS hqb hbq HNa2 HNb2 HBl hS2
    generalize (((w3.setCell ⟨w.heap.size + 1, 0, none⟩ (.int .i64 vn)).setCell ⟨w.heap.size + 1, 1, none⟩ (.bool false)).setCell ⟨w.heap.size + 1, 2, none⟩ (.int .i64 0)) = w4 at *
    have A4 := HAA.out.grew G4.out
    have s6 := A4.cell COF.out
    have hS4 := lt_of_obj A4.N
    have ha4 := lt_of_obj Na4
    have hb4 := lt_of_obj Nb4
    have hq4 := lt_of_obj Nq4
    have a0 := cell_of Na4 0; have a1 := cell_of Na4 1; have a2 := cell_of Na4 2
    have b0 := cell_of Nb4 0; have b1 := cell_of Nb4 1; have b2 := cell_of Nb4 2
    have y0 := cell_of Nq4 0; have y1 := cell_of Nq4 1; have y2 := cell_of Nq4 2; have y3 := cell_of Nq4 3
    simp at a0 a1 a2 b0 b1 b2 y0 y1 y2 y3
    have f0 := free_of Na4 0; have f1 := free_of Na4 1; have f2 := free_of Na4 2
    have f3 := free_of Nb4 0; have f4 := free_of Nb4 1; have f5 := free_of Nb4 2
    have E0 := set_same (o := 0) (v := .int .i64 0) Na4 rfl
    have E1 := set_same (o := 1) (v := .bool false) Na4 rfl
    have E2 := set_same (o := 2) (v := .int .i64 0) Na4 rfl
    have F0 := set_same (o := 0) (v := .int .i64 vn) Nb4 rfl
    have F1 := set_same (o := 1) (v := .bool false) Nb4 rfl
    have F2 := set_same (o := 2) (v := .int .i64 0) Nb4 rfl
    have HNa4 := Hid.mk' Na4
    have HNb4 := Hid.mk' Nb4
    have HNq4 := Hid.mk' Nq4
    clear A4 Na4 Nb4 Nq4
    simp only [HSH.out]
    have HAT := Hid.mk' (rfl : AT = AT)
    rw [HWD.out] at y0 CAd
    go_simp
    go_wp2_with fail
    clear E0 E1 E2 F0 F1 F2
    have hqa := HQB.out.2
    have haq := Ne.symm hqa
    have hqb := HQB.out.1
    have hbq := Ne.symm hqb
    go_region_held3 (fun w' => w'.cell? ⟨q, 0, none⟩ = some (.bool false) ∧ w'.cell? ⟨q, 1, none⟩ = some (.int .u64 p.mn) ∧ w'.cell? ⟨q, 2, none⟩ = some (.int .u64 p.mx) ∧ w'.cell? ⟨q, 3, none⟩ = some (.bool p.hm) ∧ w'.cell? ⟨w.heap.size + 1, 0, none⟩ = some (.int .i64 vn) ∧ w'.cell? ⟨w.heap.size + 1, 1, none⟩ = some (.bool false) ∧ w'.cell? ⟨w.heap.size + 1, 2, none⟩ = some (.int .i64 0)) (go_keep) (first
      | (with_reducible refine (CAd.out _).mono ?_
         rintro en wa ⟨rfl, ga⟩
         have gg : Grew w4 wa := Grew.trans (by repeat (first | with_reducible exact .refl _ | refine .alloc ?_ _ | refine .drewN ?_ _ | refine .drew ?_)) ga
         have GA := Hid.mk' (G4.out.trans gg)
         have Nax := (gg.turn []).other HNa4.out (by simp)
         have Nbx := (gg.turn []).other HNb4.out (by simp)
         have k0 := cell_of Nax 0; have k1 := cell_of Nax 1; have k2 := cell_of Nax 2
         simp at k0 k1 k2
         have l0 := free_of Nax 0; have l1 := free_of Nax 1; have l2 := free_of Nax 2
         have l3 := free_of Nbx 0; have l4 := free_of Nbx 1; have l5 := free_of Nbx 2
         have hax := lt_of_obj Nax
         have hbx := lt_of_obj Nbx
         have t0 := cell_grew y0 gg; have t1 := cell_grew y1 gg; have t2 := cell_grew y2 gg; have t3 := cell_grew y3 gg
         have u0 := cell_grew b0 gg; have u1 := cell_grew b1 gg; have u2 := cell_grew b2 gg
         have NbW : (((wa.setCell ⟨w.heap.size, 0, none⟩ (.int .i64 AT)).setCell ⟨w.heap.size, 1, none⟩ (.bool false)).setCell ⟨w.heap.size, 2, none⟩ (.int .i64 0)).heap[w.heap.size + 1]? = some (.cells #[.int .i64 vn, .bool false, .int .i64 0] 39 (0, 0)) := heap_other (heap_other (heap_other Nbx (by simp) _) (by simp) _) (by simp) _
         have Fb0 := set_same (o := 0) (v := .int .i64 vn) NbW rfl
         have Fb1 := set_same (o := 1) (v := .bool false) NbW rfl
         have Fb2 := set_same (o := 2) (v := .int .i64 0) NbW rfl
         clear ga gg Nax Nbx NbW)
      | fail)
    all_goals
      go_wp2_with fail
      first
      | refine bodyPost_ret (v := .tuple #[.agg #[.int .i64 AT, .bool false, .int .i64 0], .agg #[.int .i64 vn, .bool false, .int .i64 0], .int .i64 0]) (by simp [results, Tryz.results153, go_sem, k0, k1, k2, u0, u1, u2, hax, hbx]) rfl ?_
      | trace_state
      exact ⟨rfl, (by repeat (first | with_reducible exact GA.out | refine .set ?_ (Nat.le_refl _) _ | refine .set ?_ (Nat.le_succ _) _ | refine .alloc ?_ _ | refine .drewN ?_ _ | refine .drew ?_))⟩
end
end Go.Proofs.YtikaidokllnifaaGreatDoor
