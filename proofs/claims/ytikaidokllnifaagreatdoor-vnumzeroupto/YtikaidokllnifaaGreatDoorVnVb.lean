/-
  Steps of vnum: local.get; no statement is proved here.
-/
import Derived.Test.YtikaidokllnifaaGreatDoorVnTj
import Derived.Deep.RegionHeld3
set_option maxRecDepth 100000
set_option maxHeartbeats 8000000
namespace Go.Proofs.YtikaidokllnifaaGreatDoor
open Go.RowKit
set_option linter.unusedVariables false
set_option linter.unusedSimpArgs false
section
variable {gv : Value} {L : List RT} {W0 w : World} {C : Nat} {lv fv ov : Value} {g c : Nat} {lo : List LO} {fr : List Int} {ops : List VT} {fs : List FV} {x : FV} {S : Nat} {es : Array Value}
theorem globalSet_out (A : StA gv L W0 w C lv fv ov g c lo fr ops fs x S es) {n : Nat} (h32 : n < 4294967296) (hx : es[11]? = some (.int .u32 (n : Int))) {mv : Value} {M : List GLt} (hm : es[4]? = some mv) (hM : LGl w mv M) (hn : M.length ≤ n) :
    Calls Tryz.prog 78 #[.pointer (some ⟨S, 0, none⟩)] w fun en w' => en = .returned (.int .i64 150) ∧ Grew w w' := by
  have CAt : Hid (∀ X, Grew w X → Calls Tryz.prog 151 #[mv, .int .u32 (n : Int)] X fun en w' => en = .returned (.tuple #[.agg #[.int .i64 0, .bool false, .int .i64 0, .bool false], .int .i64 150]) ∧ Grew X w') := fun X k => atGL_out (hM.grew k) hn h32
  have s0 := A.cell hm
  have s1 := A.cell hx
  have hS := lt_of_obj A.N
  have hne1 : S ≠ w.heap.size := Nat.ne_of_lt hS
  have hne2 : w.heap.size ≠ S := Nat.ne_of_gt hS
  obtain ⟨ma, mc, hmv, _⟩ := hM.one
  subst hmv
  clear A hx hm hM hn h32
  go_enter Tryz.func78, Tryz.ntmps78
  go_wp2_with fail
  go_region_held3 (fun w' => w'.cell? ⟨S, 4, none⟩ = some (.slice ma M.length mc) ∧ w'.cell? ⟨S, 11, none⟩ = some (.int .u32 (n : Int))) (go_keep) (first
    | (with_reducible refine (CAt.out _ ?gr).mono ?_
       case gr => exact (by repeat (first | with_reducible exact .refl _ | refine .alloc ?_ _ | refine .drewN ?_ _ | refine .drew ?_))
       rintro en w1 ⟨rfl, g1⟩
       have gg1 : Grew w w1 := Grew.trans (by repeat (first | with_reducible exact .refl _ | refine .alloc ?_ _ | refine .drewN ?_ _ | refine .drew ?_)) g1
       have G1 := Hid.mk' gg1
       have s10 := cell_grew s0 gg1
       have s11 := cell_grew s1 gg1
       first
       | (have gz : Grew (w.alloc (.cells #[.int .i64 0, .bool false, .int .i64 0, .bool false] 175)) w1 := (by first | exact g1 | exact ((Grew.refl _).drew).trans g1 | exact ((Grew.refl _).drewN _).trans g1)
          have Bz := (gz.turn []).other (heap_alloc_last w (.cells #[.int .i64 0, .bool false, .int .i64 0, .bool false] 175)) (by simp)
          have HBz := Hid.mk' Bz
          have hlz := lt_of_obj Bz
          have y0 := cell_of Bz 0; have r0 := free_of Bz 0; have y1 := cell_of Bz 1; have r1 := free_of Bz 1; have y2 := cell_of Bz 2; have r2 := free_of Bz 2; have y3 := cell_of Bz 3; have r3 := free_of Bz 3
          simp at y0 y1 y2 y3
          clear gz Bz)
       | skip
       clear g1 gg1))
  all_goals
    go_wp2_with fail
    go_ret
    exact ⟨rfl, (by repeat (first | with_reducible exact G1.out | refine .set ?_ (Nat.le_refl _) _ | refine .alloc ?_ _ | refine .drewN ?_ _ | refine .drew ?_))⟩
theorem globalSet_mut (A : StA gv L W0 w C lv fv ov g c lo fr ops fs x S es) {n : Nat} (h32 : n < 4294967296) (hx : es[11]? = some (.int .u32 (n : Int))) {mv : Value} {M : List GLt} (hm : es[4]? = some mv) (hM : LGl w mv M) {p : GLt} (hp : M[n]? = some p) (hmut : p.mut_ = false) :
    Calls Tryz.prog 78 #[.pointer (some ⟨S, 0, none⟩)] w (fun en w' => en = .returned (.int .i64 142) ∧ Grew w w') := by
  obtain ⟨pt, pm⟩ := p
  obtain rfl : pm = false := hmut
  have CAt : Hid (∀ X, Grew w X → Calls Tryz.prog 151 #[mv, .int .u32 (n : Int)] X fun en w' => en = .returned (.tuple #[.agg #[.int .i64 pt.num, .bool pt.null, .int .i64 pt.heap, .bool false], .int .i64 0]) ∧ Grew X w') := fun X k => atGL_in (hM.grew k) hp h32
  have s0 := A.cell hm
  have s1 := A.cell hx
  have s2 := A.cell A.hc
  have hS := lt_of_obj A.N
  have hne1 : S ≠ w.heap.size := Nat.ne_of_lt hS
  have hne2 : w.heap.size ≠ S := Nat.ne_of_gt hS
  have HAA := Hid.mk' A
  have HC9 := Hid.mk' A.hc
  obtain ⟨ma, mc, hmv, _⟩ := hM.one
  subst hmv
  clear A hx hm hM hp h32
  go_enter Tryz.func78, Tryz.ntmps78
  go_wp2_with fail
  go_region_held3 (fun w' => w'.cell? ⟨S, 4, none⟩ = some (.slice ma M.length mc) ∧ w'.cell? ⟨S, 11, none⟩ = some (.int .u32 (n : Int))) (go_keep) (first
    | (with_reducible refine (CAt.out _ ?gr).mono ?_
       case gr => exact (by repeat (first | with_reducible exact .refl _ | refine .alloc ?_ _ | refine .drewN ?_ _ | refine .drew ?_))
       rintro en w1 ⟨rfl, g1⟩
       have gg1 : Grew w w1 := Grew.trans (by repeat (first | with_reducible exact .refl _ | refine .alloc ?_ _ | refine .drewN ?_ _ | refine .drew ?_)) g1
       have G1 := Hid.mk' gg1
       have s10 := cell_grew s0 gg1
       have s11 := cell_grew s1 gg1
       first
       | (have gz : Grew (w.alloc (.cells #[.int .i64 0, .bool false, .int .i64 0, .bool false] 175)) w1 := (by first | exact g1 | exact ((Grew.refl _).drew).trans g1 | exact ((Grew.refl _).drewN _).trans g1)
          have Bz := (gz.turn []).other (heap_alloc_last w (.cells #[.int .i64 0, .bool false, .int .i64 0, .bool false] 175)) (by simp)
          have HBz := Hid.mk' Bz
          have hlz := lt_of_obj Bz
          have y0 := cell_of Bz 0; have r0 := free_of Bz 0; have y1 := cell_of Bz 1; have r1 := free_of Bz 1; have y2 := cell_of Bz 2; have r2 := free_of Bz 2; have y3 := cell_of Bz 3; have r3 := free_of Bz 3
          simp at y0 y1 y2 y3
          clear gz Bz)
       | skip
       clear g1 gg1))
  all_goals
    clear s10 s11 s0 s1 s2 CAt
    go_wp2_with fail
    first
    | (have hh0 := hlz
       have B2 : ((((w1.setCell ⟨w.heap.size, 0, none⟩ (.int .i64 pt.num)).setCell ⟨w.heap.size, 1, none⟩ (.bool pt.null)).setCell ⟨w.heap.size, 2, none⟩ (.int .i64 pt.heap)).setCell ⟨w.heap.size, 3, none⟩ (.bool false)).heap[w.heap.size]? = some (.cells #[.int .i64 pt.num, .bool pt.null, .int .i64 pt.heap, .bool false] 175 (0, 0)) := (heap_set (heap_set (heap_set (heap_set HBz.out 0 (.int .i64 pt.num)) 1 (.bool pt.null)) 2 (.int .i64 pt.heap)) 3 (.bool false))
       have gg2 : Grew w ((((w1.setCell ⟨w.heap.size, 0, none⟩ (.int .i64 pt.num)).setCell ⟨w.heap.size, 1, none⟩ (.bool pt.null)).setCell ⟨w.heap.size, 2, none⟩ (.int .i64 pt.heap)).setCell ⟨w.heap.size, 3, none⟩ (.bool false)) := ((((G1.out.set (p := ⟨w.heap.size, 0, none⟩) (Nat.le_refl _) (.int .i64 pt.num)).set (p := ⟨w.heap.size, 1, none⟩) (Nat.le_refl _) (.bool pt.null)).set (p := ⟨w.heap.size, 2, none⟩) (Nat.le_refl _) (.int .i64 pt.heap)).set (p := ⟨w.heap.size, 3, none⟩) (Nat.le_refl _) (.bool false))
       have hq : w.heap.size ≤ w.heap.size := Nat.le_refl _
       have HB2 := Hid.mk' B2
       have HG2 := Hid.mk' gg2
       have HQ2 := Hid.mk' hq
       clear hh0 hlz y0 r0 y1 r1 y2 r2 y3 r3 HBz B2 gg2 hq hne1 hne2 hS
       generalize ((((w1.setCell ⟨w.heap.size, 0, none⟩ (.int .i64 pt.num)).setCell ⟨w.heap.size, 1, none⟩ (.bool pt.null)).setCell ⟨w.heap.size, 2, none⟩ (.int .i64 pt.heap)).setCell ⟨w.heap.size, 3, none⟩ (.bool false)) = w2 at *
       obtain ⟨q, hqq⟩ : ∃ q, q = w.heap.size := ⟨_, rfl⟩
       rw [← hqq] at HB2
       simp only [← hqq]
       clear hqq HQ2)
    | (have B2 : (w1.alloc (.cells #[.int .i64 pt.num, .bool pt.null, .int .i64 pt.heap, .bool false] 175)).heap[w1.heap.size]? = some (.cells #[.int .i64 pt.num, .bool pt.null, .int .i64 pt.heap, .bool false] 175 (0, 0)) := heap_alloc_last _ _
       have gg2 : Grew w (w1.alloc (.cells #[.int .i64 pt.num, .bool pt.null, .int .i64 pt.heap, .bool false] 175)) := G1.out.alloc _
       have HB2 := Hid.mk' B2
       have HG2 := Hid.mk' gg2
       clear B2 gg2 hne1 hne2 hS
       generalize w1.alloc (.cells #[.int .i64 pt.num, .bool pt.null, .int .i64 pt.heap, .bool false] 175) = w2 at *
       obtain ⟨q, hqq⟩ : ∃ q, q = w1.heap.size := ⟨_, rfl⟩
       rw [← hqq] at HB2
       simp only [← hqq]
       clear hqq)
    have A2 := HAA.out.grew HG2.out
    have s9 := A2.cell A2.hc
    have hS2 := lt_of_obj A2.N
    have HN2 := Hid.mk' A2.N
    have hq2 := lt_of_obj HB2.out
    have y0 := cell_of HB2.out 0; have y1 := cell_of HB2.out 1; have y2 := cell_of HB2.out 2; have y3 := cell_of HB2.out 3
    simp at y0 y1 y2 y3
    clear A2 G1
    go_wp2_with fail
    go_ret
    exact ⟨rfl, (by repeat (first | with_reducible exact HG2.out | with_reducible exact .refl _ | refine .alloc ?_ _ | refine .drewN ?_ _ | refine .drew ?_))⟩
theorem globalSet_in (A : StA gv L W0 w C lv fv ov g c lo fr ops fs x S es) {n : Nat} (h32 : n < 4294967296) (hx : es[11]? = some (.int .u32 (n : Int))) {mv : Value} {M : List GLt} (hm : es[4]? = some mv) (hM : LGl w mv M) {p : GLt} (hp : M[n]? = some p) (hmut : p.mut_ = true) :
    Calls Tryz.prog 78 #[.pointer (some ⟨S, 0, none⟩)] w (MP gv W0 w w C lv g c fs x (popTP (matB L) x.height x.dead ops ⟨p.ty.num, p.ty.null, p.ty.heap⟩).1 lo fr (popTP (matB L) x.height x.dead ops ⟨p.ty.num, p.ty.null, p.ty.heap⟩).2.2) := by
  obtain ⟨pt, pm⟩ := p
  obtain rfl : pm = true := hmut
  have CAt : Hid (∀ X, Grew w X → Calls Tryz.prog 151 #[mv, .int .u32 (n : Int)] X fun en w' => en = .returned (.tuple #[.agg #[.int .i64 pt.num, .bool pt.null, .int .i64 pt.heap, .bool true], .int .i64 0]) ∧ Grew X w') := fun X k => atGL_in (hM.grew k) hp h32
  have CP : Hid (∀ X, Grew w X → Calls Tryz.prog 70 #[.pointer (some ⟨C, 0, none⟩), .agg #[.int .i64 pt.num, .bool pt.null, .int .i64 pt.heap]] X fun en w' => (en = .returned (.tuple #[(popTP (matB L) x.height x.dead ops ⟨pt.num, pt.null, pt.heap⟩).2.1.v, .int .i64 (popTP (matB L) x.height x.dead ops ⟨pt.num, pt.null, pt.heap⟩).1])) ∧ KB W0.heap.size w w' ∧ SK X w' ∧ ∃ ov', CHG gv W0.heap.size w' C lv fv ov' (.slice (some ⟨g, 0, none⟩) (fs.length + 1) c) lo fr (popTP (matB L) x.height x.dead ops ⟨pt.num, pt.null, pt.heap⟩).2.2 (fs ++ [x])) := fun X k => A.popT pt.num pt.heap pt.null k
  have HB0 := Hid.mk' A.hB
  generalize (popTP (matB L) x.height x.dead ops ⟨pt.num, pt.null, pt.heap⟩) = RR at *
  obtain ⟨e, ⟨vn, vz, vh⟩, o'⟩ := RR
  simp only [VT.v] at CP
  have s0 := A.cell hm
  have s1 := A.cell hx
  have s2 := A.cell A.hc
  have hS := lt_of_obj A.N
  have hne1 : S ≠ w.heap.size := Nat.ne_of_lt hS
  have hne2 : w.heap.size ≠ S := Nat.ne_of_gt hS
  have HAA := Hid.mk' A
  have HC9 := Hid.mk' A.hc
  obtain ⟨ma, mc, hmv, _⟩ := hM.one
  subst hmv
  clear A hx hm hM hp h32
  go_enter Tryz.func78, Tryz.ntmps78
  go_wp2_with fail
  go_region_held3 (fun w' => w'.cell? ⟨S, 4, none⟩ = some (.slice ma M.length mc) ∧ w'.cell? ⟨S, 11, none⟩ = some (.int .u32 (n : Int))) (go_keep) (first
    | (with_reducible refine (CAt.out _ ?gr).mono ?_
       case gr => exact (by repeat (first | with_reducible exact .refl _ | refine .alloc ?_ _ | refine .drewN ?_ _ | refine .drew ?_))
       rintro en w1 ⟨rfl, g1⟩
       have gg1 : Grew w w1 := Grew.trans (by repeat (first | with_reducible exact .refl _ | refine .alloc ?_ _ | refine .drewN ?_ _ | refine .drew ?_)) g1
       have G1 := Hid.mk' gg1
       have s10 := cell_grew s0 gg1
       have s11 := cell_grew s1 gg1
       first
       | (have gz : Grew (w.alloc (.cells #[.int .i64 0, .bool false, .int .i64 0, .bool false] 175)) w1 := (by first | exact g1 | exact ((Grew.refl _).drew).trans g1 | exact ((Grew.refl _).drewN _).trans g1)
          have Bz := (gz.turn []).other (heap_alloc_last w (.cells #[.int .i64 0, .bool false, .int .i64 0, .bool false] 175)) (by simp)
          have HBz := Hid.mk' Bz
          have hlz := lt_of_obj Bz
          have y0 := cell_of Bz 0; have r0 := free_of Bz 0; have y1 := cell_of Bz 1; have r1 := free_of Bz 1; have y2 := cell_of Bz 2; have r2 := free_of Bz 2; have y3 := cell_of Bz 3; have r3 := free_of Bz 3
          simp at y0 y1 y2 y3
          clear gz Bz)
       | skip
       clear g1 gg1))
  all_goals
    clear s10 s11 s0 s1 s2 CAt
    go_wp2_with fail
    first
    | (have hh0 := hlz
       have B2 : ((((w1.setCell ⟨w.heap.size, 0, none⟩ (.int .i64 pt.num)).setCell ⟨w.heap.size, 1, none⟩ (.bool pt.null)).setCell ⟨w.heap.size, 2, none⟩ (.int .i64 pt.heap)).setCell ⟨w.heap.size, 3, none⟩ (.bool true)).heap[w.heap.size]? = some (.cells #[.int .i64 pt.num, .bool pt.null, .int .i64 pt.heap, .bool true] 175 (0, 0)) := (heap_set (heap_set (heap_set (heap_set HBz.out 0 (.int .i64 pt.num)) 1 (.bool pt.null)) 2 (.int .i64 pt.heap)) 3 (.bool true))
       have gg2 : Grew w ((((w1.setCell ⟨w.heap.size, 0, none⟩ (.int .i64 pt.num)).setCell ⟨w.heap.size, 1, none⟩ (.bool pt.null)).setCell ⟨w.heap.size, 2, none⟩ (.int .i64 pt.heap)).setCell ⟨w.heap.size, 3, none⟩ (.bool true)) := ((((G1.out.set (p := ⟨w.heap.size, 0, none⟩) (Nat.le_refl _) (.int .i64 pt.num)).set (p := ⟨w.heap.size, 1, none⟩) (Nat.le_refl _) (.bool pt.null)).set (p := ⟨w.heap.size, 2, none⟩) (Nat.le_refl _) (.int .i64 pt.heap)).set (p := ⟨w.heap.size, 3, none⟩) (Nat.le_refl _) (.bool true))
       have hq : w.heap.size ≤ w.heap.size := Nat.le_refl _
       have HB2 := Hid.mk' B2
       have HG2 := Hid.mk' gg2
       have HQ2 := Hid.mk' hq
       clear hh0 hlz y0 r0 y1 r1 y2 r2 y3 r3 HBz B2 gg2 hq hne1 hne2 hS
       generalize ((((w1.setCell ⟨w.heap.size, 0, none⟩ (.int .i64 pt.num)).setCell ⟨w.heap.size, 1, none⟩ (.bool pt.null)).setCell ⟨w.heap.size, 2, none⟩ (.int .i64 pt.heap)).setCell ⟨w.heap.size, 3, none⟩ (.bool true)) = w2 at *
       obtain ⟨q, hqq⟩ : ∃ q, q = w.heap.size := ⟨_, rfl⟩
       rw [← hqq] at HB2
       simp only [← hqq]
       clear hqq HQ2)
    | (have B2 : (w1.alloc (.cells #[.int .i64 pt.num, .bool pt.null, .int .i64 pt.heap, .bool true] 175)).heap[w1.heap.size]? = some (.cells #[.int .i64 pt.num, .bool pt.null, .int .i64 pt.heap, .bool true] 175 (0, 0)) := heap_alloc_last _ _
       have gg2 : Grew w (w1.alloc (.cells #[.int .i64 pt.num, .bool pt.null, .int .i64 pt.heap, .bool true] 175)) := G1.out.alloc _
       have HB2 := Hid.mk' B2
       have HG2 := Hid.mk' gg2
       clear B2 gg2 hne1 hne2 hS
       generalize w1.alloc (.cells #[.int .i64 pt.num, .bool pt.null, .int .i64 pt.heap, .bool true] 175) = w2 at *
       obtain ⟨q, hqq⟩ : ∃ q, q = w1.heap.size := ⟨_, rfl⟩
       rw [← hqq] at HB2
       simp only [← hqq]
       clear hqq)
    have A2 := HAA.out.grew HG2.out
    have s9 := A2.cell A2.hc
    have hS2 := lt_of_obj A2.N
    have HN2 := Hid.mk' A2.N
    have hq2 := lt_of_obj HB2.out
    have y0 := cell_of HB2.out 0; have y1 := cell_of HB2.out 1; have y2 := cell_of HB2.out 2; have y3 := cell_of HB2.out 3
    simp at y0 y1 y2 y3
    clear A2 G1
    go_wp2_with fail
    go_region_held3 (fun w' => w'.cell? ⟨S, 9, none⟩ = some (.pointer (some ⟨C, 0, none⟩)) ∧ w'.cell? ⟨q, 0, none⟩ = some (.int .i64 pt.num) ∧ w'.cell? ⟨q, 1, none⟩ = some (.bool pt.null) ∧ w'.cell? ⟨q, 2, none⟩ = some (.int .i64 pt.heap) ∧ w'.cell? ⟨q, 3, none⟩ = some (.bool true)) (go_keep) (first
    | (with_reducible refine (CP.out _ ?gr).mono ?_
       case gr => exact (by repeat (first | with_reducible exact HG2.out | with_reducible exact .refl _ | refine .alloc ?_ _ | refine .drewN ?_ _ | refine .drew ?_))
       rintro en w5 ⟨rfl, kb, sk, hk⟩
       have sk2 : SK w w5 := SK.trans (Grew.sk (Grew.trans HG2.out (by repeat (first | with_reducible exact .refl _ | refine .alloc ?_ _ | refine .drewN ?_ _ | refine .drew ?_)))) sk
       have N5 : w5.heap[S]? = some (.cells es 96 (0, 0)) := sk _ _ _ _ (by decide) (by decide) (Turn.other (Grew.turn (by repeat (first | with_reducible exact .refl _ | refine .alloc ?_ _ | refine .drewN ?_ _ | refine .drew ?_)) []) HN2.out (by simp))
       have B5 : w5.heap[q]? = some (.cells #[.int .i64 pt.num, .bool pt.null, .int .i64 pt.heap, .bool true] 175 (0, 0)) := sk _ _ _ _ (by decide) (by decide) (Turn.other (Grew.turn (by repeat (first | with_reducible exact .refl _ | refine .alloc ?_ _ | refine .drewN ?_ _ | refine .drew ?_)) []) HB2.out (by simp))
       have t9 := (cell_of N5 9).trans HC9.out
       have t0 := cell_of B5 0; have t1 := cell_of B5 1; have t2 := cell_of B5 2; have t3 := cell_of B5 3
       simp at t0 t1 t2 t3
       have HF := Hid.mk' (And.intro kb (And.intro sk2 hk))
       clear kb hk sk sk2 N5 B5)
    | fail)
    all_goals
      go_wp2_with fail
      go_ret
      obtain ⟨k1, k2, ov', k3⟩ := HF.out
      first
      | exact ⟨rfl, k1, k2, fun _ => ⟨fv, ov', k3⟩⟩
      | exact MP.alloc HB0.out ⟨rfl, k1, k2, fun _ => ⟨fv, ov', k3⟩⟩ _
end
section
variable {gv : Value} {L : List RT} {W0 w : World} {C : Nat} {lv fv ov : Value} {g c : Nat} {lo : List LO} {fr : List Int} {ops : List VT} {fs : List FV} {x : FV} {S : Nat} {es : Array Value}
theorem localGet_no (A : StA gv L W0 w C lv fv ov g c lo fr ops fs x S es) {n : Nat} (h32 : n < 4294967296) (hx : es[11]? = some (.int .u32 (n : Int))) {e : Int} (he : (lo.length ≤ n ∧ e = 150) ∨ (∃ p, lo[n]? = some p ∧ p.set = false ∧ e = 134)) :
    Calls Tryz.prog 74 #[.pointer (some ⟨S, 0, none⟩)] w fun en w' => en = .returned (.int .i64 e) ∧ Grew w w' := by
  obtain ⟨e0, hne, hE, CG⟩ : ∃ e0 : Int, (namE e0 == 0) = false ∧ namE e0 = e ∧ Hid (∀ X, Grew w X → Calls Tryz.prog 148 #[.pointer (some ⟨C, 0, none⟩), .int .u32 (n : Int)] X fun en w' => en = .returned (.tuple #[VT0g, .int .i64 e0]) ∧ Grew X w') := by
    rcases he with ⟨h1, rfl⟩ | ⟨p, h1, h2, rfl⟩
    · exact ⟨1, by decide, by decide, fun X k => getM_out (A.h.grew k) h1 h32⟩
    · exact ⟨134, by decide, by decide, fun X k => (getM_in (A.h.grew k) h1 h32).mono (by rintro en w' ⟨rfl, k2⟩; exact ⟨by simp [getR, h2], k2⟩)⟩
  have CN : Hid (∀ X, Calls Tryz.prog 147 #[VT0g, .int .i64 e0] X fun en w' => en = .returned (.tuple #[VT0g, .int .i64 (namE e0)]) ∧ Grew X w') := fun X => named_any 0 0 false e0 X
  subst hE
  clear he
  generalize namE e0 = e at *
  have s0 := A.cell A.hc
  have s1 := A.cell hx
  have hS := lt_of_obj A.N
  have hne1 : S ≠ w.heap.size := Nat.ne_of_lt hS
  have hne2 : w.heap.size ≠ S := Nat.ne_of_gt hS
  have HX := Hid.mk' hx
  have HAA := Hid.mk' A
  clear A hx
  go_enter Tryz.func74, Tryz.ntmps74
  go_wp2_with fail
  go_region_held3 (fun w' => w'.cell? ⟨S, 9, none⟩ = some (.pointer (some ⟨C, 0, none⟩)) ∧ w'.cell? ⟨S, 11, none⟩ = some (.int .u32 (n : Int))) (go_keep) (first
    | (with_reducible refine (CG.out _ ?gr).mono ?_
       case gr => exact (by repeat (first | with_reducible exact .refl _ | refine .alloc ?_ _ | refine .drewN ?_ _ | refine .drew ?_))
       rintro en w1 ⟨rfl, g1⟩
       have gg1 : Grew w w1 := Grew.trans (by repeat (first | with_reducible exact .refl _ | refine .alloc ?_ _ | refine .drewN ?_ _ | refine .drew ?_)) g1
       have G1 := Hid.mk' gg1
       have t0 := cell_grew s0 gg1
       have t1 := cell_grew s1 gg1
       have hne3 : S ≠ w1.heap.size := Nat.ne_of_lt (Nat.lt_of_lt_of_le hS gg1.2)
       have hne4 : w1.heap.size ≠ S := Ne.symm hne3
       first
       | (have gz : Grew (w.alloc (.cells #[.int .i64 0, .bool false, .int .i64 0] 39)) w1 := (by first | exact g1 | exact ((Grew.refl _).drew).trans g1 | exact ((Grew.refl _).drewN _).trans g1)
          have Bz := (gz.turn []).other (heap_alloc_last w (.cells #[.int .i64 0, .bool false, .int .i64 0] 39)) (by simp)
          have HBz := Hid.mk' Bz; have hlz := lt_of_obj Bz
          have y0 := cell_of Bz 0; have r0 := free_of Bz 0; have y1 := cell_of Bz 1; have r1 := free_of Bz 1; have y2 := cell_of Bz 2; have r2 := free_of Bz 2
          simp at y0 y1 y2
          clear gz Bz)
       | skip
       clear g1 gg1)
    | (with_reducible refine (CN.out _).mono ?_
       rintro en w2 ⟨rfl, g2⟩
       have gg2 : Grew w w2 := Grew.trans (by repeat (first | with_reducible exact G1.out | with_reducible exact .refl _ | refine .alloc ?_ _ | refine .drewN ?_ _ | refine .drew ?_)) g2
       have G2 := Hid.mk' gg2
       have u0 := cell_grew s0 gg2
       have u1 := cell_grew s1 gg2
       have hne5 : S ≠ w2.heap.size := Nat.ne_of_lt (Nat.lt_of_lt_of_le hS gg2.2)
       have hne6 : w2.heap.size ≠ S := Ne.symm hne5
       first
       | (have Bz := (g2.turn []).other HBz.out (by simp)
          have HBy := Hid.mk' Bz; have hly := lt_of_obj Bz
          have q0 := cell_of Bz 0; have p0 := free_of Bz 0; have q1 := cell_of Bz 1; have p1 := free_of Bz 1; have q2 := cell_of Bz 2; have p2 := free_of Bz 2
          simp at q0 q1 q2
          clear Bz)
       | (have gz : Grew (w1.alloc (.cells #[.int .i64 0, .bool false, .int .i64 0] 39)) w2 := (by first | exact g2 | exact ((Grew.refl _).drew).trans g2 | exact ((Grew.refl _).drewN _).trans g2)
          have Bz := (gz.turn []).other (heap_alloc_last w1 (.cells #[.int .i64 0, .bool false, .int .i64 0] 39)) (by simp)
          have HBy := Hid.mk' Bz; have hly := lt_of_obj Bz
          have q0 := cell_of Bz 0; have p0 := free_of Bz 0; have q1 := cell_of Bz 1; have p1 := free_of Bz 1; have q2 := cell_of Bz 2; have p2 := free_of Bz 2
          simp at q0 q1 q2
          clear gz Bz)
       | skip
       clear g2 gg2)
    | fail)
  all_goals
    go_wp2_with fail
    go_ret
    exact ⟨rfl, (by repeat (first | with_reducible exact G2.out | refine .set ?_ (Nat.le_refl _) _ | refine .set ?_ G1.out.2 _ | refine .set ?_ G2.out.2 _ | refine .alloc ?_ _ | refine .drewN ?_ _ | refine .drew ?_))⟩
theorem localGet_ok (A : StA gv L W0 w C lv fv ov g c lo fr ops fs x S es) {n : Nat} (h32 : n < 4294967296) (hx : es[11]? = some (.int .u32 (n : Int))) {p : LO} (hp : lo[n]? = some p) (hs : p.set = true) :
    Calls Tryz.prog 74 #[.pointer (some ⟨S, 0, none⟩)] w (MP gv W0 w w C lv g c fs x 0 lo fr (ops ++ [p.kind])) := by
  have CG : Hid (∀ X, Grew w X → Calls Tryz.prog 148 #[.pointer (some ⟨C, 0, none⟩), .int .u32 (n : Int)] X fun en w' => en = .returned (.tuple #[.agg #[.int .i64 p.kind.num, .bool p.kind.null, .int .i64 p.kind.heap], .int .i64 0]) ∧ Grew X w') := fun X k => (getM_in (A.h.grew k) hp h32).mono (by rintro en w' ⟨rfl, k2⟩; exact ⟨by simp [getR, hs], k2⟩)
  have CN : Hid (∀ X, Calls Tryz.prog 147 #[.agg #[.int .i64 p.kind.num, .bool p.kind.null, .int .i64 p.kind.heap], .int .i64 0] X fun en w' => en = .returned (.tuple #[.agg #[.int .i64 p.kind.num, .bool p.kind.null, .int .i64 p.kind.heap], .int .i64 0]) ∧ Grew X w') := fun X => named_any p.kind.num p.kind.heap p.kind.null 0 X
  have CP : Hid (∀ X, Grew w X → Calls Tryz.prog 65 #[.pointer (some ⟨C, 0, none⟩), .agg #[.int .i64 p.kind.num, .bool p.kind.null, .int .i64 p.kind.heap]] X fun en w' => MP gv W0 w X C lv g c fs x 0 lo fr (ops ++ [p.kind]) en w' ∧ FR w X w') := fun X k => A.pushQ p.kind.num p.kind.heap p.kind.null k
  have s0 := A.cell A.hc
  have s1 := A.cell hx
  have hS := lt_of_obj A.N
  have hne1 : S ≠ w.heap.size := Nat.ne_of_lt hS
  have hne2 : w.heap.size ≠ S := Nat.ne_of_gt hS
  have HX := Hid.mk' hx
  have HAA := Hid.mk' A
  clear A hx hp
  go_enter Tryz.func74, Tryz.ntmps74
  go_wp2_with fail
  go_region_held3 (fun w' => w'.cell? ⟨S, 9, none⟩ = some (.pointer (some ⟨C, 0, none⟩)) ∧ w'.cell? ⟨S, 11, none⟩ = some (.int .u32 (n : Int))) (go_keep) (first
    | (with_reducible refine (CG.out _ ?gr).mono ?_
       case gr => exact (by repeat (first | with_reducible exact .refl _ | refine .alloc ?_ _ | refine .drewN ?_ _ | refine .drew ?_))
       rintro en w1 ⟨rfl, g1⟩
       have gg1 : Grew w w1 := Grew.trans (by repeat (first | with_reducible exact .refl _ | refine .alloc ?_ _ | refine .drewN ?_ _ | refine .drew ?_)) g1
       have G1 := Hid.mk' gg1
       have t0 := cell_grew s0 gg1
       have t1 := cell_grew s1 gg1
       have hne3 : S ≠ w1.heap.size := Nat.ne_of_lt (Nat.lt_of_lt_of_le hS gg1.2)
       have hne4 : w1.heap.size ≠ S := Ne.symm hne3
       first
       | (have gz : Grew (w.alloc (.cells #[.int .i64 0, .bool false, .int .i64 0] 39)) w1 := (by first | exact g1 | exact ((Grew.refl _).drew).trans g1 | exact ((Grew.refl _).drewN _).trans g1)
          have Bz := (gz.turn []).other (heap_alloc_last w (.cells #[.int .i64 0, .bool false, .int .i64 0] 39)) (by simp)
          have HBz := Hid.mk' Bz; have hlz := lt_of_obj Bz
          have y0 := cell_of Bz 0; have r0 := free_of Bz 0; have y1 := cell_of Bz 1; have r1 := free_of Bz 1; have y2 := cell_of Bz 2; have r2 := free_of Bz 2
          simp at y0 y1 y2
          clear gz Bz)
       | skip
       clear g1 gg1)
    | (with_reducible refine (CN.out _).mono ?_
       rintro en w2 ⟨rfl, g2⟩
       have gg2 : Grew w w2 := Grew.trans (by repeat (first | with_reducible exact G1.out | with_reducible exact .refl _ | refine .alloc ?_ _ | refine .drewN ?_ _ | refine .drew ?_)) g2
       have G2 := Hid.mk' gg2
       have u0 := cell_grew s0 gg2
       have u1 := cell_grew s1 gg2
       have hne5 : S ≠ w2.heap.size := Nat.ne_of_lt (Nat.lt_of_lt_of_le hS gg2.2)
       have hne6 : w2.heap.size ≠ S := Ne.symm hne5
       first
       | (have Bz := (g2.turn []).other HBz.out (by simp)
          have HBy := Hid.mk' Bz; have hly := lt_of_obj Bz
          have q0 := cell_of Bz 0; have p0 := free_of Bz 0; have q1 := cell_of Bz 1; have p1 := free_of Bz 1; have q2 := cell_of Bz 2; have p2 := free_of Bz 2
          simp at q0 q1 q2
          clear Bz)
       | (have gz : Grew (w1.alloc (.cells #[.int .i64 0, .bool false, .int .i64 0] 39)) w2 := (by first | exact g2 | exact ((Grew.refl _).drew).trans g2 | exact ((Grew.refl _).drewN _).trans g2)
          have Bz := (gz.turn []).other (heap_alloc_last w1 (.cells #[.int .i64 0, .bool false, .int .i64 0] 39)) (by simp)
          have HBy := Hid.mk' Bz; have hly := lt_of_obj Bz
          have q0 := cell_of Bz 0; have p0 := free_of Bz 0; have q1 := cell_of Bz 1; have p1 := free_of Bz 1; have q2 := cell_of Bz 2; have p2 := free_of Bz 2
          simp at q0 q1 q2
          clear gz Bz)
       | skip
       clear g2 gg2)
    | fail)
  all_goals
    go_wp2_with fail
    first
    | (have B2 : (((w2.setCell ⟨w.heap.size, 0, none⟩ (.int .i64 p.kind.num)).setCell ⟨w.heap.size, 1, none⟩ (.bool p.kind.null)).setCell ⟨w.heap.size, 2, none⟩ (.int .i64 p.kind.heap)).heap[w.heap.size]? = some (.cells #[.int .i64 p.kind.num, .bool p.kind.null, .int .i64 p.kind.heap] 39 (0, 0)) := (heap_set (heap_set (heap_set HBy.out 0 (.int .i64 p.kind.num)) 1 (.bool p.kind.null)) 2 (.int .i64 p.kind.heap))
       have gg3 : Grew w (((w2.setCell ⟨w.heap.size, 0, none⟩ (.int .i64 p.kind.num)).setCell ⟨w.heap.size, 1, none⟩ (.bool p.kind.null)).setCell ⟨w.heap.size, 2, none⟩ (.int .i64 p.kind.heap)) := (((G2.out.set (p := ⟨w.heap.size, 0, none⟩) (Nat.le_refl _) (.int .i64 p.kind.num)).set (p := ⟨w.heap.size, 1, none⟩) (Nat.le_refl _) (.bool p.kind.null)).set (p := ⟨w.heap.size, 2, none⟩) (Nat.le_refl _) (.int .i64 p.kind.heap))
       have hq : w.heap.size ≤ w.heap.size := Nat.le_refl _
       have HB3 := Hid.mk' B2
       have HG3 := Hid.mk' gg3
       clear B2 gg3
       generalize (((w2.setCell ⟨w.heap.size, 0, none⟩ (.int .i64 p.kind.num)).setCell ⟨w.heap.size, 1, none⟩ (.bool p.kind.null)).setCell ⟨w.heap.size, 2, none⟩ (.int .i64 p.kind.heap)) = w3 at HB3 HG3 ⊢
       obtain ⟨q, hqq, HQ3⟩ : ∃ q, q = w.heap.size ∧ Hid (w.heap.size ≤ q) := ⟨_, rfl, hq⟩
       clear hq
       rw [← hqq] at HB3
       simp only [← hqq]
       clear hqq)
    | (have B2 : (((w2.setCell ⟨w1.heap.size, 0, none⟩ (.int .i64 p.kind.num)).setCell ⟨w1.heap.size, 1, none⟩ (.bool p.kind.null)).setCell ⟨w1.heap.size, 2, none⟩ (.int .i64 p.kind.heap)).heap[w1.heap.size]? = some (.cells #[.int .i64 p.kind.num, .bool p.kind.null, .int .i64 p.kind.heap] 39 (0, 0)) := (heap_set (heap_set (heap_set HBy.out 0 (.int .i64 p.kind.num)) 1 (.bool p.kind.null)) 2 (.int .i64 p.kind.heap))
       have gg3 : Grew w (((w2.setCell ⟨w1.heap.size, 0, none⟩ (.int .i64 p.kind.num)).setCell ⟨w1.heap.size, 1, none⟩ (.bool p.kind.null)).setCell ⟨w1.heap.size, 2, none⟩ (.int .i64 p.kind.heap)) := (((G2.out.set (p := ⟨w1.heap.size, 0, none⟩) G1.out.2 (.int .i64 p.kind.num)).set (p := ⟨w1.heap.size, 1, none⟩) G1.out.2 (.bool p.kind.null)).set (p := ⟨w1.heap.size, 2, none⟩) G1.out.2 (.int .i64 p.kind.heap))
       have hq : w.heap.size ≤ w1.heap.size := G1.out.2
       have HB3 := Hid.mk' B2
       have HG3 := Hid.mk' gg3
       clear B2 gg3
       generalize (((w2.setCell ⟨w1.heap.size, 0, none⟩ (.int .i64 p.kind.num)).setCell ⟨w1.heap.size, 1, none⟩ (.bool p.kind.null)).setCell ⟨w1.heap.size, 2, none⟩ (.int .i64 p.kind.heap)) = w3 at HB3 HG3 ⊢
       obtain ⟨q, hqq, HQ3⟩ : ∃ q, q = w1.heap.size ∧ Hid (w.heap.size ≤ q) := ⟨_, rfl, hq⟩
       clear hq
       rw [← hqq] at HB3
       simp only [← hqq]
       clear hqq)
    | (have B2 : (w2.alloc (.cells #[.int .i64 p.kind.num, .bool p.kind.null, .int .i64 p.kind.heap] 39)).heap[w2.heap.size]? = some (.cells #[.int .i64 p.kind.num, .bool p.kind.null, .int .i64 p.kind.heap] 39 (0, 0)) := heap_alloc_last _ _
       have gg3 : Grew w (w2.alloc (.cells #[.int .i64 p.kind.num, .bool p.kind.null, .int .i64 p.kind.heap] 39)) := G2.out.alloc _
       have hq : w.heap.size ≤ w2.heap.size := G2.out.2
       have HB3 := Hid.mk' B2
       have HG3 := Hid.mk' gg3
       clear B2 gg3
       generalize w2.alloc (.cells #[.int .i64 p.kind.num, .bool p.kind.null, .int .i64 p.kind.heap] 39) = w3 at HB3 HG3 ⊢
       obtain ⟨q, hqq, HQ3⟩ : ∃ q, q = w2.heap.size ∧ Hid (w.heap.size ≤ q) := ⟨_, rfl, hq⟩
       clear hq
       rw [← hqq] at HB3
       simp only [← hqq]
       clear hqq)
    have A3 := HAA.out.grew HG3.out
    have s9 := A3.cell A3.hc
    have s11 := A3.cell HX.out
    have z0 := cell_of HB3.out 0; have z1 := cell_of HB3.out 1; have z2 := cell_of HB3.out 2
    simp at z0 z1 z2
    clear A3
    go_wp2_with fail
    go_region_held3 (fun w' => w'.cell? ⟨S, 9, none⟩ = some (.pointer (some ⟨C, 0, none⟩)) ∧ w'.cell? ⟨q, 0, none⟩ = some (.int .i64 p.kind.num) ∧ w'.cell? ⟨q, 1, none⟩ = some (.bool p.kind.null) ∧ w'.cell? ⟨q, 2, none⟩ = some (.int .i64 p.kind.heap)) (go_keep) (first
    | (with_reducible refine (CP.out _ ?gr).mono ?_
       case gr => exact (by repeat (first | with_reducible exact HG3.out | with_reducible exact .refl _ | refine .alloc ?_ _ | refine .drewN ?_ _ | refine .drew ?_))
       rintro en w5 ⟨⟨rfl, kb, sk, hk⟩, qq⟩
       have sk3 : SK w w5 := SK.trans (Grew.sk (by repeat (first | with_reducible exact HG3.out | with_reducible exact .refl _ | refine .alloc ?_ _ | refine .drewN ?_ _ | refine .drew ?_))) sk
       have N5 : w5.heap[S]? = some (.cells es 96 (0, 0)) := sk _ _ _ _ (by decide) (by decide) (Turn.other (Grew.turn (by repeat (first | with_reducible exact .refl _ | refine .alloc ?_ _ | refine .drewN ?_ _ | refine .drew ?_)) []) (HAA.out.grew HG3.out).N (by simp))
       have t9 := (cell_of N5 9).trans HAA.out.hc
       have t11 := (cell_of N5 11).trans HX.out
       have hS5 := lt_of_obj N5
       have B5 : w5.heap[q]? = some (.cells #[.int .i64 p.kind.num, .bool p.kind.null, .int .i64 p.kind.heap] 39 (0, 0)) := qq _ _ HQ3.out (Turn.other (Grew.turn (by repeat (first | with_reducible exact .refl _ | refine .alloc ?_ _ | refine .drewN ?_ _ | refine .drew ?_)) []) HB3.out (by simp))
       have t0 := cell_of B5 0; have t1 := cell_of B5 1; have t2 := cell_of B5 2
       simp at t0 t1 t2
       have HF := Hid.mk' (And.intro kb (And.intro sk3 hk))
       clear hk
       have HN5 := Hid.mk' N5
       clear kb sk sk3 N5 B5 qq)
    | fail)
    all_goals
      go_wp2_with fail
      go_ret
      exact ⟨rfl, HF.out.1, HF.out.2.1, fun he => HF.out.2.2 (by first | exact he | trivial)⟩
end
end Go.Proofs.YtikaidokllnifaaGreatDoor
