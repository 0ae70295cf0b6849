/-
  vref's access to one field: a field by its number, what speaks against an access; no statement is proved here.
-/
import Derived.Test.YtnmbniojejckpaaGreatDoorVfP
import Derived.Test.YtnmbniojejckpaaGreatDoorVfO
set_option maxRecDepth 100000
set_option maxHeartbeats 8000000
namespace Go.Proofs.YtnmbniojejckpaaGreatDoor
open Go.RowKit
set_option linter.unusedVariables false
set_option linter.unusedSimpArgs false
theorem atFT_any {w : World} {v : Value} {l : List FT} (h : LF w v l) {n : Nat} (h32 : n < 4294967296) :
    Calls Tryz.prog 107 #[v, .int .u32 (n : Int)] w (FtQ w) := by
  obtain ⟨a, cap, hv, hle, hmx⟩ := h.one
  subst hv
  have e1 : IntKind.u64.wrap (n : Int) = (n : Int) := by rw [IntKind.wrap_u64]; omega
  have e2 : IntKind.u64.wrap (l.length : Int) = (l.length : Int) := by rw [IntKind.wrap_u64]; have := hmx; simp [maxLen] at this; omega
  by_cases hn : l.length ≤ n
  · have d1 : decide ((l.length : Int) ≤ (n : Int)) = true := by simp; omega
    have d2 : decide (l.length ≤ n) = true := by simp; omega
    clear h
    go_enter Tryz.func107, Tryz.ntmps107
    go_wp2_with fail
    refine bodyPost_ret (v := .tuple #[.agg #[.int .i64 0, .bool false, .int .i64 0, .bool false], .int .i64 150]) (by simp [results, Tryz.results107, go_sem]) rfl ?_
    exact ⟨_, _, _, _, _, rfl, by decide, by repeat (first | with_reducible exact .refl _ | refine .alloc ?_ _ | refine .set ?_ (by simp) _ | refine .drewN ?_ _ | refine .drew ?_)⟩
  · obtain ⟨p, hp⟩ : ∃ p, l[n]? = some p := ⟨_, List.getElem?_eq_getElem (by omega)⟩
    obtain ⟨b, off, ha, hc, hE⟩ := h.get (by omega)
    subst ha
    obtain ⟨⟨x0, x1, x2⟩, x3⟩ := hE n p hp
    have d1 : decide ((l.length : Int) ≤ (n : Int)) = false := by simp; omega
    have d2 : decide (l.length ≤ n) = false := by simp; omega
    have d3 : decide (n < l.length) = true := by simp; omega
    have d4 : decide ((n : Int) < (l.length : Int)) = true := by simp; omega
    have d5 : (n : Int) < (l.length : Int) := by omega
    have hxl := lt_of_cell x0
    clear h hE hp
    go_enter Tryz.func107, Tryz.ntmps107
    go_wp2_with fail
    refine bodyPost_ret (v := .tuple #[.agg #[.int .i64 p.ty.num, .bool p.ty.null, .int .i64 p.ty.heap, .bool p.mut_], .int .i64 0]) (by simp [results, Tryz.results107, go_sem]) rfl ?_
    exact ⟨_, _, _, _, _, rfl, by decide, by repeat (first | with_reducible exact .refl _ | refine .alloc ?_ _ | refine .set ?_ (by simp) _ | refine .drewN ?_ _ | refine .drew ?_)⟩
theorem against_000 (k : Int) (n h : Int) (z : Bool) (X : World) : Calls Tryz.prog 78 #[.agg #[.int .i64 k, .bool false, .bool false], .agg #[.int .i64 n, .bool z, .int .i64 h, .bool false]] X (ErQ X) := by
  have CP : Hid (∀ (n h : Int) (z : Bool) Y, Calls Tryz.prog 108 #[.agg #[.int .i64 n, .bool z, .int .i64 h]] Y (BoQ Y)) := fun n h z Y => packed_any n h z Y
  go_enter Tryz.func78, Tryz.ntmps78
  go_wp2_with fail
  obtain ⟨W0, hW0⟩ : ∃ W0, W0 = (X.alloc (.cells #[.int .i64 k, .bool false, .bool false] 134)).alloc (.cells #[.int .i64 n, .bool z, .int .i64 h, .bool false] 112) := ⟨_, rfl⟩
  have NA : W0.heap[X.heap.size]? = some (.cells #[.int .i64 k, .bool false, .bool false] 134 (0, 0)) := by rw [hW0]; exact heap_alloc (heap_alloc_last X _) _
  have NF : W0.heap[X.heap.size + 1]? = some (.cells #[.int .i64 n, .bool z, .int .i64 h, .bool false] 112 (0, 0)) := by
    rw [hW0]
    have := heap_alloc_last (X.alloc (.cells #[.int .i64 k, .bool false, .bool false] 134)) (.cells #[.int .i64 n, .bool z, .int .i64 h, .bool false] 112)
    rw [alloc_size] at this
    exact this
  have G0 : Hid (Grew X W0) := by rw [hW0]; exact ((Grew.refl X).alloc _).alloc _
  rw [← hW0]
  clear hW0
  have z0 := cell_of NA 0
  have z1 := cell_of NA 1
  have z2 := cell_of NA 2
  have y0 := cell_of NF 0
  have y1 := cell_of NF 1
  have y2 := cell_of NF 2
  have y3 := cell_of NF 3
  simp at z0 z1 z2 y0 y1 y2 y3
  have lA := lt_of_obj NA
  have lF := lt_of_obj NF
  have HNA := Hid.mk' NA
  have HNF := Hid.mk' NF
  have fA : W0.heap.size ≠ X.heap.size := by omega
  have fF : W0.heap.size ≠ X.heap.size + 1 := by omega
  clear NA NF
  go_region_held3 (fun Y => Y.cell? ⟨X.heap.size, 0, none⟩ = some (.int .i64 k) ∧ Y.cell? ⟨X.heap.size + 1, 0, none⟩ = some (.int .i64 n) ∧ Y.cell? ⟨X.heap.size + 1, 1, none⟩ = some (.bool z) ∧ Y.cell? ⟨X.heap.size + 1, 2, none⟩ = some (.int .i64 h)) (first | (go_keep) | (refine ⟨?_, ?_, ?_, ?_⟩ <;> (repeat rw [World.cell?_setCell_far _ _ _ _ (by first | exact fA | exact fF)]) <;> assumption)) (first
    | (with_reducible refine (CP.out _ _ _ _).mono ?_
       rintro en wn ⟨r, rfl, gn⟩
       have gx : Grew W0 wn := Grew.trans (by repeat (first | with_reducible exact .refl _ | refine .alloc ?_ _ | refine .drewN ?_ _ | refine .drew ?_)) gn
       have s0 := cell_grew z0 gx
       have t0 := cell_grew y0 gx
       have t1 := cell_grew y1 gx
       have t2 := cell_grew y2 gx
       first
         | (have hg := (gn.turn []).other (heap_alloc_last W0 (.cells #[.int .i64 0, .bool false, .bool false] 134)) (by simp)
            have u0 := cell_of hg 0
            have u1 := cell_of hg 1
            have u2 := cell_of hg 2
            simp at u0 u1 u2
            have v0 := free_of hg 0
            have v1 := free_of hg 1
            have v2 := free_of hg 2
            have lg := lt_of_obj hg
            have HG := Hid.mk' hg)
         | skip
       have GX := Hid.mk' gx
       clear gx gn)
    | fail)
  · obtain ⟨W1, hW1⟩ : ∃ W1, W1 = wn.alloc (.cells #[.int .i64 k, .bool false, .bool r] 134) := ⟨_, rfl⟩
    have NG : W1.heap[wn.heap.size]? = some (.cells #[.int .i64 k, .bool false, .bool r] 134 (0, 0)) := by rw [hW1]; exact heap_alloc_last _ _
    have gw : Grew W0 W1 := by rw [hW1]; exact GX.out.alloc _
    have hg : W0.heap.size ≤ wn.heap.size := GX.out.2
    generalize wn.heap.size = gb at *
    rw [← hW1]
    clear hW1 s0 t0 t1 t2 z0 z1 z2 y0 y1 y2 y3 GX
    have NA := (gw.turn []).other HNA.out (by simp)
    have NF := (gw.turn []).other HNF.out (by simp)
    have z0 := cell_of NA 0
    have z1 := cell_of NA 1
    have z2 := cell_of NA 2
    have y3 := cell_of NF 3
    have g0 := cell_of NG 0
    have g1 := cell_of NG 1
    have g2 := cell_of NG 2
    simp at z0 z1 z2 y3 g0 g1 g2
    have lA1 := lt_of_obj NA
    have lF1 := lt_of_obj NF
    have lG1 := lt_of_obj NG
    have G1 : Hid (Grew X W1) := G0.out.trans gw
    clear NA NF NG gw HNA HNF CP
    cases r
    all_goals
      go_wp2_with fail
      go_ret
      exact ⟨_, rfl, by decide, G1.out.alloc _⟩
  · obtain ⟨W1, hW1⟩ : ∃ W1, W1 = (((wn.setCell ⟨W0.heap.size, 0, none⟩ (.int .i64 k)).setCell ⟨W0.heap.size, 1, none⟩ (.bool false)).setCell ⟨W0.heap.size, 2, none⟩ (.bool r)) := ⟨_, rfl⟩
    have NG : W1.heap[W0.heap.size]? = some (.cells #[.int .i64 k, .bool false, .bool r] 134 (0, 0)) := by rw [hW1]; exact heap_set (heap_set (heap_set HG.out 0 (.int .i64 k)) 1 (.bool false)) 2 (.bool r)
    have gw : Grew W0 W1 := by rw [hW1]; exact ((GX.out.set (Nat.le_refl _) _).set (Nat.le_refl _) _).set (Nat.le_refl _) _
    have hg : W0.heap.size ≤ W0.heap.size := Nat.le_refl _
    rw [← hW1]
    clear hW1 s0 t0 t1 t2 u0 u1 u2 v0 v1 v2 lg z0 z1 z2 y0 y1 y2 y3 GX HG
    revert NG hg
    generalize hgb : W0.heap.size = gb at *
    intro NG hg
    have NA := (gw.turn []).other HNA.out (by simp)
    have NF := (gw.turn []).other HNF.out (by simp)
    have z0 := cell_of NA 0
    have z1 := cell_of NA 1
    have z2 := cell_of NA 2
    have y3 := cell_of NF 3
    have g0 := cell_of NG 0
    have g1 := cell_of NG 1
    have g2 := cell_of NG 2
    simp at z0 z1 z2 y3 g0 g1 g2
    have lA1 := lt_of_obj NA
    have lF1 := lt_of_obj NF
    have lG1 := lt_of_obj NG
    have G1 : Hid (Grew X W1) := G0.out.trans gw
    clear NA NF NG gw HNA HNF CP
    cases r
    all_goals
      go_wp2_with fail
      go_ret
      exact ⟨_, rfl, by decide, G1.out.alloc _⟩
theorem against_001 (k : Int) (n h : Int) (z : Bool) (X : World) : Calls Tryz.prog 78 #[.agg #[.int .i64 k, .bool false, .bool false], .agg #[.int .i64 n, .bool z, .int .i64 h, .bool true]] X (ErQ X) := by
  have CP : Hid (∀ (n h : Int) (z : Bool) Y, Calls Tryz.prog 108 #[.agg #[.int .i64 n, .bool z, .int .i64 h]] Y (BoQ Y)) := fun n h z Y => packed_any n h z Y
  go_enter Tryz.func78, Tryz.ntmps78
  go_wp2_with fail
  obtain ⟨W0, hW0⟩ : ∃ W0, W0 = (X.alloc (.cells #[.int .i64 k, .bool false, .bool false] 134)).alloc (.cells #[.int .i64 n, .bool z, .int .i64 h, .bool true] 112) := ⟨_, rfl⟩
  have NA : W0.heap[X.heap.size]? = some (.cells #[.int .i64 k, .bool false, .bool false] 134 (0, 0)) := by rw [hW0]; exact heap_alloc (heap_alloc_last X _) _
  have NF : W0.heap[X.heap.size + 1]? = some (.cells #[.int .i64 n, .bool z, .int .i64 h, .bool true] 112 (0, 0)) := by
    rw [hW0]
    have := heap_alloc_last (X.alloc (.cells #[.int .i64 k, .bool false, .bool false] 134)) (.cells #[.int .i64 n, .bool z, .int .i64 h, .bool true] 112)
    rw [alloc_size] at this
    exact this
  have G0 : Hid (Grew X W0) := by rw [hW0]; exact ((Grew.refl X).alloc _).alloc _
  rw [← hW0]
  clear hW0
  have z0 := cell_of NA 0
  have z1 := cell_of NA 1
  have z2 := cell_of NA 2
  have y0 := cell_of NF 0
  have y1 := cell_of NF 1
  have y2 := cell_of NF 2
  have y3 := cell_of NF 3
  simp at z0 z1 z2 y0 y1 y2 y3
  have lA := lt_of_obj NA
  have lF := lt_of_obj NF
  have HNA := Hid.mk' NA
  have HNF := Hid.mk' NF
  have fA : W0.heap.size ≠ X.heap.size := by omega
  have fF : W0.heap.size ≠ X.heap.size + 1 := by omega
  clear NA NF
  go_region_held3 (fun Y => Y.cell? ⟨X.heap.size, 0, none⟩ = some (.int .i64 k) ∧ Y.cell? ⟨X.heap.size + 1, 0, none⟩ = some (.int .i64 n) ∧ Y.cell? ⟨X.heap.size + 1, 1, none⟩ = some (.bool z) ∧ Y.cell? ⟨X.heap.size + 1, 2, none⟩ = some (.int .i64 h)) (first | (go_keep) | (refine ⟨?_, ?_, ?_, ?_⟩ <;> (repeat rw [World.cell?_setCell_far _ _ _ _ (by first | exact fA | exact fF)]) <;> assumption)) (first
    | (with_reducible refine (CP.out _ _ _ _).mono ?_
       rintro en wn ⟨r, rfl, gn⟩
       have gx : Grew W0 wn := Grew.trans (by repeat (first | with_reducible exact .refl _ | refine .alloc ?_ _ | refine .drewN ?_ _ | refine .drew ?_)) gn
       have s0 := cell_grew z0 gx
       have t0 := cell_grew y0 gx
       have t1 := cell_grew y1 gx
       have t2 := cell_grew y2 gx
       first
         | (have hg := (gn.turn []).other (heap_alloc_last W0 (.cells #[.int .i64 0, .bool false, .bool false] 134)) (by simp)
            have u0 := cell_of hg 0
            have u1 := cell_of hg 1
            have u2 := cell_of hg 2
            simp at u0 u1 u2
            have v0 := free_of hg 0
            have v1 := free_of hg 1
            have v2 := free_of hg 2
            have lg := lt_of_obj hg
            have HG := Hid.mk' hg)
         | skip
       have GX := Hid.mk' gx
       clear gx gn)
    | fail)
  · obtain ⟨W1, hW1⟩ : ∃ W1, W1 = wn.alloc (.cells #[.int .i64 k, .bool false, .bool r] 134) := ⟨_, rfl⟩
    have NG : W1.heap[wn.heap.size]? = some (.cells #[.int .i64 k, .bool false, .bool r] 134 (0, 0)) := by rw [hW1]; exact heap_alloc_last _ _
    have gw : Grew W0 W1 := by rw [hW1]; exact GX.out.alloc _
    have hg : W0.heap.size ≤ wn.heap.size := GX.out.2
    generalize wn.heap.size = gb at *
    rw [← hW1]
    clear hW1 s0 t0 t1 t2 z0 z1 z2 y0 y1 y2 y3 GX
    have NA := (gw.turn []).other HNA.out (by simp)
    have NF := (gw.turn []).other HNF.out (by simp)
    have z0 := cell_of NA 0
    have z1 := cell_of NA 1
    have z2 := cell_of NA 2
    have y3 := cell_of NF 3
    have g0 := cell_of NG 0
    have g1 := cell_of NG 1
    have g2 := cell_of NG 2
    simp at z0 z1 z2 y3 g0 g1 g2
    have lA1 := lt_of_obj NA
    have lF1 := lt_of_obj NF
    have lG1 := lt_of_obj NG
    have G1 : Hid (Grew X W1) := G0.out.trans gw
    clear NA NF NG gw HNA HNF CP
    cases r
    all_goals
      go_wp2_with fail
      go_ret
      exact ⟨_, rfl, by decide, G1.out.alloc _⟩
  · obtain ⟨W1, hW1⟩ : ∃ W1, W1 = (((wn.setCell ⟨W0.heap.size, 0, none⟩ (.int .i64 k)).setCell ⟨W0.heap.size, 1, none⟩ (.bool false)).setCell ⟨W0.heap.size, 2, none⟩ (.bool r)) := ⟨_, rfl⟩
    have NG : W1.heap[W0.heap.size]? = some (.cells #[.int .i64 k, .bool false, .bool r] 134 (0, 0)) := by rw [hW1]; exact heap_set (heap_set (heap_set HG.out 0 (.int .i64 k)) 1 (.bool false)) 2 (.bool r)
    have gw : Grew W0 W1 := by rw [hW1]; exact ((GX.out.set (Nat.le_refl _) _).set (Nat.le_refl _) _).set (Nat.le_refl _) _
    have hg : W0.heap.size ≤ W0.heap.size := Nat.le_refl _
    rw [← hW1]
    clear hW1 s0 t0 t1 t2 u0 u1 u2 v0 v1 v2 lg z0 z1 z2 y0 y1 y2 y3 GX HG
    revert NG hg
    generalize hgb : W0.heap.size = gb at *
    intro NG hg
    have NA := (gw.turn []).other HNA.out (by simp)
    have NF := (gw.turn []).other HNF.out (by simp)
    have z0 := cell_of NA 0
    have z1 := cell_of NA 1
    have z2 := cell_of NA 2
    have y3 := cell_of NF 3
    have g0 := cell_of NG 0
    have g1 := cell_of NG 1
    have g2 := cell_of NG 2
    simp at z0 z1 z2 y3 g0 g1 g2
    have lA1 := lt_of_obj NA
    have lF1 := lt_of_obj NF
    have lG1 := lt_of_obj NG
    have G1 : Hid (Grew X W1) := G0.out.trans gw
    clear NA NF NG gw HNA HNF CP
    cases r
    all_goals
      go_wp2_with fail
      go_ret
      exact ⟨_, rfl, by decide, G1.out.alloc _⟩
theorem against_010 (k : Int) (n h : Int) (z : Bool) (X : World) : Calls Tryz.prog 78 #[.agg #[.int .i64 k, .bool false, .bool true], .agg #[.int .i64 n, .bool z, .int .i64 h, .bool false]] X (ErQ X) := by
  have CP : Hid (∀ (n h : Int) (z : Bool) Y, Calls Tryz.prog 108 #[.agg #[.int .i64 n, .bool z, .int .i64 h]] Y (BoQ Y)) := fun n h z Y => packed_any n h z Y
  go_enter Tryz.func78, Tryz.ntmps78
  go_wp2_with fail
  obtain ⟨W0, hW0⟩ : ∃ W0, W0 = (X.alloc (.cells #[.int .i64 k, .bool false, .bool true] 134)).alloc (.cells #[.int .i64 n, .bool z, .int .i64 h, .bool false] 112) := ⟨_, rfl⟩
  have NA : W0.heap[X.heap.size]? = some (.cells #[.int .i64 k, .bool false, .bool true] 134 (0, 0)) := by rw [hW0]; exact heap_alloc (heap_alloc_last X _) _
  have NF : W0.heap[X.heap.size + 1]? = some (.cells #[.int .i64 n, .bool z, .int .i64 h, .bool false] 112 (0, 0)) := by
    rw [hW0]
    have := heap_alloc_last (X.alloc (.cells #[.int .i64 k, .bool false, .bool true] 134)) (.cells #[.int .i64 n, .bool z, .int .i64 h, .bool false] 112)
    rw [alloc_size] at this
    exact this
  have G0 : Hid (Grew X W0) := by rw [hW0]; exact ((Grew.refl X).alloc _).alloc _
  rw [← hW0]
  clear hW0
  have z0 := cell_of NA 0
  have z1 := cell_of NA 1
  have z2 := cell_of NA 2
  have y0 := cell_of NF 0
  have y1 := cell_of NF 1
  have y2 := cell_of NF 2
  have y3 := cell_of NF 3
  simp at z0 z1 z2 y0 y1 y2 y3
  have lA := lt_of_obj NA
  have lF := lt_of_obj NF
  have HNA := Hid.mk' NA
  have HNF := Hid.mk' NF
  have fA : W0.heap.size ≠ X.heap.size := by omega
  have fF : W0.heap.size ≠ X.heap.size + 1 := by omega
  clear NA NF
  go_region_held3 (fun Y => Y.cell? ⟨X.heap.size, 0, none⟩ = some (.int .i64 k) ∧ Y.cell? ⟨X.heap.size + 1, 0, none⟩ = some (.int .i64 n) ∧ Y.cell? ⟨X.heap.size + 1, 1, none⟩ = some (.bool z) ∧ Y.cell? ⟨X.heap.size + 1, 2, none⟩ = some (.int .i64 h)) (first | (go_keep) | (refine ⟨?_, ?_, ?_, ?_⟩ <;> (repeat rw [World.cell?_setCell_far _ _ _ _ (by first | exact fA | exact fF)]) <;> assumption)) (first
    | (with_reducible refine (CP.out _ _ _ _).mono ?_
       rintro en wn ⟨r, rfl, gn⟩
       have gx : Grew W0 wn := Grew.trans (by repeat (first | with_reducible exact .refl _ | refine .alloc ?_ _ | refine .drewN ?_ _ | refine .drew ?_)) gn
       have s0 := cell_grew z0 gx
       have t0 := cell_grew y0 gx
       have t1 := cell_grew y1 gx
       have t2 := cell_grew y2 gx
       first
         | (have hg := (gn.turn []).other (heap_alloc_last W0 (.cells #[.int .i64 0, .bool false, .bool false] 134)) (by simp)
            have u0 := cell_of hg 0
            have u1 := cell_of hg 1
            have u2 := cell_of hg 2
            simp at u0 u1 u2
            have v0 := free_of hg 0
            have v1 := free_of hg 1
            have v2 := free_of hg 2
            have lg := lt_of_obj hg
            have HG := Hid.mk' hg)
         | skip
       have GX := Hid.mk' gx
       clear gx gn)
    | fail)
  · obtain ⟨W1, hW1⟩ : ∃ W1, W1 = wn.alloc (.cells #[.int .i64 k, .bool false, .bool r] 134) := ⟨_, rfl⟩
    have NG : W1.heap[wn.heap.size]? = some (.cells #[.int .i64 k, .bool false, .bool r] 134 (0, 0)) := by rw [hW1]; exact heap_alloc_last _ _
    have gw : Grew W0 W1 := by rw [hW1]; exact GX.out.alloc _
    have hg : W0.heap.size ≤ wn.heap.size := GX.out.2
    generalize wn.heap.size = gb at *
    rw [← hW1]
    clear hW1 s0 t0 t1 t2 z0 z1 z2 y0 y1 y2 y3 GX
    have NA := (gw.turn []).other HNA.out (by simp)
    have NF := (gw.turn []).other HNF.out (by simp)
    have z0 := cell_of NA 0
    have z1 := cell_of NA 1
    have z2 := cell_of NA 2
    have y3 := cell_of NF 3
    have g0 := cell_of NG 0
    have g1 := cell_of NG 1
    have g2 := cell_of NG 2
    simp at z0 z1 z2 y3 g0 g1 g2
    have lA1 := lt_of_obj NA
    have lF1 := lt_of_obj NF
    have lG1 := lt_of_obj NG
    have G1 : Hid (Grew X W1) := G0.out.trans gw
    clear NA NF NG gw HNA HNF CP
    cases r
    all_goals
      go_wp2_with fail
      go_ret
      exact ⟨_, rfl, by decide, G1.out.alloc _⟩
  · obtain ⟨W1, hW1⟩ : ∃ W1, W1 = (((wn.setCell ⟨W0.heap.size, 0, none⟩ (.int .i64 k)).setCell ⟨W0.heap.size, 1, none⟩ (.bool false)).setCell ⟨W0.heap.size, 2, none⟩ (.bool r)) := ⟨_, rfl⟩
    have NG : W1.heap[W0.heap.size]? = some (.cells #[.int .i64 k, .bool false, .bool r] 134 (0, 0)) := by rw [hW1]; exact heap_set (heap_set (heap_set HG.out 0 (.int .i64 k)) 1 (.bool false)) 2 (.bool r)
    have gw : Grew W0 W1 := by rw [hW1]; exact ((GX.out.set (Nat.le_refl _) _).set (Nat.le_refl _) _).set (Nat.le_refl _) _
    have hg : W0.heap.size ≤ W0.heap.size := Nat.le_refl _
    rw [← hW1]
    clear hW1 s0 t0 t1 t2 u0 u1 u2 v0 v1 v2 lg z0 z1 z2 y0 y1 y2 y3 GX HG
    revert NG hg
    generalize hgb : W0.heap.size = gb at *
    intro NG hg
    have NA := (gw.turn []).other HNA.out (by simp)
    have NF := (gw.turn []).other HNF.out (by simp)
    have z0 := cell_of NA 0
    have z1 := cell_of NA 1
    have z2 := cell_of NA 2
    have y3 := cell_of NF 3
    have g0 := cell_of NG 0
    have g1 := cell_of NG 1
    have g2 := cell_of NG 2
    simp at z0 z1 z2 y3 g0 g1 g2
    have lA1 := lt_of_obj NA
    have lF1 := lt_of_obj NF
    have lG1 := lt_of_obj NG
    have G1 : Hid (Grew X W1) := G0.out.trans gw
    clear NA NF NG gw HNA HNF CP
    cases r
    all_goals
      go_wp2_with fail
      go_ret
      exact ⟨_, rfl, by decide, G1.out.alloc _⟩
theorem against_011 (k : Int) (n h : Int) (z : Bool) (X : World) : Calls Tryz.prog 78 #[.agg #[.int .i64 k, .bool false, .bool true], .agg #[.int .i64 n, .bool z, .int .i64 h, .bool true]] X (ErQ X) := by
  have CP : Hid (∀ (n h : Int) (z : Bool) Y, Calls Tryz.prog 108 #[.agg #[.int .i64 n, .bool z, .int .i64 h]] Y (BoQ Y)) := fun n h z Y => packed_any n h z Y
  go_enter Tryz.func78, Tryz.ntmps78
  go_wp2_with fail
  obtain ⟨W0, hW0⟩ : ∃ W0, W0 = (X.alloc (.cells #[.int .i64 k, .bool false, .bool true] 134)).alloc (.cells #[.int .i64 n, .bool z, .int .i64 h, .bool true] 112) := ⟨_, rfl⟩
  have NA : W0.heap[X.heap.size]? = some (.cells #[.int .i64 k, .bool false, .bool true] 134 (0, 0)) := by rw [hW0]; exact heap_alloc (heap_alloc_last X _) _
  have NF : W0.heap[X.heap.size + 1]? = some (.cells #[.int .i64 n, .bool z, .int .i64 h, .bool true] 112 (0, 0)) := by
    rw [hW0]
    have := heap_alloc_last (X.alloc (.cells #[.int .i64 k, .bool false, .bool true] 134)) (.cells #[.int .i64 n, .bool z, .int .i64 h, .bool true] 112)
    rw [alloc_size] at this
    exact this
  have G0 : Hid (Grew X W0) := by rw [hW0]; exact ((Grew.refl X).alloc _).alloc _
  rw [← hW0]
  clear hW0
  have z0 := cell_of NA 0
  have z1 := cell_of NA 1
  have z2 := cell_of NA 2
  have y0 := cell_of NF 0
  have y1 := cell_of NF 1
  have y2 := cell_of NF 2
  have y3 := cell_of NF 3
  simp at z0 z1 z2 y0 y1 y2 y3
  have lA := lt_of_obj NA
  have lF := lt_of_obj NF
  have HNA := Hid.mk' NA
  have HNF := Hid.mk' NF
  have fA : W0.heap.size ≠ X.heap.size := by omega
  have fF : W0.heap.size ≠ X.heap.size + 1 := by omega
  clear NA NF
  go_region_held3 (fun Y => Y.cell? ⟨X.heap.size, 0, none⟩ = some (.int .i64 k) ∧ Y.cell? ⟨X.heap.size + 1, 0, none⟩ = some (.int .i64 n) ∧ Y.cell? ⟨X.heap.size + 1, 1, none⟩ = some (.bool z) ∧ Y.cell? ⟨X.heap.size + 1, 2, none⟩ = some (.int .i64 h)) (first | (go_keep) | (refine ⟨?_, ?_, ?_, ?_⟩ <;> (repeat rw [World.cell?_setCell_far _ _ _ _ (by first | exact fA | exact fF)]) <;> assumption)) (first
    | (with_reducible refine (CP.out _ _ _ _).mono ?_
       rintro en wn ⟨r, rfl, gn⟩
       have gx : Grew W0 wn := Grew.trans (by repeat (first | with_reducible exact .refl _ | refine .alloc ?_ _ | refine .drewN ?_ _ | refine .drew ?_)) gn
       have s0 := cell_grew z0 gx
       have t0 := cell_grew y0 gx
       have t1 := cell_grew y1 gx
       have t2 := cell_grew y2 gx
       first
         | (have hg := (gn.turn []).other (heap_alloc_last W0 (.cells #[.int .i64 0, .bool false, .bool false] 134)) (by simp)
            have u0 := cell_of hg 0
            have u1 := cell_of hg 1
            have u2 := cell_of hg 2
            simp at u0 u1 u2
            have v0 := free_of hg 0
            have v1 := free_of hg 1
            have v2 := free_of hg 2
            have lg := lt_of_obj hg
            have HG := Hid.mk' hg)
         | skip
       have GX := Hid.mk' gx
       clear gx gn)
    | fail)
  · obtain ⟨W1, hW1⟩ : ∃ W1, W1 = wn.alloc (.cells #[.int .i64 k, .bool false, .bool r] 134) := ⟨_, rfl⟩
    have NG : W1.heap[wn.heap.size]? = some (.cells #[.int .i64 k, .bool false, .bool r] 134 (0, 0)) := by rw [hW1]; exact heap_alloc_last _ _
    have gw : Grew W0 W1 := by rw [hW1]; exact GX.out.alloc _
    have hg : W0.heap.size ≤ wn.heap.size := GX.out.2
    generalize wn.heap.size = gb at *
    rw [← hW1]
    clear hW1 s0 t0 t1 t2 z0 z1 z2 y0 y1 y2 y3 GX
    have NA := (gw.turn []).other HNA.out (by simp)
    have NF := (gw.turn []).other HNF.out (by simp)
    have z0 := cell_of NA 0
    have z1 := cell_of NA 1
    have z2 := cell_of NA 2
    have y3 := cell_of NF 3
    have g0 := cell_of NG 0
    have g1 := cell_of NG 1
    have g2 := cell_of NG 2
    simp at z0 z1 z2 y3 g0 g1 g2
    have lA1 := lt_of_obj NA
    have lF1 := lt_of_obj NF
    have lG1 := lt_of_obj NG
    have G1 : Hid (Grew X W1) := G0.out.trans gw
    clear NA NF NG gw HNA HNF CP
    cases r
    all_goals
      go_wp2_with fail
      go_ret
      exact ⟨_, rfl, by decide, G1.out.alloc _⟩
  · obtain ⟨W1, hW1⟩ : ∃ W1, W1 = (((wn.setCell ⟨W0.heap.size, 0, none⟩ (.int .i64 k)).setCell ⟨W0.heap.size, 1, none⟩ (.bool false)).setCell ⟨W0.heap.size, 2, none⟩ (.bool r)) := ⟨_, rfl⟩
    have NG : W1.heap[W0.heap.size]? = some (.cells #[.int .i64 k, .bool false, .bool r] 134 (0, 0)) := by rw [hW1]; exact heap_set (heap_set (heap_set HG.out 0 (.int .i64 k)) 1 (.bool false)) 2 (.bool r)
    have gw : Grew W0 W1 := by rw [hW1]; exact ((GX.out.set (Nat.le_refl _) _).set (Nat.le_refl _) _).set (Nat.le_refl _) _
    have hg : W0.heap.size ≤ W0.heap.size := Nat.le_refl _
    rw [← hW1]
    clear hW1 s0 t0 t1 t2 u0 u1 u2 v0 v1 v2 lg z0 z1 z2 y0 y1 y2 y3 GX HG
    revert NG hg
    generalize hgb : W0.heap.size = gb at *
    intro NG hg
    have NA := (gw.turn []).other HNA.out (by simp)
    have NF := (gw.turn []).other HNF.out (by simp)
    have z0 := cell_of NA 0
    have z1 := cell_of NA 1
    have z2 := cell_of NA 2
    have y3 := cell_of NF 3
    have g0 := cell_of NG 0
    have g1 := cell_of NG 1
    have g2 := cell_of NG 2
    simp at z0 z1 z2 y3 g0 g1 g2
    have lA1 := lt_of_obj NA
    have lF1 := lt_of_obj NF
    have lG1 := lt_of_obj NG
    have G1 : Hid (Grew X W1) := G0.out.trans gw
    clear NA NF NG gw HNA HNF CP
    cases r
    all_goals
      go_wp2_with fail
      go_ret
      exact ⟨_, rfl, by decide, G1.out.alloc _⟩
theorem against_100 (k : Int) (n h : Int) (z : Bool) (X : World) : Calls Tryz.prog 78 #[.agg #[.int .i64 k, .bool true, .bool false], .agg #[.int .i64 n, .bool z, .int .i64 h, .bool false]] X (ErQ X) := by
  have CP : Hid (∀ (n h : Int) (z : Bool) Y, Calls Tryz.prog 108 #[.agg #[.int .i64 n, .bool z, .int .i64 h]] Y (BoQ Y)) := fun n h z Y => packed_any n h z Y
  go_enter Tryz.func78, Tryz.ntmps78
  go_wp2_with fail
  obtain ⟨W0, hW0⟩ : ∃ W0, W0 = (X.alloc (.cells #[.int .i64 k, .bool true, .bool false] 134)).alloc (.cells #[.int .i64 n, .bool z, .int .i64 h, .bool false] 112) := ⟨_, rfl⟩
  have NA : W0.heap[X.heap.size]? = some (.cells #[.int .i64 k, .bool true, .bool false] 134 (0, 0)) := by rw [hW0]; exact heap_alloc (heap_alloc_last X _) _
  have NF : W0.heap[X.heap.size + 1]? = some (.cells #[.int .i64 n, .bool z, .int .i64 h, .bool false] 112 (0, 0)) := by
    rw [hW0]
    have := heap_alloc_last (X.alloc (.cells #[.int .i64 k, .bool true, .bool false] 134)) (.cells #[.int .i64 n, .bool z, .int .i64 h, .bool false] 112)
    rw [alloc_size] at this
    exact this
  have G0 : Hid (Grew X W0) := by rw [hW0]; exact ((Grew.refl X).alloc _).alloc _
  rw [← hW0]
  clear hW0
  have z0 := cell_of NA 0
  have z1 := cell_of NA 1
  have z2 := cell_of NA 2
  have y0 := cell_of NF 0
  have y1 := cell_of NF 1
  have y2 := cell_of NF 2
  have y3 := cell_of NF 3
  simp at z0 z1 z2 y0 y1 y2 y3
  have lA := lt_of_obj NA
  have lF := lt_of_obj NF
  have HNA := Hid.mk' NA
  have HNF := Hid.mk' NF
  have fA : W0.heap.size ≠ X.heap.size := by omega
  have fF : W0.heap.size ≠ X.heap.size + 1 := by omega
  clear NA NF
  go_region_held3 (fun Y => Y.cell? ⟨X.heap.size, 0, none⟩ = some (.int .i64 k) ∧ Y.cell? ⟨X.heap.size + 1, 0, none⟩ = some (.int .i64 n) ∧ Y.cell? ⟨X.heap.size + 1, 1, none⟩ = some (.bool z) ∧ Y.cell? ⟨X.heap.size + 1, 2, none⟩ = some (.int .i64 h)) (first | (go_keep) | (refine ⟨?_, ?_, ?_, ?_⟩ <;> (repeat rw [World.cell?_setCell_far _ _ _ _ (by first | exact fA | exact fF)]) <;> assumption)) (first
    | (with_reducible refine (CP.out _ _ _ _).mono ?_
       rintro en wn ⟨r, rfl, gn⟩
       have gx : Grew W0 wn := Grew.trans (by repeat (first | with_reducible exact .refl _ | refine .alloc ?_ _ | refine .drewN ?_ _ | refine .drew ?_)) gn
       have s0 := cell_grew z0 gx
       have t0 := cell_grew y0 gx
       have t1 := cell_grew y1 gx
       have t2 := cell_grew y2 gx
       first
         | (have hg := (gn.turn []).other (heap_alloc_last W0 (.cells #[.int .i64 0, .bool false, .bool false] 134)) (by simp)
            have u0 := cell_of hg 0
            have u1 := cell_of hg 1
            have u2 := cell_of hg 2
            simp at u0 u1 u2
            have v0 := free_of hg 0
            have v1 := free_of hg 1
            have v2 := free_of hg 2
            have lg := lt_of_obj hg
            have HG := Hid.mk' hg)
         | skip
       have GX := Hid.mk' gx
       clear gx gn)
    | fail)
  · obtain ⟨W1, hW1⟩ : ∃ W1, W1 = wn.alloc (.cells #[.int .i64 k, .bool false, .bool r] 134) := ⟨_, rfl⟩
    have NG : W1.heap[wn.heap.size]? = some (.cells #[.int .i64 k, .bool false, .bool r] 134 (0, 0)) := by rw [hW1]; exact heap_alloc_last _ _
    have gw : Grew W0 W1 := by rw [hW1]; exact GX.out.alloc _
    have hg : W0.heap.size ≤ wn.heap.size := GX.out.2
    generalize wn.heap.size = gb at *
    rw [← hW1]
    clear hW1 s0 t0 t1 t2 z0 z1 z2 y0 y1 y2 y3 GX
    have NA := (gw.turn []).other HNA.out (by simp)
    have NF := (gw.turn []).other HNF.out (by simp)
    have z0 := cell_of NA 0
    have z1 := cell_of NA 1
    have z2 := cell_of NA 2
    have y3 := cell_of NF 3
    have g0 := cell_of NG 0
    have g1 := cell_of NG 1
    have g2 := cell_of NG 2
    simp at z0 z1 z2 y3 g0 g1 g2
    have lA1 := lt_of_obj NA
    have lF1 := lt_of_obj NF
    have lG1 := lt_of_obj NG
    have G1 : Hid (Grew X W1) := G0.out.trans gw
    clear NA NF NG gw HNA HNF CP
    cases r
    all_goals
      go_wp2_with fail
      go_ret
      exact ⟨_, rfl, by decide, G1.out.alloc _⟩
  · obtain ⟨W1, hW1⟩ : ∃ W1, W1 = (((wn.setCell ⟨W0.heap.size, 0, none⟩ (.int .i64 k)).setCell ⟨W0.heap.size, 1, none⟩ (.bool false)).setCell ⟨W0.heap.size, 2, none⟩ (.bool r)) := ⟨_, rfl⟩
    have NG : W1.heap[W0.heap.size]? = some (.cells #[.int .i64 k, .bool false, .bool r] 134 (0, 0)) := by rw [hW1]; exact heap_set (heap_set (heap_set HG.out 0 (.int .i64 k)) 1 (.bool false)) 2 (.bool r)
    have gw : Grew W0 W1 := by rw [hW1]; exact ((GX.out.set (Nat.le_refl _) _).set (Nat.le_refl _) _).set (Nat.le_refl _) _
    have hg : W0.heap.size ≤ W0.heap.size := Nat.le_refl _
    rw [← hW1]
    clear hW1 s0 t0 t1 t2 u0 u1 u2 v0 v1 v2 lg z0 z1 z2 y0 y1 y2 y3 GX HG
    revert NG hg
    generalize hgb : W0.heap.size = gb at *
    intro NG hg
    have NA := (gw.turn []).other HNA.out (by simp)
    have NF := (gw.turn []).other HNF.out (by simp)
    have z0 := cell_of NA 0
    have z1 := cell_of NA 1
    have z2 := cell_of NA 2
    have y3 := cell_of NF 3
    have g0 := cell_of NG 0
    have g1 := cell_of NG 1
    have g2 := cell_of NG 2
    simp at z0 z1 z2 y3 g0 g1 g2
    have lA1 := lt_of_obj NA
    have lF1 := lt_of_obj NF
    have lG1 := lt_of_obj NG
    have G1 : Hid (Grew X W1) := G0.out.trans gw
    clear NA NF NG gw HNA HNF CP
    cases r
    all_goals
      go_wp2_with fail
      go_ret
      exact ⟨_, rfl, by decide, G1.out.alloc _⟩
theorem against_101 (k : Int) (n h : Int) (z : Bool) (X : World) : Calls Tryz.prog 78 #[.agg #[.int .i64 k, .bool true, .bool false], .agg #[.int .i64 n, .bool z, .int .i64 h, .bool true]] X (ErQ X) := by
  have CP : Hid (∀ (n h : Int) (z : Bool) Y, Calls Tryz.prog 108 #[.agg #[.int .i64 n, .bool z, .int .i64 h]] Y (BoQ Y)) := fun n h z Y => packed_any n h z Y
  go_enter Tryz.func78, Tryz.ntmps78
  go_wp2_with fail
  obtain ⟨W0, hW0⟩ : ∃ W0, W0 = (X.alloc (.cells #[.int .i64 k, .bool true, .bool false] 134)).alloc (.cells #[.int .i64 n, .bool z, .int .i64 h, .bool true] 112) := ⟨_, rfl⟩
  have NA : W0.heap[X.heap.size]? = some (.cells #[.int .i64 k, .bool true, .bool false] 134 (0, 0)) := by rw [hW0]; exact heap_alloc (heap_alloc_last X _) _
  have NF : W0.heap[X.heap.size + 1]? = some (.cells #[.int .i64 n, .bool z, .int .i64 h, .bool true] 112 (0, 0)) := by
    rw [hW0]
    have := heap_alloc_last (X.alloc (.cells #[.int .i64 k, .bool true, .bool false] 134)) (.cells #[.int .i64 n, .bool z, .int .i64 h, .bool true] 112)
    rw [alloc_size] at this
    exact this
  have G0 : Hid (Grew X W0) := by rw [hW0]; exact ((Grew.refl X).alloc _).alloc _
  rw [← hW0]
  clear hW0
  have z0 := cell_of NA 0
  have z1 := cell_of NA 1
  have z2 := cell_of NA 2
  have y0 := cell_of NF 0
  have y1 := cell_of NF 1
  have y2 := cell_of NF 2
  have y3 := cell_of NF 3
  simp at z0 z1 z2 y0 y1 y2 y3
  have lA := lt_of_obj NA
  have lF := lt_of_obj NF
  have HNA := Hid.mk' NA
  have HNF := Hid.mk' NF
  have fA : W0.heap.size ≠ X.heap.size := by omega
  have fF : W0.heap.size ≠ X.heap.size + 1 := by omega
  clear NA NF
  go_region_held3 (fun Y => Y.cell? ⟨X.heap.size, 0, none⟩ = some (.int .i64 k) ∧ Y.cell? ⟨X.heap.size + 1, 0, none⟩ = some (.int .i64 n) ∧ Y.cell? ⟨X.heap.size + 1, 1, none⟩ = some (.bool z) ∧ Y.cell? ⟨X.heap.size + 1, 2, none⟩ = some (.int .i64 h)) (first | (go_keep) | (refine ⟨?_, ?_, ?_, ?_⟩ <;> (repeat rw [World.cell?_setCell_far _ _ _ _ (by first | exact fA | exact fF)]) <;> assumption)) (first
    | (with_reducible refine (CP.out _ _ _ _).mono ?_
       rintro en wn ⟨r, rfl, gn⟩
       have gx : Grew W0 wn := Grew.trans (by repeat (first | with_reducible exact .refl _ | refine .alloc ?_ _ | refine .drewN ?_ _ | refine .drew ?_)) gn
       have s0 := cell_grew z0 gx
       have t0 := cell_grew y0 gx
       have t1 := cell_grew y1 gx
       have t2 := cell_grew y2 gx
       first
         | (have hg := (gn.turn []).other (heap_alloc_last W0 (.cells #[.int .i64 0, .bool false, .bool false] 134)) (by simp)
            have u0 := cell_of hg 0
            have u1 := cell_of hg 1
            have u2 := cell_of hg 2
            simp at u0 u1 u2
            have v0 := free_of hg 0
            have v1 := free_of hg 1
            have v2 := free_of hg 2
            have lg := lt_of_obj hg
            have HG := Hid.mk' hg)
         | skip
       have GX := Hid.mk' gx
       clear gx gn)
    | fail)
  · obtain ⟨W1, hW1⟩ : ∃ W1, W1 = wn.alloc (.cells #[.int .i64 k, .bool false, .bool r] 134) := ⟨_, rfl⟩
    have NG : W1.heap[wn.heap.size]? = some (.cells #[.int .i64 k, .bool false, .bool r] 134 (0, 0)) := by rw [hW1]; exact heap_alloc_last _ _
    have gw : Grew W0 W1 := by rw [hW1]; exact GX.out.alloc _
    have hg : W0.heap.size ≤ wn.heap.size := GX.out.2
    generalize wn.heap.size = gb at *
    rw [← hW1]
    clear hW1 s0 t0 t1 t2 z0 z1 z2 y0 y1 y2 y3 GX
    have NA := (gw.turn []).other HNA.out (by simp)
    have NF := (gw.turn []).other HNF.out (by simp)
    have z0 := cell_of NA 0
    have z1 := cell_of NA 1
    have z2 := cell_of NA 2
    have y3 := cell_of NF 3
    have g0 := cell_of NG 0
    have g1 := cell_of NG 1
    have g2 := cell_of NG 2
    simp at z0 z1 z2 y3 g0 g1 g2
    have lA1 := lt_of_obj NA
    have lF1 := lt_of_obj NF
    have lG1 := lt_of_obj NG
    have G1 : Hid (Grew X W1) := G0.out.trans gw
    clear NA NF NG gw HNA HNF CP
    cases r
    all_goals
      go_wp2_with fail
      go_ret
      exact ⟨_, rfl, by decide, G1.out.alloc _⟩
  · obtain ⟨W1, hW1⟩ : ∃ W1, W1 = (((wn.setCell ⟨W0.heap.size, 0, none⟩ (.int .i64 k)).setCell ⟨W0.heap.size, 1, none⟩ (.bool false)).setCell ⟨W0.heap.size, 2, none⟩ (.bool r)) := ⟨_, rfl⟩
    have NG : W1.heap[W0.heap.size]? = some (.cells #[.int .i64 k, .bool false, .bool r] 134 (0, 0)) := by rw [hW1]; exact heap_set (heap_set (heap_set HG.out 0 (.int .i64 k)) 1 (.bool false)) 2 (.bool r)
    have gw : Grew W0 W1 := by rw [hW1]; exact ((GX.out.set (Nat.le_refl _) _).set (Nat.le_refl _) _).set (Nat.le_refl _) _
    have hg : W0.heap.size ≤ W0.heap.size := Nat.le_refl _
    rw [← hW1]
    clear hW1 s0 t0 t1 t2 u0 u1 u2 v0 v1 v2 lg z0 z1 z2 y0 y1 y2 y3 GX HG
    revert NG hg
    generalize hgb : W0.heap.size = gb at *
    intro NG hg
    have NA := (gw.turn []).other HNA.out (by simp)
    have NF := (gw.turn []).other HNF.out (by simp)
    have z0 := cell_of NA 0
    have z1 := cell_of NA 1
    have z2 := cell_of NA 2
    have y3 := cell_of NF 3
    have g0 := cell_of NG 0
    have g1 := cell_of NG 1
    have g2 := cell_of NG 2
    simp at z0 z1 z2 y3 g0 g1 g2
    have lA1 := lt_of_obj NA
    have lF1 := lt_of_obj NF
    have lG1 := lt_of_obj NG
    have G1 : Hid (Grew X W1) := G0.out.trans gw
    clear NA NF NG gw HNA HNF CP
    cases r
    all_goals
      go_wp2_with fail
      go_ret
      exact ⟨_, rfl, by decide, G1.out.alloc _⟩
theorem against_110 (k : Int) (n h : Int) (z : Bool) (X : World) : Calls Tryz.prog 78 #[.agg #[.int .i64 k, .bool true, .bool true], .agg #[.int .i64 n, .bool z, .int .i64 h, .bool false]] X (ErQ X) := by
  have CP : Hid (∀ (n h : Int) (z : Bool) Y, Calls Tryz.prog 108 #[.agg #[.int .i64 n, .bool z, .int .i64 h]] Y (BoQ Y)) := fun n h z Y => packed_any n h z Y
  go_enter Tryz.func78, Tryz.ntmps78
  go_wp2_with fail
  obtain ⟨W0, hW0⟩ : ∃ W0, W0 = (X.alloc (.cells #[.int .i64 k, .bool true, .bool true] 134)).alloc (.cells #[.int .i64 n, .bool z, .int .i64 h, .bool false] 112) := ⟨_, rfl⟩
  have NA : W0.heap[X.heap.size]? = some (.cells #[.int .i64 k, .bool true, .bool true] 134 (0, 0)) := by rw [hW0]; exact heap_alloc (heap_alloc_last X _) _
  have NF : W0.heap[X.heap.size + 1]? = some (.cells #[.int .i64 n, .bool z, .int .i64 h, .bool false] 112 (0, 0)) := by
    rw [hW0]
    have := heap_alloc_last (X.alloc (.cells #[.int .i64 k, .bool true, .bool true] 134)) (.cells #[.int .i64 n, .bool z, .int .i64 h, .bool false] 112)
    rw [alloc_size] at this
    exact this
  have G0 : Hid (Grew X W0) := by rw [hW0]; exact ((Grew.refl X).alloc _).alloc _
  rw [← hW0]
  clear hW0
  have z0 := cell_of NA 0
  have z1 := cell_of NA 1
  have z2 := cell_of NA 2
  have y0 := cell_of NF 0
  have y1 := cell_of NF 1
  have y2 := cell_of NF 2
  have y3 := cell_of NF 3
  simp at z0 z1 z2 y0 y1 y2 y3
  have lA := lt_of_obj NA
  have lF := lt_of_obj NF
  have HNA := Hid.mk' NA
  have HNF := Hid.mk' NF
  have fA : W0.heap.size ≠ X.heap.size := by omega
  have fF : W0.heap.size ≠ X.heap.size + 1 := by omega
  clear NA NF
  go_region_held3 (fun Y => Y.cell? ⟨X.heap.size, 0, none⟩ = some (.int .i64 k) ∧ Y.cell? ⟨X.heap.size + 1, 0, none⟩ = some (.int .i64 n) ∧ Y.cell? ⟨X.heap.size + 1, 1, none⟩ = some (.bool z) ∧ Y.cell? ⟨X.heap.size + 1, 2, none⟩ = some (.int .i64 h)) (first | (go_keep) | (refine ⟨?_, ?_, ?_, ?_⟩ <;> (repeat rw [World.cell?_setCell_far _ _ _ _ (by first | exact fA | exact fF)]) <;> assumption)) (first
    | (with_reducible refine (CP.out _ _ _ _).mono ?_
       rintro en wn ⟨r, rfl, gn⟩
       have gx : Grew W0 wn := Grew.trans (by repeat (first | with_reducible exact .refl _ | refine .alloc ?_ _ | refine .drewN ?_ _ | refine .drew ?_)) gn
       have s0 := cell_grew z0 gx
       have t0 := cell_grew y0 gx
       have t1 := cell_grew y1 gx
       have t2 := cell_grew y2 gx
       first
         | (have hg := (gn.turn []).other (heap_alloc_last W0 (.cells #[.int .i64 0, .bool false, .bool false] 134)) (by simp)
            have u0 := cell_of hg 0
            have u1 := cell_of hg 1
            have u2 := cell_of hg 2
            simp at u0 u1 u2
            have v0 := free_of hg 0
            have v1 := free_of hg 1
            have v2 := free_of hg 2
            have lg := lt_of_obj hg
            have HG := Hid.mk' hg)
         | skip
       have GX := Hid.mk' gx
       clear gx gn)
    | fail)
  · obtain ⟨W1, hW1⟩ : ∃ W1, W1 = wn.alloc (.cells #[.int .i64 k, .bool false, .bool r] 134) := ⟨_, rfl⟩
    have NG : W1.heap[wn.heap.size]? = some (.cells #[.int .i64 k, .bool false, .bool r] 134 (0, 0)) := by rw [hW1]; exact heap_alloc_last _ _
    have gw : Grew W0 W1 := by rw [hW1]; exact GX.out.alloc _
    have hg : W0.heap.size ≤ wn.heap.size := GX.out.2
    generalize wn.heap.size = gb at *
    rw [← hW1]
    clear hW1 s0 t0 t1 t2 z0 z1 z2 y0 y1 y2 y3 GX
    have NA := (gw.turn []).other HNA.out (by simp)
    have NF := (gw.turn []).other HNF.out (by simp)
    have z0 := cell_of NA 0
    have z1 := cell_of NA 1
    have z2 := cell_of NA 2
    have y3 := cell_of NF 3
    have g0 := cell_of NG 0
    have g1 := cell_of NG 1
    have g2 := cell_of NG 2
    simp at z0 z1 z2 y3 g0 g1 g2
    have lA1 := lt_of_obj NA
    have lF1 := lt_of_obj NF
    have lG1 := lt_of_obj NG
    have G1 : Hid (Grew X W1) := G0.out.trans gw
    clear NA NF NG gw HNA HNF CP
    cases r
    all_goals
      go_wp2_with fail
      go_ret
      exact ⟨_, rfl, by decide, G1.out.alloc _⟩
  · obtain ⟨W1, hW1⟩ : ∃ W1, W1 = (((wn.setCell ⟨W0.heap.size, 0, none⟩ (.int .i64 k)).setCell ⟨W0.heap.size, 1, none⟩ (.bool false)).setCell ⟨W0.heap.size, 2, none⟩ (.bool r)) := ⟨_, rfl⟩
    have NG : W1.heap[W0.heap.size]? = some (.cells #[.int .i64 k, .bool false, .bool r] 134 (0, 0)) := by rw [hW1]; exact heap_set (heap_set (heap_set HG.out 0 (.int .i64 k)) 1 (.bool false)) 2 (.bool r)
    have gw : Grew W0 W1 := by rw [hW1]; exact ((GX.out.set (Nat.le_refl _) _).set (Nat.le_refl _) _).set (Nat.le_refl _) _
    have hg : W0.heap.size ≤ W0.heap.size := Nat.le_refl _
    rw [← hW1]
    clear hW1 s0 t0 t1 t2 u0 u1 u2 v0 v1 v2 lg z0 z1 z2 y0 y1 y2 y3 GX HG
    revert NG hg
    generalize hgb : W0.heap.size = gb at *
    intro NG hg
    have NA := (gw.turn []).other HNA.out (by simp)
    have NF := (gw.turn []).other HNF.out (by simp)
    have z0 := cell_of NA 0
    have z1 := cell_of NA 1
    have z2 := cell_of NA 2
    have y3 := cell_of NF 3
    have g0 := cell_of NG 0
    have g1 := cell_of NG 1
    have g2 := cell_of NG 2
    simp at z0 z1 z2 y3 g0 g1 g2
    have lA1 := lt_of_obj NA
    have lF1 := lt_of_obj NF
    have lG1 := lt_of_obj NG
    have G1 : Hid (Grew X W1) := G0.out.trans gw
    clear NA NF NG gw HNA HNF CP
    cases r
    all_goals
      go_wp2_with fail
      go_ret
      exact ⟨_, rfl, by decide, G1.out.alloc _⟩
theorem against_111 (k : Int) (n h : Int) (z : Bool) (X : World) : Calls Tryz.prog 78 #[.agg #[.int .i64 k, .bool true, .bool true], .agg #[.int .i64 n, .bool z, .int .i64 h, .bool true]] X (ErQ X) := by
  have CP : Hid (∀ (n h : Int) (z : Bool) Y, Calls Tryz.prog 108 #[.agg #[.int .i64 n, .bool z, .int .i64 h]] Y (BoQ Y)) := fun n h z Y => packed_any n h z Y
  go_enter Tryz.func78, Tryz.ntmps78
  go_wp2_with fail
  obtain ⟨W0, hW0⟩ : ∃ W0, W0 = (X.alloc (.cells #[.int .i64 k, .bool true, .bool true] 134)).alloc (.cells #[.int .i64 n, .bool z, .int .i64 h, .bool true] 112) := ⟨_, rfl⟩
  have NA : W0.heap[X.heap.size]? = some (.cells #[.int .i64 k, .bool true, .bool true] 134 (0, 0)) := by rw [hW0]; exact heap_alloc (heap_alloc_last X _) _
  have NF : W0.heap[X.heap.size + 1]? = some (.cells #[.int .i64 n, .bool z, .int .i64 h, .bool true] 112 (0, 0)) := by
    rw [hW0]
    have := heap_alloc_last (X.alloc (.cells #[.int .i64 k, .bool true, .bool true] 134)) (.cells #[.int .i64 n, .bool z, .int .i64 h, .bool true] 112)
    rw [alloc_size] at this
    exact this
  have G0 : Hid (Grew X W0) := by rw [hW0]; exact ((Grew.refl X).alloc _).alloc _
  rw [← hW0]
  clear hW0
  have z0 := cell_of NA 0
  have z1 := cell_of NA 1
  have z2 := cell_of NA 2
  have y0 := cell_of NF 0
  have y1 := cell_of NF 1
  have y2 := cell_of NF 2
  have y3 := cell_of NF 3
  simp at z0 z1 z2 y0 y1 y2 y3
  have lA := lt_of_obj NA
  have lF := lt_of_obj NF
  have HNA := Hid.mk' NA
  have HNF := Hid.mk' NF
  have fA : W0.heap.size ≠ X.heap.size := by omega
  have fF : W0.heap.size ≠ X.heap.size + 1 := by omega
  clear NA NF
  go_region_held3 (fun Y => Y.cell? ⟨X.heap.size, 0, none⟩ = some (.int .i64 k) ∧ Y.cell? ⟨X.heap.size + 1, 0, none⟩ = some (.int .i64 n) ∧ Y.cell? ⟨X.heap.size + 1, 1, none⟩ = some (.bool z) ∧ Y.cell? ⟨X.heap.size + 1, 2, none⟩ = some (.int .i64 h)) (first | (go_keep) | (refine ⟨?_, ?_, ?_, ?_⟩ <;> (repeat rw [World.cell?_setCell_far _ _ _ _ (by first | exact fA | exact fF)]) <;> assumption)) (first
    | (with_reducible refine (CP.out _ _ _ _).mono ?_
       rintro en wn ⟨r, rfl, gn⟩
       have gx : Grew W0 wn := Grew.trans (by repeat (first | with_reducible exact .refl _ | refine .alloc ?_ _ | refine .drewN ?_ _ | refine .drew ?_)) gn
       have s0 := cell_grew z0 gx
       have t0 := cell_grew y0 gx
       have t1 := cell_grew y1 gx
       have t2 := cell_grew y2 gx
       first
         | (have hg := (gn.turn []).other (heap_alloc_last W0 (.cells #[.int .i64 0, .bool false, .bool false] 134)) (by simp)
            have u0 := cell_of hg 0
            have u1 := cell_of hg 1
            have u2 := cell_of hg 2
            simp at u0 u1 u2
            have v0 := free_of hg 0
            have v1 := free_of hg 1
            have v2 := free_of hg 2
            have lg := lt_of_obj hg
            have HG := Hid.mk' hg)
         | skip
       have GX := Hid.mk' gx
       clear gx gn)
    | fail)
  · obtain ⟨W1, hW1⟩ : ∃ W1, W1 = wn.alloc (.cells #[.int .i64 k, .bool false, .bool r] 134) := ⟨_, rfl⟩
    have NG : W1.heap[wn.heap.size]? = some (.cells #[.int .i64 k, .bool false, .bool r] 134 (0, 0)) := by rw [hW1]; exact heap_alloc_last _ _
    have gw : Grew W0 W1 := by rw [hW1]; exact GX.out.alloc _
    have hg : W0.heap.size ≤ wn.heap.size := GX.out.2
    generalize wn.heap.size = gb at *
    rw [← hW1]
    clear hW1 s0 t0 t1 t2 z0 z1 z2 y0 y1 y2 y3 GX
    have NA := (gw.turn []).other HNA.out (by simp)
    have NF := (gw.turn []).other HNF.out (by simp)
    have z0 := cell_of NA 0
    have z1 := cell_of NA 1
    have z2 := cell_of NA 2
    have y3 := cell_of NF 3
    have g0 := cell_of NG 0
    have g1 := cell_of NG 1
    have g2 := cell_of NG 2
    simp at z0 z1 z2 y3 g0 g1 g2
    have lA1 := lt_of_obj NA
    have lF1 := lt_of_obj NF
    have lG1 := lt_of_obj NG
    have G1 : Hid (Grew X W1) := G0.out.trans gw
    clear NA NF NG gw HNA HNF CP
    cases r
    all_goals
      go_wp2_with fail
      go_ret
      exact ⟨_, rfl, by decide, G1.out.alloc _⟩
  · obtain ⟨W1, hW1⟩ : ∃ W1, W1 = (((wn.setCell ⟨W0.heap.size, 0, none⟩ (.int .i64 k)).setCell ⟨W0.heap.size, 1, none⟩ (.bool false)).setCell ⟨W0.heap.size, 2, none⟩ (.bool r)) := ⟨_, rfl⟩
    have NG : W1.heap[W0.heap.size]? = some (.cells #[.int .i64 k, .bool false, .bool r] 134 (0, 0)) := by rw [hW1]; exact heap_set (heap_set (heap_set HG.out 0 (.int .i64 k)) 1 (.bool false)) 2 (.bool r)
    have gw : Grew W0 W1 := by rw [hW1]; exact ((GX.out.set (Nat.le_refl _) _).set (Nat.le_refl _) _).set (Nat.le_refl _) _
    have hg : W0.heap.size ≤ W0.heap.size := Nat.le_refl _
    rw [← hW1]
    clear hW1 s0 t0 t1 t2 u0 u1 u2 v0 v1 v2 lg z0 z1 z2 y0 y1 y2 y3 GX HG
    revert NG hg
    generalize hgb : W0.heap.size = gb at *
    intro NG hg
    have NA := (gw.turn []).other HNA.out (by simp)
    have NF := (gw.turn []).other HNF.out (by simp)
    have z0 := cell_of NA 0
    have z1 := cell_of NA 1
    have z2 := cell_of NA 2
    have y3 := cell_of NF 3
    have g0 := cell_of NG 0
    have g1 := cell_of NG 1
    have g2 := cell_of NG 2
    simp at z0 z1 z2 y3 g0 g1 g2
    have lA1 := lt_of_obj NA
    have lF1 := lt_of_obj NF
    have lG1 := lt_of_obj NG
    have G1 : Hid (Grew X W1) := G0.out.trans gw
    clear NA NF NG gw HNA HNF CP
    cases r
    all_goals
      go_wp2_with fail
      go_ret
      exact ⟨_, rfl, by decide, G1.out.alloc _⟩
theorem against_any (k : Int) (s pk : Bool) (n h : Int) (z m : Bool) (X : World) : Calls Tryz.prog 78 #[.agg #[.int .i64 k, .bool s, .bool pk], .agg #[.int .i64 n, .bool z, .int .i64 h, .bool m]] X (ErQ X) := by
  cases s <;> cases pk <;> cases m
  · exact against_000 k n h z X
  · exact against_001 k n h z X
  · exact against_010 k n h z X
  · exact against_011 k n h z X
  · exact against_100 k n h z X
  · exact against_101 k n h z X
  · exact against_110 k n h z X
  · exact against_111 k n h z X
end Go.Proofs.YtnmbniojejckpaaGreatDoor
