/-
  The walk of EntryRest; no statement is proved here.
-/
import Derived.Test.YtemaeigfhmnapaaGreatDoorDTpA
import Derived.Test.YtemaeigfhmnapaaGreatDoorDTpE
import Derived.Test.YtemaeigfhmnapaaGreatDoorDTpI
import Derived.Test.YtemaeigfhmnapaaGreatDoorTpA
import Derived.Test.YtemaeigfhmnapaaGreatDoorAwk
namespace Go.Proofs.YtemaeigfhmnapaaGreatDoor
open Go.RowKit
set_option linter.unusedVariables false
set_option linter.unusedSimpArgs false
set_option linter.constructorNameAsVariable false

theorem neqL (ln lx : Int) (lw lh : Bool) (W : World) : (binOp .neq 25 (.agg #[.bool lw, .int .u64 ln, .int .u64 lx, .bool lh]) (.agg #[.bool lw, .int .u64 ln, .int .u64 lx, .bool lh])).run Tryz.prog W = .ok (.bool false) W := by
  simp [go_sem]
theorem neqT (tn th tp tq : Int) (tb tw tm : Bool) (W : World) : (binOp .neq 34 (.agg #[.int .i64 tn, .bool tb, .int .i64 th, .bool tw, .int .u64 tp, .int .u64 tq, .bool tm]) (.agg #[.int .i64 tn, .bool tb, .int .i64 th, .bool tw, .int .u64 tp, .int .u64 tq, .bool tm])).run Tryz.prog W = .ok (.bool false) W := by
  simp [go_sem]
theorem neqG (gn gh : Int) (gb gm : Bool) (W : World) : (binOp .neq 40 (.agg #[.int .i64 gn, .bool gb, .int .i64 gh, .bool gm]) (.agg #[.int .i64 gn, .bool gb, .int .i64 gh, .bool gm])).run Tryz.prog W = .ok (.bool false) W := by
  simp [go_sem]
theorem eqlE (en_ : ByteArray) (ek ea : Int) (W : World) : (binOp .eql 59 (.agg #[.string en_, .int .i64 ek, .int .u32 ea]) (.agg #[.string en_, .int .i64 ek, .int .u32 ea])).run Tryz.prog W = .ok (.bool true) W := by
  simp [go_sem]
set_option maxHeartbeats 2000000 in
theorem neqI (x : IM) (W : World) : (binOp .neq 52 (.agg x.c) (.agg x.c)).run Tryz.prog W = .ok (.bool false) W := by
  unfold IM.c
  simp [go_sem]
set_option maxRecDepth 100000 in
set_option maxHeartbeats 8000000 in
theorem rest_any (v : Value) (l : List Int) (x : Int) (w : World) (hR : Reads w v l) (hB : Byt l) (hl : l.length ≤ 140737488351232) (hT : Tab w) :
    Calls Tryz.prog 3 #[v, .int .i64 x] w fun en w' => en = .returned (.bool true) ∧ Grew w w' := by
  have CLm : Hid (∀ w1, Grew w w1 → Calls Tryz.prog 4 #[v, .int .i64 x] w1 fun en w' => en = .returned (ansLm (topR (limsR l) L0 l x)) ∧ Grew w1 w') := fun w1 g => topLm_any v l x w1 (g.reads hR) hB hl (hT.grew g)
  have DLm : Hid (∀ w1, Grew w w1 → Calls Tryz.prog 5 #[v, .int .i64 x] w1 fun en w' => en = .returned (ansLm (topR (limsR l) L0 l x)) ∧ Grew w1 w') := fun w1 g => dtopLm_any v l x w1 (g.reads hR) hB hl
  have CTt : Hid (∀ w1, Grew w w1 → Calls Tryz.prog 6 #[v, .int .i64 x] w1 fun en w' => en = .returned (ansTt (topR (tabR l) T0_ l x)) ∧ Grew w1 w') := fun w1 g => topTt_any v l x w1 (g.reads hR) hB hl (hT.grew g)
  have DTt : Hid (∀ w1, Grew w w1 → Calls Tryz.prog 7 #[v, .int .i64 x] w1 fun en w' => en = .returned (ansTt (topR (tabR l) T0_ l x)) ∧ Grew w1 w') := fun w1 g => dtopTt_any v l x w1 (g.reads hR) hB hl
  have CGt : Hid (∀ w1, Grew w w1 → Calls Tryz.prog 8 #[v, .int .i64 x] w1 fun en w' => en = .returned (ansGt (topR (gloR l) G0_ l x)) ∧ Grew w1 w') := fun w1 g => topGt_any v l x w1 (g.reads hR) hB hl (hT.grew g)
  have DGt : Hid (∀ w1, Grew w w1 → Calls Tryz.prog 9 #[v, .int .i64 x] w1 fun en w' => en = .returned (ansGt (topR (gloR l) G0_ l x)) ∧ Grew w1 w') := fun w1 g => dtopGt_any v l x w1 (g.reads hR) hB hl
  have CTa : Hid (∀ w1, Grew w w1 → Calls Tryz.prog 10 #[v, .int .i64 x] w1 fun en w' => en = .returned (ansTa (topR (tagR l) 0 l x)) ∧ Grew w1 w') := fun w1 g => topTa_any v l x w1 (g.reads hR) hB hl (hT.grew g)
  have DTa : Hid (∀ w1, Grew w w1 → Calls Tryz.prog 11 #[v, .int .i64 x] w1 fun en w' => en = .returned (ansTa (topR (tagR l) 0 l x)) ∧ Grew w1 w') := fun w1 g => dtopTa_any v l x w1 (g.reads hR) hB hl
  have CIm : Hid (∀ w1, Grew w w1 → Calls Tryz.prog 12 #[v, .int .i64 x] w1 fun en w' => en = .returned (ansIm (topR (impR l) I0 l x)) ∧ Grew w1 w') := fun w1 g => topIm_any v l x w1 (g.reads hR) hB hl (hT.grew g)
  have DIm : Hid (∀ w1, Grew w w1 → Calls Tryz.prog 13 #[v, .int .i64 x] w1 fun en w' => en = .returned (ansIm (topR (impR l) I0 l x)) ∧ Grew w1 w') := fun w1 g => dtopIm_any v l x w1 (g.reads hR) hB hl
  have CEp : Hid (∀ w1, Grew w w1 → Calls Tryz.prog 14 #[v, .int .i64 x] w1 fun en w' => en = .returned (ansEp (topR (expR l) E0_ l x)) ∧ Grew w1 w') := fun w1 g => topEp_any v l x w1 (g.reads hR) hB hl (hT.grew g)
  have DEp : Hid (∀ w1, Grew w w1 → Calls Tryz.prog 15 #[v, .int .i64 x] w1 fun en w' => en = .returned (ansEp (topR (expR l) E0_ l x)) ∧ Grew w1 w') := fun w1 g => dtopEp_any v l x w1 (g.reads hR) hB hl
  have AW : Hid (∀ w1, Grew w w1 → Calls Tryz.prog 16 #[] w1 fun en w' => en = .returned (.bool true) ∧ Grew w1 w') := fun w1 g => awake_any w1 (hT.grew g)
  obtain ⟨sa, cap, rfl⟩ := hR.len
  clear hR hB hT
  generalize topR (limsR l) L0 l x = XLm at *
  generalize topR (tabR l) T0_ l x = XTt at *
  generalize topR (gloR l) G0_ l x = XGt at *
  generalize topR (tagR l) 0 l x = XTa at *
  generalize topR (impR l) I0 l x = XIm at *
  generalize topR (expR l) E0_ l x = XEp at *
  obtain ⟨⟨lw, ln, lx, lh⟩, pl, el⟩ := XLm
  obtain ⟨⟨⟨tn, tb, th⟩, ⟨tw, tp, tq, tm⟩⟩, pt, et⟩ := XTt
  obtain ⟨⟨⟨gn, gb, gh⟩, gm⟩, pg, eg⟩ := XGt
  obtain ⟨ta, pa, ea_⟩ := XTa
  obtain ⟨xx, pi, ei⟩ := XIm
  obtain ⟨⟨na, ek, ea⟩, pe, ee⟩ := XEp
  unfold ansLm LM.v at CLm DLm
  unfold ansTt TT.v at CTt DTt
  unfold ansGt GT.v at CGt DGt
  unfold ansTa at CTa DTa
  unfold ansIm at CIm DIm
  unfold ansEp EP.v at CEp DEp
  simp only at CLm DLm CTt DTt CGt DGt CTa DTa CIm DIm CEp DEp
  rw [show IM.v xx = .agg xx.c from rfl] at CIm DIm
  generalize strOfNums na = en_ at *
  have nL := neqL
  have nT := neqT
  have nG := neqG
  have nI := neqI
  have nE := eqlE
  have G0 : Hid (Grew w w) := Grew.refl w
  go_enter Tryz.func3, Tryz.ntmps3
  go_wp2_with fail
  refine (CLm.out _ G0.out).mono ?_
  rintro en w1 ⟨rfl, g1⟩
  have G1 : Hid (Grew w w1) := G0.out.trans g1
  clear g1 CLm G0
  go_wp2_with fail
  refine (DLm.out _ (G1.out.alloc _)).mono ?_
  rintro en w2 ⟨rfl, g2⟩
  have V2 := (g2.turn []).other (heap_alloc_last _ _) (by simp)
  have G2 : Hid (Grew w w2) := (G1.out.alloc _).trans g2
  have l2 : w1.heap.size < w2.heap.size := lt_of_obj V2
  have hne2 : ¬ w1.heap.size = w2.heap.size := by omega
  have a0 := cell_of V2 0
  have a1 := cell_of V2 1
  have a2 := cell_of V2 2
  have a3 := cell_of V2 3
  simp at a0 a1 a2 a3
  clear g2 DLm G1 V2
  go_wp2_with fail
  generalize hw3 : w2.alloc (.cells #[.bool lw, .int .u64 ln, .int .u64 lx, .bool lh] 25) = w3
  have G3 : Hid (Grew w w3) := by rw [← hw3]; exact G2.out.alloc _
  clear hw3 G2 l2 hne2 a0 a1 a2 a3
  refine (CTt.out _ G3.out).mono ?_
  rintro en w4 ⟨rfl, g4⟩
  have G4 : Hid (Grew w w4) := G3.out.trans g4
  clear g4 CTt G3
  go_wp2_with fail
  refine (DTt.out _ (G4.out.alloc _)).mono ?_
  rintro en w5 ⟨rfl, g5⟩
  have V5 := (g5.turn []).other (heap_alloc_last _ _) (by simp)
  have G5 : Hid (Grew w w5) := (G4.out.alloc _).trans g5
  have l5 : w4.heap.size < w5.heap.size := lt_of_obj V5
  have hne5 : ¬ w4.heap.size = w5.heap.size := by omega
  have a0 := cell_of V5 0
  have a1 := cell_of V5 1
  have a2 := cell_of V5 2
  have a3 := cell_of V5 3
  have a4 := cell_of V5 4
  have a5 := cell_of V5 5
  have a6 := cell_of V5 6
  simp at a0 a1 a2 a3 a4 a5 a6
  clear g5 DTt G4 V5
  go_wp2_with fail
  generalize hw6 : w5.alloc (.cells #[.int .i64 tn, .bool tb, .int .i64 th, .bool tw, .int .u64 tp, .int .u64 tq, .bool tm] 34) = w6
  have G6 : Hid (Grew w w6) := by rw [← hw6]; exact G5.out.alloc _
  clear hw6 G5 l5 hne5 a0 a1 a2 a3 a4 a5 a6
  refine (CGt.out _ G6.out).mono ?_
  rintro en w7 ⟨rfl, g7⟩
  have G7 : Hid (Grew w w7) := G6.out.trans g7
  clear g7 CGt G6
  go_wp2_with fail
  refine (DGt.out _ (G7.out.alloc _)).mono ?_
  rintro en w8 ⟨rfl, g8⟩
  have V8 := (g8.turn []).other (heap_alloc_last _ _) (by simp)
  have G8 : Hid (Grew w w8) := (G7.out.alloc _).trans g8
  have l8 : w7.heap.size < w8.heap.size := lt_of_obj V8
  have hne8 : ¬ w7.heap.size = w8.heap.size := by omega
  have a0 := cell_of V8 0
  have a1 := cell_of V8 1
  have a2 := cell_of V8 2
  have a3 := cell_of V8 3
  simp at a0 a1 a2 a3
  clear g8 DGt G7 V8
  go_wp2_with fail
  generalize hw9 : w8.alloc (.cells #[.int .i64 gn, .bool gb, .int .i64 gh, .bool gm] 40) = w9
  have G9 : Hid (Grew w w9) := by rw [← hw9]; exact G8.out.alloc _
  clear hw9 G8 l8 hne8 a0 a1 a2 a3
  refine (CTa.out _ G9.out).mono ?_
  rintro en w10 ⟨rfl, g10⟩
  have G10 : Hid (Grew w w10) := G9.out.trans g10
  clear g10 CTa G9
  go_wp2_with fail
  refine (DTa.out _ G10.out).mono ?_
  rintro en w11 ⟨rfl, g11⟩
  have G11 : Hid (Grew w w11) := G10.out.trans g11
  clear g11 DTa G10
  go_wp2_with fail
  refine (CIm.out _ G11.out).mono ?_
  rintro en w12 ⟨rfl, g12⟩
  have G12 : Hid (Grew w w12) := G11.out.trans g12
  clear g12 CIm G11
  go_wp2_with (first
    | with_reducible refine stop_store 52 rfl ?_
    | fail)
  unfold Stop
  refine wpList_store_last rfl 52 _ _ rfl xx.c rfl rfl _ (IM.sz xx) rfl (IM.one xx) ?_
  go_wp2_with fail
  refine (DIm.out _ (G12.out.alloc _)).mono ?_
  rintro en w13 ⟨rfl, g13⟩
  have V13 : Hid (w13.heap[w12.heap.size]? = some (.cells xx.c 52 (0, 0))) := (g13.turn []).other (heap_alloc_last _ _) (by simp)
  have G13 : Hid (Grew w w13) := (G12.out.alloc _).trans g13
  clear g13 DIm G12
  go_wp2_with (first
    | with_reducible refine stop_store 52 rfl ?_
    | fail)
  unfold Stop
  refine wpList_store_last rfl 52 _ _ rfl xx.c rfl rfl _ (IM.sz xx) rfl (IM.one xx) ?_
  go_wp2_with (first
    | with_reducible refine stop_load 52 rfl ?_
    | fail)
  generalize hw14 : w13.alloc (.cells xx.c 52) = w14
  have G14 : Hid (Grew w w14) := by rw [← hw14]; exact G13.out.alloc _
  have V14 : Hid (w14.heap[w12.heap.size]? = some (.cells xx.c 52 (0, 0))) := by rw [← hw14]; exact heap_alloc V13.out _
  have Z14 : Hid (w14.heap[w13.heap.size]? = some (.cells xx.c 52 (0, 0))) := by rw [← hw14]; exact heap_alloc_last _ _
  clear hw14 V13 G13
  unfold Stop
  refine wpList_load_row rfl 52 _ rfl w12.heap.size rfl 52 xx.c (0, 0) _ V14.out Tryz.underlying52 rfl (IM.sz xx) ?_
  go_wp2_with (first
    | with_reducible refine stop_load 52 rfl ?_
    | fail)
  unfold Stop
  refine wpList_load_row rfl 52 _ rfl w13.heap.size rfl 52 xx.c (0, 0) _ Z14.out Tryz.underlying52 rfl (IM.sz xx) ?_
  clear V14 Z14
  go_wp2_with fail
  refine (CEp.out _ G14.out).mono ?_
  rintro en w15 ⟨rfl, g15⟩
  have G15 : Hid (Grew w w15) := G14.out.trans g15
  clear g15 CEp G14
  go_wp2_with fail
  refine (DEp.out _ (G15.out.alloc _)).mono ?_
  rintro en w16 ⟨rfl, g16⟩
  have V16 := (g16.turn []).other (heap_alloc_last _ _) (by simp)
  have G16 : Hid (Grew w w16) := (G15.out.alloc _).trans g16
  have l16 : w15.heap.size < w16.heap.size := lt_of_obj V16
  have hne16 : ¬ w15.heap.size = w16.heap.size := by omega
  have a0 := cell_of V16 0
  have a1 := cell_of V16 1
  have a2 := cell_of V16 2
  simp at a0 a1 a2
  clear g16 DEp G15 V16
  go_wp2_with fail
  refine (AW.out _ (G16.out.alloc _)).mono ?_
  rintro en w99 ⟨rfl, g99⟩
  have G99 : Hid (Grew w w99) := (G16.out.alloc _).trans g99
  clear g99
  go_wp2_with fail
  go_ret
  exact ⟨rfl, G99.out⟩
end Go.Proofs.YtemaeigfhmnapaaGreatDoor
