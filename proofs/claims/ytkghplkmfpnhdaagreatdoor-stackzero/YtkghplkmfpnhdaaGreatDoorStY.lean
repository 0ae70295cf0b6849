/-
  The law StackZero walked; the statement itself is in the text SZero.
-/
import Derived.Test.YtkghplkmfpnhdaaGreatDoorStZ
namespace Go.Proofs.YtkghplkmfpnhdaaGreatDoor
open Go.RowKit
set_option linter.unusedVariables false
set_option linter.unusedSimpArgs false

set_option maxRecDepth 100000 in
set_option maxHeartbeats 2000000 in
theorem stackZero_any {w : World} {tn th : Int} {tz : Bool} {n : Int} :
    Calls Tryz.prog 5 #[.agg #[.int .i64 tn, .bool tz, .int .i64 th], .int .u32 n] w fun en w' => en = .returned (.bool true) ∧ Grew w w' := by
  go_enter Tryz.func5, Tryz.ntmps5
  go_wp2_with fail
  obtain ⟨w0, hw0⟩ : ∃ w0, w0 = (w.alloc (.cells #[.int .i64 tn, .bool tz, .int .i64 th] 44)).alloc (.cells #[.bool false, NILS, NILS, NILS, NILS, NILS, NILS] 60) := ⟨_, rfl⟩
  have g0 : Grew w w0 := by rw [hw0]; exact ((Grew.refl w).alloc _).alloc _
  obtain ⟨_, lv, v0, v1, v2, _, _, _⟩ := fresh3 (w := w) (w1 := w0) (a := .int .i64 tn) (b := .bool tz) (c := .int .i64 th) (t := 44) (by rw [hw0]; exact (Grew.refl _).alloc _)
  have UZ : Hid (Unm (some ⟨w.heap.size + 1, 0, none⟩) w0) := by
    refine Unm.zero ?_
    rw [hw0]
    simp
  have H0 : Hid (Grew w0 w0) := Grew.refl w0
  have G0 : Hid (Grew w w0) := g0
  rw [← hw0]
  clear hw0 g0
  refine (PopZ (Unm.nil _)).mono ?_
  rintro en w1 ⟨rfl, gg⟩
  have g1 : Grew w0 w1 := Grew.trans (by repeat (first | exact Grew.refl _ | refine Grew.alloc ?_ _ | refine Grew.drewN ?_ _ | refine Grew.drew ?_)) gg
  replace v0 := cell_grew v0 g1
  replace v1 := cell_grew v1 g1
  replace v2 := cell_grew v2 g1
  have lv := lt_of_cell v0
  have H1 : Hid (Grew w0 w1) := H0.out.trans g1
  clear gg g1 H0
  go_wp2_with fail
  refine (PopTypeZ (tn := tn) (tz := tz) (th := th) (UZ.out.grew (H1.out.trans (by repeat (first | exact Grew.refl _ | refine Grew.alloc ?_ _ | refine Grew.drewN ?_ _ | refine Grew.drew ?_))))).mono ?_
  rintro en w2 ⟨rfl, gg⟩
  obtain ⟨_, _, a0, a1, a2, _, _, _⟩ := fresh3 (w := w1) (w1 := w2) gg
  have g2 : Grew w1 w2 := Grew.trans (by repeat (first | exact Grew.refl _ | refine Grew.alloc ?_ _ | refine Grew.drewN ?_ _ | refine Grew.drew ?_)) gg
  replace v0 := cell_grew v0 g2
  replace v1 := cell_grew v1 g2
  replace v2 := cell_grew v2 g2
  replace lv := lt_of_cell v0
  have la := lt_of_cell a0
  have H2 : Hid (Grew w0 w2) := H1.out.trans g2
  clear gg g2 H1
  go_wp2_with fail
  refine (LabelZ (n := n) (Unm.nil _)).mono ?_
  rintro en w3 ⟨rfl, gg⟩
  obtain ⟨_, _, b0, b1, b2, _, _, _⟩ := fresh3 (w := w2) (w1 := w3) gg
  have g3 : Grew w2 w3 := Grew.trans (by repeat (first | exact Grew.refl _ | refine Grew.alloc ?_ _ | refine Grew.drewN ?_ _ | refine Grew.drew ?_)) gg
  replace v0 := cell_grew v0 g3
  replace v1 := cell_grew v1 g3
  replace v2 := cell_grew v2 g3
  replace a0 := cell_grew a0 g3
  replace a1 := cell_grew a1 g3
  replace a2 := cell_grew a2 g3
  replace lv := lt_of_cell v0
  replace la := lt_of_cell a0
  have lb := lt_of_cell b0
  have H3 : Hid (Grew w0 w3) := H2.out.trans g3
  clear gg g3 H2
  go_wp2_with fail
  refine (GetZ (n := n) (UZ.out.grew (H3.out.trans (by repeat (first | exact Grew.refl _ | refine Grew.alloc ?_ _ | refine Grew.drewN ?_ _ | refine Grew.drew ?_))))).mono ?_
  rintro en w4 ⟨rfl, gg⟩
  have g4 : Grew w3 w4 := Grew.trans (by repeat (first | exact Grew.refl _ | refine Grew.alloc ?_ _ | refine Grew.drewN ?_ _ | refine Grew.drew ?_)) gg
  replace v0 := cell_grew v0 g4
  replace v1 := cell_grew v1 g4
  replace v2 := cell_grew v2 g4
  replace a0 := cell_grew a0 g4
  replace a1 := cell_grew a1 g4
  replace a2 := cell_grew a2 g4
  replace b0 := cell_grew b0 g4
  replace b1 := cell_grew b1 g4
  replace b2 := cell_grew b2 g4
  replace lv := lt_of_cell v0
  replace la := lt_of_cell a0
  replace lb := lt_of_cell b0
  have H4 : Hid (Grew w0 w4) := H3.out.trans g4
  clear gg g4 H3
  go_wp2_with fail
  refine (LeaveZ (UZ.out.grew (H4.out.trans (by repeat (first | exact Grew.refl _ | refine Grew.alloc ?_ _ | refine Grew.drewN ?_ _ | refine Grew.drew ?_))))).mono ?_
  rintro en w5 ⟨rfl, gg⟩
  have g5 : Grew w4 w5 := Grew.trans (by repeat (first | exact Grew.refl _ | refine Grew.alloc ?_ _ | refine Grew.drewN ?_ _ | refine Grew.drew ?_)) gg
  replace v0 := cell_grew v0 g5
  replace v1 := cell_grew v1 g5
  replace v2 := cell_grew v2 g5
  replace a0 := cell_grew a0 g5
  replace a1 := cell_grew a1 g5
  replace a2 := cell_grew a2 g5
  replace b0 := cell_grew b0 g5
  replace b1 := cell_grew b1 g5
  replace b2 := cell_grew b2 g5
  replace lv := lt_of_cell v0
  replace la := lt_of_cell a0
  replace lb := lt_of_cell b0
  have H5 : Hid (Grew w0 w5) := H4.out.trans g5
  clear gg g5 H4
  go_wp2_with fail
  refine (LastZ (Unm.nil _)).mono ?_
  rintro en w6 ⟨rfl, gg⟩
  have g6 : Grew w5 w6 := Grew.trans (by repeat (first | exact Grew.refl _ | refine Grew.alloc ?_ _ | refine Grew.drewN ?_ _ | refine Grew.drew ?_)) gg
  replace v0 := cell_grew v0 g6
  replace v1 := cell_grew v1 g6
  replace v2 := cell_grew v2 g6
  replace a0 := cell_grew a0 g6
  replace a1 := cell_grew a1 g6
  replace a2 := cell_grew a2 g6
  replace b0 := cell_grew b0 g6
  replace b1 := cell_grew b1 g6
  replace b2 := cell_grew b2 g6
  replace lv := lt_of_cell v0
  replace la := lt_of_cell a0
  replace lb := lt_of_cell b0
  have H6 : Hid (Grew w0 w6) := H5.out.trans g6
  clear gg g6 H5
  go_wp2_with fail
  refine (PushZ (tn := tn) (tz := tz) (th := th) (Unm.nil _)).mono ?_
  rintro en w7 ⟨rfl, gg⟩
  have g7 : Grew w6 w7 := Grew.trans (by repeat (first | exact Grew.refl _ | refine Grew.alloc ?_ _ | refine Grew.drewN ?_ _ | refine Grew.drew ?_)) gg
  replace v0 := cell_grew v0 g7
  replace v1 := cell_grew v1 g7
  replace v2 := cell_grew v2 g7
  replace a0 := cell_grew a0 g7
  replace a1 := cell_grew a1 g7
  replace a2 := cell_grew a2 g7
  replace b0 := cell_grew b0 g7
  replace b1 := cell_grew b1 g7
  replace b2 := cell_grew b2 g7
  replace lv := lt_of_cell v0
  replace la := lt_of_cell a0
  replace lb := lt_of_cell b0
  have H7 : Hid (Grew w0 w7) := H6.out.trans g7
  clear gg g7 H6
  go_wp2_with fail
  refine (UnreachableZ (UZ.out.grew (H7.out.trans (by repeat (first | exact Grew.refl _ | refine Grew.alloc ?_ _ | refine Grew.drewN ?_ _ | refine Grew.drew ?_))))).mono ?_
  rintro en w8 ⟨rfl, gg⟩
  have g8 : Grew w7 w8 := Grew.trans (by repeat (first | exact Grew.refl _ | refine Grew.alloc ?_ _ | refine Grew.drewN ?_ _ | refine Grew.drew ?_)) gg
  replace v0 := cell_grew v0 g8
  replace v1 := cell_grew v1 g8
  replace v2 := cell_grew v2 g8
  replace a0 := cell_grew a0 g8
  replace a1 := cell_grew a1 g8
  replace a2 := cell_grew a2 g8
  replace b0 := cell_grew b0 g8
  replace b1 := cell_grew b1 g8
  replace b2 := cell_grew b2 g8
  replace lv := lt_of_cell v0
  replace la := lt_of_cell a0
  replace lb := lt_of_cell b0
  have H8 : Hid (Grew w0 w8) := H7.out.trans g8
  clear gg g8 H7
  go_wp2_with fail
  refine (EnterZ (UZ.out.grew (H8.out.trans (by repeat (first | exact Grew.refl _ | refine Grew.alloc ?_ _ | refine Grew.drewN ?_ _ | refine Grew.drew ?_))))).mono ?_
  rintro en w9 ⟨rfl, gg⟩
  have g9 : Grew w8 w9 := Grew.trans (by repeat (first | exact Grew.refl _ | refine Grew.alloc ?_ _ | refine Grew.drewN ?_ _ | refine Grew.drew ?_)) gg
  replace v0 := cell_grew v0 g9
  replace v1 := cell_grew v1 g9
  replace v2 := cell_grew v2 g9
  replace a0 := cell_grew a0 g9
  replace a1 := cell_grew a1 g9
  replace a2 := cell_grew a2 g9
  replace b0 := cell_grew b0 g9
  replace b1 := cell_grew b1 g9
  replace b2 := cell_grew b2 g9
  replace lv := lt_of_cell v0
  replace la := lt_of_cell a0
  replace lb := lt_of_cell b0
  have H9 : Hid (Grew w0 w9) := H8.out.trans g9
  clear gg g9 H8
  go_wp2_with fail
  refine (SwapZ (Unm.nil _)).mono ?_
  rintro en w10 ⟨rfl, gg⟩
  have g10 : Grew w9 w10 := Grew.trans (by repeat (first | exact Grew.refl _ | refine Grew.alloc ?_ _ | refine Grew.drewN ?_ _ | refine Grew.drew ?_)) gg
  replace v0 := cell_grew v0 g10
  replace v1 := cell_grew v1 g10
  replace v2 := cell_grew v2 g10
  replace a0 := cell_grew a0 g10
  replace a1 := cell_grew a1 g10
  replace a2 := cell_grew a2 g10
  replace b0 := cell_grew b0 g10
  replace b1 := cell_grew b1 g10
  replace b2 := cell_grew b2 g10
  replace lv := lt_of_cell v0
  replace la := lt_of_cell a0
  replace lb := lt_of_cell b0
  have H10 : Hid (Grew w0 w10) := H9.out.trans g10
  clear gg g10 H9
  go_wp2_with fail
  refine (OperandsZ (Unm.nil _)).mono ?_
  rintro en w11 ⟨rfl, gg⟩
  have g11 : Grew w10 w11 := Grew.trans (by repeat (first | exact Grew.refl _ | refine Grew.alloc ?_ _ | refine Grew.drewN ?_ _ | refine Grew.drew ?_)) gg
  replace v0 := cell_grew v0 g11
  replace v1 := cell_grew v1 g11
  replace v2 := cell_grew v2 g11
  replace a0 := cell_grew a0 g11
  replace a1 := cell_grew a1 g11
  replace a2 := cell_grew a2 g11
  replace b0 := cell_grew b0 g11
  replace b1 := cell_grew b1 g11
  replace b2 := cell_grew b2 g11
  replace lv := lt_of_cell v0
  replace la := lt_of_cell a0
  replace lb := lt_of_cell b0
  have H11 : Hid (Grew w0 w11) := H10.out.trans g11
  clear gg g11 H10
  go_wp2_with fail
  refine (DepthZ (UZ.out.grew (H11.out.trans (by repeat (first | exact Grew.refl _ | refine Grew.alloc ?_ _ | refine Grew.drewN ?_ _ | refine Grew.drew ?_))))).mono ?_
  rintro en w12 ⟨rfl, gg⟩
  have g12 : Grew w11 w12 := Grew.trans (by repeat (first | exact Grew.refl _ | refine Grew.alloc ?_ _ | refine Grew.drewN ?_ _ | refine Grew.drew ?_)) gg
  replace v0 := cell_grew v0 g12
  replace v1 := cell_grew v1 g12
  replace v2 := cell_grew v2 g12
  replace a0 := cell_grew a0 g12
  replace a1 := cell_grew a1 g12
  replace a2 := cell_grew a2 g12
  replace b0 := cell_grew b0 g12
  replace b1 := cell_grew b1 g12
  replace b2 := cell_grew b2 g12
  replace lv := lt_of_cell v0
  replace la := lt_of_cell a0
  replace lb := lt_of_cell b0
  have H12 : Hid (Grew w0 w12) := H11.out.trans g12
  clear gg g12 H11
  go_wp2_with fail
  refine (HeightZ (Unm.nil _)).mono ?_
  rintro en w13 ⟨rfl, gg⟩
  have g13 : Grew w12 w13 := Grew.trans (by repeat (first | exact Grew.refl _ | refine Grew.alloc ?_ _ | refine Grew.drewN ?_ _ | refine Grew.drew ?_)) gg
  replace v0 := cell_grew v0 g13
  replace v1 := cell_grew v1 g13
  replace v2 := cell_grew v2 g13
  replace a0 := cell_grew a0 g13
  replace a1 := cell_grew a1 g13
  replace a2 := cell_grew a2 g13
  replace b0 := cell_grew b0 g13
  replace b1 := cell_grew b1 g13
  replace b2 := cell_grew b2 g13
  replace lv := lt_of_cell v0
  replace la := lt_of_cell a0
  replace lb := lt_of_cell b0
  have H13 : Hid (Grew w0 w13) := H12.out.trans g13
  clear gg g13 H12
  go_wp2_with fail
  refine (ResultsZ (UZ.out.grew (H13.out.trans (by repeat (first | exact Grew.refl _ | refine Grew.alloc ?_ _ | refine Grew.drewN ?_ _ | refine Grew.drew ?_))))).mono ?_
  rintro en w14 ⟨rfl, gg⟩
  have g14 : Grew w13 w14 := Grew.trans (by repeat (first | exact Grew.refl _ | refine Grew.alloc ?_ _ | refine Grew.drewN ?_ _ | refine Grew.drew ?_)) gg
  replace v0 := cell_grew v0 g14
  replace v1 := cell_grew v1 g14
  replace v2 := cell_grew v2 g14
  replace a0 := cell_grew a0 g14
  replace a1 := cell_grew a1 g14
  replace a2 := cell_grew a2 g14
  replace b0 := cell_grew b0 g14
  replace b1 := cell_grew b1 g14
  replace b2 := cell_grew b2 g14
  replace lv := lt_of_cell v0
  replace la := lt_of_cell a0
  replace lb := lt_of_cell b0
  have H14 : Hid (Grew w0 w14) := H13.out.trans g14
  clear gg g14 H13
  go_wp2_with fail
  refine (DoneZ (Unm.nil _)).mono ?_
  rintro en w15 ⟨rfl, gg⟩
  have g15 : Grew w14 w15 := Grew.trans (by repeat (first | exact Grew.refl _ | refine Grew.alloc ?_ _ | refine Grew.drewN ?_ _ | refine Grew.drew ?_)) gg
  replace v0 := cell_grew v0 g15
  replace v1 := cell_grew v1 g15
  replace v2 := cell_grew v2 g15
  replace a0 := cell_grew a0 g15
  replace a1 := cell_grew a1 g15
  replace a2 := cell_grew a2 g15
  replace b0 := cell_grew b0 g15
  replace b1 := cell_grew b1 g15
  replace b2 := cell_grew b2 g15
  replace lv := lt_of_cell v0
  replace la := lt_of_cell a0
  replace lb := lt_of_cell b0
  have H15 : Hid (Grew w0 w15) := H14.out.trans g15
  clear gg g15 H14
  go_wp2_with fail
  refine (ReachedZ (UZ.out.grew (H15.out.trans (by repeat (first | exact Grew.refl _ | refine Grew.alloc ?_ _ | refine Grew.drewN ?_ _ | refine Grew.drew ?_))))).mono ?_
  rintro en w16 ⟨rfl, gg⟩
  have g16 : Grew w15 w16 := Grew.trans (by repeat (first | exact Grew.refl _ | refine Grew.alloc ?_ _ | refine Grew.drewN ?_ _ | refine Grew.drew ?_)) gg
  replace v0 := cell_grew v0 g16
  replace v1 := cell_grew v1 g16
  replace v2 := cell_grew v2 g16
  replace a0 := cell_grew a0 g16
  replace a1 := cell_grew a1 g16
  replace a2 := cell_grew a2 g16
  replace b0 := cell_grew b0 g16
  replace b1 := cell_grew b1 g16
  replace b2 := cell_grew b2 g16
  replace lv := lt_of_cell v0
  replace la := lt_of_cell a0
  replace lb := lt_of_cell b0
  have H16 : Hid (Grew w0 w16) := H15.out.trans g16
  clear gg g16 H15
  go_wp2_with fail
  go_ret
  exact ⟨rfl, G0.out.trans H16.out⟩
end Go.Proofs.YtkghplkmfpnhdaaGreatDoor
