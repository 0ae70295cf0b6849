/-
  What a law on checkers begins with; no statement is proved here.
-/
import Derived.Test.YtkghplkmfpnhdaaGreatDoorStS
namespace Go.Proofs.YtkghplkmfpnhdaaGreatDoor
open Go.RowKit
set_option linter.unusedVariables false
set_option linter.unusedSimpArgs false

theorem CK.low {B B' : Nat} {w : World} {C : Nat} {lv fv ov qv : Value} {lo : List LO} {fr : List Int} {ops : List VT} {fs : List FV} (h : CK B w C lv fv ov qv lo fr ops fs) (hb : B' ≤ B) : CK B' w C lv fv ov qv lo fr ops fs := by
  obtain ⟨h0, h1, h2, h3, h4, h5, h6⟩ := h
  exact ⟨h0, Nat.le_trans hb h1, row_low h2 hb, row_low h3 hb, row_low h4 hb, row_low h5 hb, h6⟩
set_option maxRecDepth 100000 in
set_option maxHeartbeats 2000000 in
theorem begin_any {w : World} {tv pv lv rv : Value} {L : List RT} {P Q R : List VT} (hL : LR w tv L) (hP : LV w pv P) (hQ : LV w lv Q) (hR : LV w rv R) (h1 : L.length ≤ 1048576) (h2 : ∀ r ∈ L, SmR r) (h3 : P.length + Q.length ≤ 1048576) (h4 : R.length ≤ 1048576) :
    Calls Tryz.prog 6 #[.agg #[tv, pv, lv, rv]] w fun en w' => ∃ C lv' qv x p, en = .returned (.tuple #[.pointer (some ⟨C, 0, none⟩), .pointer p]) ∧ x.height = 0 ∧ x.fresh = 0 ∧ x.dead = false ∧ CK w.heap.size w' C lv' NILS NILS qv (locs P Q) [] [] [x] ∧ Grew w w' := by
  have CP : Hid (∀ X, Grew w X → Calls Tryz.prog 11 #[pv] X fun en w' => ∃ u, en = .returned u ∧ RowV X.heap.size w' u P ∧ Grew X w') := fun X g => llist_any (hP.grew g) (by omega)
  have CQ : Hid (∀ X, Grew w X → Calls Tryz.prog 11 #[lv] X fun en w' => ∃ u, en = .returned u ∧ RowV X.heap.size w' u Q ∧ Grew X w') := fun X g => llist_any (hQ.grew g) (by omega)
  have CR : Hid (∀ X, Grew w X → Calls Tryz.prog 11 #[rv] X fun en w' => ∃ u, en = .returned u ∧ RowV X.heap.size w' u R ∧ Grew X w') := fun X g => llist_any (hR.grew g) h4
  have CN : Hid (∀ X a b c, Grew w X → LV X a P → LV X b Q → LV X c R → Calls Tryz.prog 29 #[tv, a, b, c] X fun en w' => ∃ C lv' qv x, en = .returned (.pointer (some ⟨C, 0, none⟩)) ∧ x.height = 0 ∧ x.fresh = 0 ∧ x.dead = false ∧ CK X.heap.size w' C lv' NILS NILS qv (locs P Q) [] [] [x] ∧ Grew X w') := fun X a b c g ha hb hc => new_any (hL.grew g) ha hb hc h1 h2 h3 h4
  obtain ⟨ta, tc, hv, _⟩ := hL.one
  subst hv
  have CM : Hid (∀ X, Grew w X → Calls Tryz.prog 30 #[.slice ta L.length tc, pv, lv, rv] X fun en w' => (∃ p, en = .returned (.pointer p)) ∧ Grew X w') := fun X g => rnew_any (hP.grew g) (hQ.grew g) (hR.grew g) h3 h4
  obtain ⟨pa, pc, hv, _⟩ := hP.one
  subst hv
  obtain ⟨qa, qc, hv, _⟩ := hQ.one
  subst hv
  obtain ⟨ra, rc, hv, _⟩ := hR.one
  subst hv
  clear hL hP hQ hR
  generalize locs P Q = LL at *
  go_enter Tryz.func6, Tryz.ntmps6
  go_wp2_with fail
  obtain ⟨w0, hw0⟩ : ∃ w0, w0 = w.alloc (.cells #[.slice ta L.length tc, .slice pa P.length pc, .slice qa Q.length qc, .slice ra R.length rc] 25) := ⟨_, rfl⟩
  have G0 : Hid (Grew w w0) := by rw [hw0]; exact (Grew.refl w).alloc _
  have N0 : w0.heap[w.heap.size]? = some (.cells #[.slice ta L.length tc, .slice pa P.length pc, .slice qa Q.length qc, .slice ra R.length rc] 25 (0, 0)) := by rw [hw0]; exact heap_alloc_last _ _
  rw [← hw0]
  clear hw0
  have e00 := cell_of N0 0
  have e10 := cell_of N0 1
  have e20 := cell_of N0 2
  have e30 := cell_of N0 3
  simp at e00 e10 e20 e30
  clear N0
  go_region_held3 (fun w' => w'.cell? ⟨w.heap.size, 0, none⟩ = some (.slice ta L.length tc) ∧ w'.cell? ⟨w.heap.size, 1, none⟩ = some (.slice pa P.length pc) ∧ w'.cell? ⟨w.heap.size, 2, none⟩ = some (.slice qa Q.length qc) ∧ w'.cell? ⟨w.heap.size, 3, none⟩ = some (.slice ra R.length rc)) (go_keep) (first
    | (with_reducible refine (CP.out _ ?gr).mono ?_
       case gr => exact G0.out.trans (by repeat (first | with_reducible exact Grew.refl _ | refine Grew.alloc ?_ _ | refine Grew.drewN ?_ _ | refine Grew.drew ?_))
       rintro en w1 ⟨u1, rfl, r1, g1⟩
       have gg1 : Grew w0 w1 := Grew.trans (by repeat (first | with_reducible exact Grew.refl _ | refine Grew.alloc ?_ _ | refine Grew.drewN ?_ _ | refine Grew.drew ?_)) g1
       have e01 := cell_grew e00 gg1
       have e11 := cell_grew e10 gg1
       have e21 := cell_grew e20 gg1
       have e31 := cell_grew e30 gg1
       have G1 := Hid.mk' (G0.out.trans gg1)
       have R1 := Hid.mk' r1
       clear g1 gg1 r1)
    | (with_reducible refine (CQ.out _ ?gr).mono ?_
       case gr => exact G1.out.trans (by repeat (first | with_reducible exact Grew.refl _ | refine Grew.alloc ?_ _ | refine Grew.drewN ?_ _ | refine Grew.drew ?_))
       rintro en w2 ⟨u2, rfl, r2, g2⟩
       have gg2 : Grew w1 w2 := Grew.trans (by repeat (first | with_reducible exact Grew.refl _ | refine Grew.alloc ?_ _ | refine Grew.drewN ?_ _ | refine Grew.drew ?_)) g2
       have e02 := cell_grew e01 gg2
       have e12 := cell_grew e11 gg2
       have e22 := cell_grew e21 gg2
       have e32 := cell_grew e31 gg2
       have G2 := Hid.mk' (G1.out.trans gg2)
       have R12 := Hid.mk' (R1.out.grew gg2)
       have R2 := Hid.mk' r2
       clear g2 gg2 r2 R1)
    | (with_reducible refine (CR.out _ ?gr).mono ?_
       case gr => exact G2.out.trans (by repeat (first | with_reducible exact Grew.refl _ | refine Grew.alloc ?_ _ | refine Grew.drewN ?_ _ | refine Grew.drew ?_))
       rintro en w3 ⟨u3, rfl, r3, g3⟩
       have gg3 : Grew w2 w3 := Grew.trans (by repeat (first | with_reducible exact Grew.refl _ | refine Grew.alloc ?_ _ | refine Grew.drewN ?_ _ | refine Grew.drew ?_)) g3
       have e03 := cell_grew e02 gg3
       have e13 := cell_grew e12 gg3
       have e23 := cell_grew e22 gg3
       have e33 := cell_grew e32 gg3
       have G3 := Hid.mk' (G2.out.trans gg3)
       have R13 := Hid.mk' (RowV.lst (R12.out.grew gg3))
       have R23 := Hid.mk' (RowV.lst (R2.out.grew gg3))
       have R33 := Hid.mk' (RowV.lst r3)
       clear g3 gg3 r3 R12 R2)
    | (with_reducible refine (CN.out _ _ _ _ ?gr ?ga ?gb ?gc).mono ?_
       case gr => exact G3.out.trans (by repeat (first | with_reducible exact Grew.refl _ | refine Grew.alloc ?_ _ | refine Grew.drewN ?_ _ | refine Grew.drew ?_))
       case ga => exact R13.out.grew (by repeat (first | with_reducible exact Grew.refl _ | refine Grew.alloc ?_ _ | refine Grew.drewN ?_ _ | refine Grew.drew ?_))
       case gb => exact R23.out.grew (by repeat (first | with_reducible exact Grew.refl _ | refine Grew.alloc ?_ _ | refine Grew.drewN ?_ _ | refine Grew.drew ?_))
       case gc => exact R33.out.grew (by repeat (first | with_reducible exact Grew.refl _ | refine Grew.alloc ?_ _ | refine Grew.drewN ?_ _ | refine Grew.drew ?_))
       rintro en w4 ⟨C, lv4, qv4, x4, rfl, hx1, hx2, hx3, K4, g4⟩
       have gg4 : Grew w3 w4 := Grew.trans (by repeat (first | with_reducible exact Grew.refl _ | refine Grew.alloc ?_ _ | refine Grew.drewN ?_ _ | refine Grew.drew ?_)) g4
       have e04 := cell_grew e03 gg4
       have e14 := cell_grew e13 gg4
       have e24 := cell_grew e23 gg4
       have e34 := cell_grew e33 gg4
       have G4 := Hid.mk' (G3.out.trans gg4)
       have HK4 := Hid.mk' K4
       clear K4 g4 gg4)
    | (with_reducible refine (CM.out _ ?gr).mono ?_
       case gr => exact G4.out.trans (by repeat (first | with_reducible exact Grew.refl _ | refine Grew.alloc ?_ _ | refine Grew.drewN ?_ _ | refine Grew.drew ?_))
       rintro en w5 ⟨⟨p5, rfl⟩, g5⟩
       have gg5 : Grew w4 w5 := Grew.trans (by repeat (first | with_reducible exact Grew.refl _ | refine Grew.alloc ?_ _ | refine Grew.drewN ?_ _ | refine Grew.drew ?_)) g5
       have e05 := cell_grew e04 gg5
       have e15 := cell_grew e14 gg5
       have e25 := cell_grew e24 gg5
       have e35 := cell_grew e34 gg5
       have G5 := Hid.mk' (G4.out.trans gg5)
       have HK5 := Hid.mk' (HK4.out.grew gg5)
       clear g5 gg5))
  have hb3 : w.heap.size ≤ w3.heap.size := G3.out.2
  have HF : Hid (CK w.heap.size w5 C lv4 NILS NILS qv4 LL [] [] [x4]) := HK5.out.low (by first | exact hb3 | (simp; omega))
  clear HK5 HK4 e00 e10 e20 e30 e01 e11 e21 e31 e02 e12 e22 e32 e03 e13 e23 e33 e04 e14 e24 e34 e05 e15 e25 e35
  go_wp2_with fail
  go_ret2
  exact ⟨C, _, _, x4, p5, rfl, hx1, hx2, hx3, HF.out, G5.out⟩
end Go.Proofs.YtkghplkmfpnhdaaGreatDoor
