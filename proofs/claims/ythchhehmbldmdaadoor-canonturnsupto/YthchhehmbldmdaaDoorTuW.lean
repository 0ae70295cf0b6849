/-
  The law CanonTurns: its walk; no statement is proved here.
-/
import Derived.Test.YthchhehmbldmdaaDoorTuA
import Derived.Test.YthchhehmbldmdaaDoorAlv
namespace Go.Proofs.YthchhehmbldmdaaDoor
open Go.RowKit
set_option linter.unusedVariables false
set_option linter.unusedSimpArgs false

theorem sameE_no {L : List RT} {a b : Int} (h : sameE L a b ≠ 0) : sameR L a b = false := by
  unfold sameE at h
  unfold sameR
  cases hc : closedP 0 L with
  | false => simp
  | true =>
    rw [hc] at h
    cases hi : (inL L a && inL L b) with
    | false => simp
    | true => rw [hi] at h; simp at h
theorem sameE_yes {L : List RT} {a b : Int} (h : sameE L a b = 0) : closedP 0 L = true ∧ inL L a = true ∧ inL L b = true := by
  unfold sameE at h
  cases hc : closedP 0 L with
  | false => rw [hc] at h; simp at h
  | true =>
    rw [hc] at h
    cases hi : (inL L a && inL L b) with
    | false => rw [hi] at h; simp at h
    | true => rw [Bool.and_eq_true] at hi; exact ⟨rfl, hi.1, hi.2⟩
theorem sameE_0 {L : List RT} {a b : Int} (h : closedP 0 L = true) (ha : inL L a = true) (hb : inL L b = true) : sameE L a b = 0 ∧ sameR L a b = decide (atI (idsU L) a = atI (idsU L) b) := by
  unfold sameE sameR
  rw [h, ha, hb]
  simp
/- One call of Same, with what it answers. -/
def SmC (w : World) (v : Value) (a b : Int) (r : Bool) (e : Int) : Prop := ∀ W, Grew w W → Calls Tryd.prog 7 #[v, .int .i64 a, .int .i64 b] W fun en w' => en = .returned (.tuple #[.bool r, .int .i64 e]) ∧ Grew W w'
set_option maxRecDepth 100000 in
set_option maxHeartbeats 2000000 in
theorem turns_a {w : World} {va ua : Option Addr} {vn vc un uc : Nat} {x y z : Int} {q1 q2 q3 : Bool} {e1 e2 e3 e4 : Int} (ht : Tab w) (s1 : SmC w (.slice va vn vc) x y false e1) (s2 : SmC w (.slice va vn vc) y x q1 e2) (s3 : SmC w (.slice va vn vc) y z q2 e3) (s4 : SmC w (.slice va vn vc) x z q3 e4) (he : e1 ≠ 0) :
    Calls Tryd.prog 3 #[.slice va vn vc, .slice ua un uc, .agg #[.int .i64 x, .int .i64 y, .int .i64 z]] w fun en w' => en = .returned (.bool true) ∧ Grew w w' := by
  have CV : Hid (∀ W, Grew w W → Calls Tryd.prog 6 #[] W fun en w' => en = .returned (.bool true) ∧ Grew W w') := fun W g => alive_any (ht.grew g)
  have C1 : Hid (SmC w (.slice va vn vc) x y false e1) := s1
  have C2 : Hid (SmC w (.slice va vn vc) y x q1 e2) := s2
  have C3 : Hid (SmC w (.slice va vn vc) y z q2 e3) := s3
  have C4 : Hid (SmC w (.slice va vn vc) x z q3 e4) := s4
  have he' : (e1 == 0) = false := by simpa using he
  clear s1 s2 s3 s4 ht
  go_enter Tryd.func3, Tryd.ntmps3
  go_wp2_with fail
  have g0 : Grew w (w.alloc (.cells #[.int .i64 x, .int .i64 y, .int .i64 z] 24)) := (Grew.refl w).alloc _
  have B0 : (w.alloc (.cells #[.int .i64 x, .int .i64 y, .int .i64 z] 24)).heap[w.heap.size]? = some (.cells #[.int .i64 x, .int .i64 y, .int .i64 z] 24 (0, 0)) := heap_alloc_last _ _
  generalize (w.alloc (.cells #[.int .i64 x, .int .i64 y, .int .i64 z] 24)) = W0 at *
  refine (CV.out W0 g0).mono ?_
  rintro en w1 ⟨rfl, g1⟩
  have G1 : Hid (Grew w w1) := g0.trans g1
  have B1 := g1.other B0
  have a0 := cell_of B1 0
  have a1 := cell_of B1 1
  have a2 := cell_of B1 2
  simp at a0 a1 a2
  have k0 := lt_of_obj B1
  clear g1 CV g0 B0 B1
  go_wp2_with fail
  go_region
  all_goals go_wp2_with fail
  refine (C1.out _ (by first | exact G1.out | exact G1.out.drew | exact G1.out.drewN _)).mono ?_
  rintro en w2 ⟨rfl, g2⟩
  have G2 : Hid (Grew w w2) := Grew.trans (by first | exact G1.out | exact G1.out.drew | exact G1.out.drewN _) g2
  clear g2 C1 G1 a0 a1 a2 k0
  go_wp2_with fail
  refine (C2.out w2 G2.out).mono ?_
  rintro en w3 ⟨rfl, g3⟩
  have G3 : Hid (Grew w w3) := G2.out.trans g3
  clear g3 C2 G2
  go_wp2_with fail
  refine (C3.out w3 G3.out).mono ?_
  rintro en w4 ⟨rfl, g4⟩
  have G4 : Hid (Grew w w4) := G3.out.trans g4
  clear g4 C3 G3
  go_wp2_with fail
  refine (C4.out w4 G4.out).mono ?_
  rintro en w5 ⟨rfl, g5⟩
  have G5 : Hid (Grew w w5) := G4.out.trans g5
  clear g5 C4 G4
  go_wp2_with fail
  go_ret
  exact ⟨rfl, G5.out⟩
set_option maxRecDepth 100000 in
set_option maxHeartbeats 2000000 in
theorem turns_b {w : World} {va ua : Option Addr} {vn vc un uc : Nat} {x y z : Int} {p q1 q3 : Bool} {e2 e3 e4 : Int} (ht : Tab w) (s1 : SmC w (.slice va vn vc) x y p 0) (s2 : SmC w (.slice va vn vc) y x q1 e2) (s3 : SmC w (.slice va vn vc) y z false e3) (s4 : SmC w (.slice va vn vc) x z q3 e4) (he : e3 ≠ 0) :
    Calls Tryd.prog 3 #[.slice va vn vc, .slice ua un uc, .agg #[.int .i64 x, .int .i64 y, .int .i64 z]] w fun en w' => en = .returned (.bool true) ∧ Grew w w' := by
  have CV : Hid (∀ W, Grew w W → Calls Tryd.prog 6 #[] W fun en w' => en = .returned (.bool true) ∧ Grew W w') := fun W g => alive_any (ht.grew g)
  have C1 : Hid (SmC w (.slice va vn vc) x y p 0) := s1
  have C2 : Hid (SmC w (.slice va vn vc) y x q1 e2) := s2
  have C3 : Hid (SmC w (.slice va vn vc) y z false e3) := s3
  have C4 : Hid (SmC w (.slice va vn vc) x z q3 e4) := s4
  have he' : (e3 == 0) = false := by simpa using he
  clear s1 s2 s3 s4 ht
  go_enter Tryd.func3, Tryd.ntmps3
  go_wp2_with fail
  have g0 : Grew w (w.alloc (.cells #[.int .i64 x, .int .i64 y, .int .i64 z] 24)) := (Grew.refl w).alloc _
  have B0 : (w.alloc (.cells #[.int .i64 x, .int .i64 y, .int .i64 z] 24)).heap[w.heap.size]? = some (.cells #[.int .i64 x, .int .i64 y, .int .i64 z] 24 (0, 0)) := heap_alloc_last _ _
  generalize (w.alloc (.cells #[.int .i64 x, .int .i64 y, .int .i64 z] 24)) = W0 at *
  refine (CV.out W0 g0).mono ?_
  rintro en w1 ⟨rfl, g1⟩
  have G1 : Hid (Grew w w1) := g0.trans g1
  have B1 := g1.other B0
  have a0 := cell_of B1 0
  have a1 := cell_of B1 1
  have a2 := cell_of B1 2
  simp at a0 a1 a2
  have k0 := lt_of_obj B1
  clear g1 CV g0 B0 B1
  go_wp2_with fail
  go_region
  all_goals go_wp2_with fail
  refine (C1.out _ (by first | exact G1.out | exact G1.out.drew | exact G1.out.drewN _)).mono ?_
  rintro en w2 ⟨rfl, g2⟩
  have G2 : Hid (Grew w w2) := Grew.trans (by first | exact G1.out | exact G1.out.drew | exact G1.out.drewN _) g2
  clear g2 C1 G1 a0 a1 a2 k0
  go_wp2_with fail
  refine (C2.out w2 G2.out).mono ?_
  rintro en w3 ⟨rfl, g3⟩
  have G3 : Hid (Grew w w3) := G2.out.trans g3
  clear g3 C2 G2
  go_wp2_with fail
  refine (C3.out w3 G3.out).mono ?_
  rintro en w4 ⟨rfl, g4⟩
  have G4 : Hid (Grew w w4) := G3.out.trans g4
  clear g4 C3 G3
  go_wp2_with fail
  refine (C4.out w4 G4.out).mono ?_
  rintro en w5 ⟨rfl, g5⟩
  have G5 : Hid (Grew w w5) := G4.out.trans g5
  clear g5 C4 G4
  cases p with
  | false =>
    go_wp2_with fail
    go_ret
    exact ⟨rfl, G5.out⟩
  | true =>
    go_wp2_with fail
    go_ret
    exact ⟨rfl, G5.out⟩
end Go.Proofs.YthchhehmbldmdaaDoor
