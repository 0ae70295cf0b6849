/-
  The walk of TypesReads; no statement is proved here.
-/
import Derived.Test.YtmcljnohdknpoaaDoorSameS
import Derived.Test.YtmcljnohdknpoaaDoorAwake
namespace Go.Proofs.YtmcljnohdknpoaaDoor
open Go.RowKit
set_option linter.unusedVariables false
set_option linter.unusedSimpArgs false

set_option maxRecDepth 100000 in
set_option maxHeartbeats 1000000 in
theorem reads_walk (s : ByteArray) (w : World) (hm : s.size ≤ 140737488355328) (he : Env w) :
    Calls Tryd.prog 4 #[.string s] w fun en w' => en = .returned (.bool true) ∧ Grew w w' := by
  have C := parseRec_any s w hm he
  have D : Hid (∀ w1, Grew w w1 → Calls Tryd.prog 10 #[.string s] w1 (AnsP w1 (parseB s))) := fun w1 _ => dparseRec_any s w1 hm
  have F : Hid (∀ w1, Grew w w1 → Calls Tryd.prog 8 #[] w1 fun en w' => en = .returned (.bool true) ∧ Grew w1 w') := fun w1 g => awake_any (he.grew g).tabs
  generalize parseB s = R at *
  obtain ⟨x, at_, e⟩ := R
  clear he
  go_enter Tryd.func4, Tryd.ntmps4
  go_wp2_with fail
  refine C.mono ?_
  rintro en w1 ⟨v1, rfl, ⟨tv, rfl, q1⟩, g1⟩
  have G1 : Hid (Grew w w1) := g1
  have Q1 : Hid (SubsQ w.heap.size w1 tv x.types) := q1
  obtain ⟨ta, tc, htv⟩ := q1.one
  subst htv
  clear g1 C q1
  go_wp2_with fail
  refine (D.out _ (G1.out.alloc _)).mono ?_
  rintro en w2 ⟨v2, rfl, ⟨tv2, rfl, q2⟩, g2⟩
  obtain ⟨ta2, tc2, htv2⟩ := q2.one
  subst htv2
  have hA := (g2.turn []).other (heap_alloc_last w1 _) (by simp)
  have a0 := cell_of hA 0
  have a1 := cell_of hA 1
  simp at a0 a1
  have hlt : w1.heap.size < w2.heap.size := lt_of_obj hA
  have G2 : Hid (Grew w w2) := (G1.out.alloc _).trans g2
  have Q2 : Hid (SubsQ w.heap.size w2 (.slice ta x.types.length tc) x.types) := Q1.out.grew (((Grew.refl w1).alloc _).trans g2)
  have P2 : Hid (SubsQ _ w2 (.slice ta2 x.types.length tc2) x.types) := q2
  clear g2 hA D q2
  go_wp2_with fail
  refine (sameRec_any (r := x) ⟨_, rfl, Q2.out.grew ((Grew.refl w2).alloc _)⟩ ⟨_, rfl, P2.out.grew ((Grew.refl w2).alloc _)⟩).mono ?_
  rintro en w3 ⟨rfl, g3⟩
  have G3 : Hid (Grew w w3) := (G2.out.alloc _).trans g3
  clear g3
  go_wp2_with fail
  refine (F.out _ G3.out).mono ?_
  rintro en w4 ⟨rfl, g4⟩
  have G4 : Hid (Grew w w4) := G3.out.trans g4
  clear g4 F
  go_wp2_with fail
  go_ret
  exact ⟨by simp, G4.out⟩
end Go.Proofs.YtmcljnohdknpoaaDoor
