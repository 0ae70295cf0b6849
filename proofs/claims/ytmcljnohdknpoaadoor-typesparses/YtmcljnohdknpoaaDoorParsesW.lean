/-
  The walk of TypesParses; no statement is proved here.
-/
import Derived.Test.YtmcljnohdknpoaaDoorDParse
import Derived.Test.YtmcljnohdknpoaaDoorAwake
namespace Go.Proofs.YtmcljnohdknpoaaDoor
open Go.RowKit
set_option linter.unusedVariables false
set_option linter.unusedSimpArgs false

set_option maxRecDepth 100000 in
set_option maxHeartbeats 1000000 in
theorem parses_walk (s : ByteArray) (w : World) (hm : s.size ≤ 140737488355328) (he : Env w) :
    Calls Tryd.prog 3 #[.string s] w fun en w' => en = .returned (.bool true) ∧ Grew w w' := by
  have C := parse_any s w hm he
  have D : Hid (∀ w1, Grew w w1 → Calls Tryd.prog 7 #[.string s] w1 fun en w' => en = .returned (pv (parseA s)) ∧ Grew w1 w') := fun w1 _ => by
    rw [← parse_tie]
    exact dparse_any s w1 hm
  have F : Hid (∀ w1, Grew w w1 → Calls Tryd.prog 8 #[] w1 fun en w' => en = .returned (.bool true) ∧ Grew w1 w') := fun w1 g => awake_any (he.grew g).tabs
  generalize parseA s = R at *
  obtain ⟨⟨n, nul, h⟩, at_, e⟩ := R
  clear he
  unfold pv VT.v vt at *
  go_enter Tryd.func3, Tryd.ntmps3
  go_wp2_with fail
  refine C.mono ?_
  rintro en w1 ⟨rfl, g1⟩
  have G1 : Hid (Grew w w1) := g1
  clear g1 C
  go_wp2_with fail
  refine (D.out _ (G1.out.alloc _)).mono ?_
  rintro en w2 ⟨rfl, g2⟩
  have hA := (g2.turn []).other (heap_alloc_last w1 _) (by simp)
  have a0 := cell_of hA 0
  have a1 := cell_of hA 1
  have a2 := cell_of hA 2
  simp at a0 a1 a2
  have hlt : w1.heap.size < w2.heap.size := lt_of_obj hA
  have G2 : Hid (Grew w w2) := (G1.out.alloc _).trans g2
  clear g2 hA D
  go_wp2_with fail
  refine (F.out _ (G2.out.alloc _)).mono ?_
  rintro en w3 ⟨rfl, g3⟩
  have G3 : Hid (Grew w w3) := (G2.out.alloc _).trans g3
  clear g3 F
  go_wp2_with fail
  go_ret
  exact ⟨by simp, G3.out⟩
end Go.Proofs.YtmcljnohdknpoaaDoor
