/-
  The walk of CanonZero; the statement itself is proved in the text that imports this one.
-/
import Derived.Test.YthchhehmbldmdaaDoorAlv
import Derived.Test.YthchhehmbldmdaaDoorZro
namespace Go.Proofs.YthchhehmbldmdaaDoor
open Go.RowKit
set_option linter.unusedVariables false
set_option linter.unusedSimpArgs false

set_option maxRecDepth 100000 in
set_option maxHeartbeats 2000000 in
theorem zero_walk {w : World} {a : Option Addr} {n c : Nat} {id : Int} (ht : Tab w) :
    Calls Tryd.prog 5 #[.slice a n c, .int .i64 id] w fun en w' => en = .returned (.bool true) ∧ Grew w w' := by
  have CV : Hid (∀ W, Grew w W → Calls Tryd.prog 6 #[] W fun en w' => en = .returned (.bool true) ∧ Grew W w') := fun W g => alive_any (ht.grew g)
  have C1 : Hid (∀ W p, Unm p W → Calls Tryd.prog 9 #[.pointer p, .slice a n c] W fun en w' => en = .returned (.tuple #[NILS, .int .i64 0, .int .i64 7]) ∧ Grew W w') := fun W p h => addZ h a n c
  have C2 : Hid (∀ W p, Unm p W → Calls Tryd.prog 15 #[.pointer p, .int .i64 id] W fun en w' => en = .returned (.tuple #[SUB0, .int .i64 7]) ∧ Grew W w') := fun W p h => typeZ h
  have C3 : Hid (∀ W p, Unm p W → Calls Tryd.prog 16 #[.pointer p, .int .i64 id] W fun en w' => en = .returned (.tuple #[.int .i64 0, .int .i64 0, .int .i64 7]) ∧ Grew W w') := fun W p h => groupZ h
  have C4 : Hid (∀ W p, Unm p W → Calls Tryd.prog 17 #[.pointer p] W fun en w' => en = .returned (.int .i64 0) ∧ Grew W w') := fun W p h => countZ h
  have C5 : Hid (∀ W p, Unm p W → Calls Tryd.prog 18 #[.pointer p] W fun en w' => en = .returned (.pointer none) ∧ Grew W w') := fun W p h => copyZ h
  unfold SUB0 at C2
  clear ht
  go_enter Tryd.func5, Tryd.ntmps5
  go_wp2_with fail
  refine (CV.out w (Grew.refl w)).mono ?_
  rintro en w1 ⟨rfl, g1⟩
  have G1 : Hid (Grew w w1) := g1
  clear g1 CV
  go_wp2_with fail
  have B2 : (w1.alloc (.cells #[.map none, .slice none 0 0] 53)).heap[w1.heap.size]? = some (.cells #[.map none, .slice none 0 0] 53 (0, 0)) := heap_alloc_last _ _
  have g2 : Grew w1 (w1.alloc (.cells #[.map none, .slice none 0 0] 53)) := (Grew.refl w1).alloc _
  generalize (w1.alloc (.cells #[.map none, .slice none 0 0] 53)) = w2 at *
  have G2 : Hid (Grew w w2) := G1.out.trans g2
  have UZ : Hid (Unm (some ⟨w1.heap.size, 0, none⟩) w2) := Unm.zero (cell_of B2 0)
  have UN : Hid (∀ W, Unm none W) := Unm.nil
  have H2 : Hid (Grew w2 w2) := Grew.refl w2
  clear B2 g2 G1
  skip
  refine (C1.out _ none (UN.out _)).mono ?_
  rintro en w3 ⟨rfl, g3⟩
  have H3 : Hid (Grew w2 w3) := Grew.trans (by repeat (first | exact H2.out | refine Grew.alloc ?_ _ | refine Grew.drew ?_ | refine Grew.drewN ?_ _)) g3
  clear g3 H2
  go_wp2_with fail
  refine (C1.out _ _ (UZ.out.grew (by repeat (first | exact H3.out | refine Grew.alloc ?_ _ | refine Grew.drew ?_ | refine Grew.drewN ?_ _)))).mono ?_
  rintro en w4 ⟨rfl, g4⟩
  have H4 : Hid (Grew w2 w4) := Grew.trans (by repeat (first | exact H3.out | refine Grew.alloc ?_ _ | refine Grew.drew ?_ | refine Grew.drewN ?_ _)) g4
  clear g4 H3
  go_wp2_with fail
  refine (C2.out _ none (UN.out _)).mono ?_
  rintro en w5 ⟨rfl, g5⟩
  have H5 : Hid (Grew w2 w5) := Grew.trans (by repeat (first | exact H4.out | refine Grew.alloc ?_ _ | refine Grew.drew ?_ | refine Grew.drewN ?_ _)) g5
  clear g5 H4
  go_wp2_with fail
  refine (C2.out _ _ (UZ.out.grew (by repeat (first | exact H5.out | refine Grew.alloc ?_ _ | refine Grew.drew ?_ | refine Grew.drewN ?_ _)))).mono ?_
  rintro en w6 ⟨rfl, g6⟩
  have H6 : Hid (Grew w2 w6) := Grew.trans (by repeat (first | exact H5.out | refine Grew.alloc ?_ _ | refine Grew.drew ?_ | refine Grew.drewN ?_ _)) g6
  clear g6 H5
  go_wp2_with fail
  refine (C3.out _ none (UN.out _)).mono ?_
  rintro en w7 ⟨rfl, g7⟩
  have H7 : Hid (Grew w2 w7) := Grew.trans (by repeat (first | exact H6.out | refine Grew.alloc ?_ _ | refine Grew.drew ?_ | refine Grew.drewN ?_ _)) g7
  clear g7 H6
  go_wp2_with fail
  refine (C3.out _ _ (UZ.out.grew (by repeat (first | exact H7.out | refine Grew.alloc ?_ _ | refine Grew.drew ?_ | refine Grew.drewN ?_ _)))).mono ?_
  rintro en w8 ⟨rfl, g8⟩
  have H8 : Hid (Grew w2 w8) := Grew.trans (by repeat (first | exact H7.out | refine Grew.alloc ?_ _ | refine Grew.drew ?_ | refine Grew.drewN ?_ _)) g8
  clear g8 H7
  go_wp2_with fail
  refine (C4.out _ none (UN.out _)).mono ?_
  rintro en w9 ⟨rfl, g9⟩
  have H9 : Hid (Grew w2 w9) := Grew.trans (by repeat (first | exact H8.out | refine Grew.alloc ?_ _ | refine Grew.drew ?_ | refine Grew.drewN ?_ _)) g9
  clear g9 H8
  go_wp2_with fail
  refine (C4.out _ _ (UZ.out.grew (by repeat (first | exact H9.out | refine Grew.alloc ?_ _ | refine Grew.drew ?_ | refine Grew.drewN ?_ _)))).mono ?_
  rintro en w10 ⟨rfl, g10⟩
  have H10 : Hid (Grew w2 w10) := Grew.trans (by repeat (first | exact H9.out | refine Grew.alloc ?_ _ | refine Grew.drew ?_ | refine Grew.drewN ?_ _)) g10
  clear g10 H9
  go_wp2_with fail
  refine (C5.out _ none (UN.out _)).mono ?_
  rintro en w11 ⟨rfl, g11⟩
  have H11 : Hid (Grew w2 w11) := Grew.trans (by repeat (first | exact H10.out | refine Grew.alloc ?_ _ | refine Grew.drew ?_ | refine Grew.drewN ?_ _)) g11
  clear g11 H10
  go_wp2_with fail
  refine (C5.out _ _ (UZ.out.grew (by repeat (first | exact H11.out | refine Grew.alloc ?_ _ | refine Grew.drew ?_ | refine Grew.drewN ?_ _)))).mono ?_
  rintro en w12 ⟨rfl, g12⟩
  have H12 : Hid (Grew w2 w12) := Grew.trans (by repeat (first | exact H11.out | refine Grew.alloc ?_ _ | refine Grew.drew ?_ | refine Grew.drewN ?_ _)) g12
  clear g12 H11
  go_wp2_with fail
  go_ret
  exact ⟨rfl, G2.out.trans H12.out⟩
end Go.Proofs.YthchhehmbldmdaaDoor
