/-
  The walk of the document's refs; no statement is proved here.
-/
import Derived.Test.YtahmjgmaaaegcaaGreatDoorBstW
namespace Go.Proofs.YtahmjgmaaaegcaaGreatDoor
open Go.RowKit
set_option linter.unusedVariables false
set_option linter.unusedSimpArgs false

set_option maxRecDepth 100000 in
set_option maxHeartbeats 1000000 in
theorem refs_any (w : World) : Calls Tryz.prog 109 #[] w fun e w' => e = .returned (.slice (some ⟨w.heap.size, 0, none⟩) 26 26) ∧ w' = w.alloc (.cells REFS 88) := by
  go_enter Tryz.func109, Tryz.ntmps109
  go_wp2_with (refine wpList_buildSliceTo rfl 136 88 26 _ rfl w.heap.size rfl _ rfl Tryz.underlying136 REFS (by kernel_rfl) ?_)
  go_ret
  exact ⟨rfl, rfl⟩
end Go.Proofs.YtahmjgmaaaegcaaGreatDoor
