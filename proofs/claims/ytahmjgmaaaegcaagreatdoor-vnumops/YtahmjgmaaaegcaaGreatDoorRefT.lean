/-
  The walk of the document's table; no statement is proved here.
-/
import Derived.Test.YtahmjgmaaaegcaaGreatDoorBstW
namespace Go.Proofs.YtahmjgmaaaegcaaGreatDoor
open Go.RowKit
set_option linter.unusedVariables false
set_option linter.unusedSimpArgs false

set_option maxRecDepth 100000 in
set_option maxHeartbeats 1000000 in
theorem table_any (w : World) : Calls Tryz.prog 108 #[] w fun e w' => e = .returned (.slice (some ⟨w.heap.size, 0, none⟩) 37 37) ∧ w' = w.alloc (.cells TABS 88) := by
  go_enter Tryz.func108, Tryz.ntmps108
  go_wp2_with fail
  refine wp_bst 136 88 37 _ rfl Tryz.underlying136 TABS (by kernel_rfl) ?_
  go_wp2_with fail
  go_ret
  exact ⟨rfl, rfl⟩
end Go.Proofs.YtahmjgmaaaegcaaGreatDoor
