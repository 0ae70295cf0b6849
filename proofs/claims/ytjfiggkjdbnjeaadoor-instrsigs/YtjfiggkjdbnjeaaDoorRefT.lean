/-
  The walk of the document's table; no statement is proved here.
-/
import Derived.Test.YtjfiggkjdbnjeaaDoorBstW
namespace Go.Proofs.YtjfiggkjdbnjeaaDoor
open Go.RowKit
set_option linter.unusedVariables false
set_option linter.unusedSimpArgs false

set_option maxRecDepth 100000 in
set_option maxHeartbeats 1000000 in
theorem table_any (w : World) : Calls Tryd.prog 86 #[] w fun e w' => e = .returned (.slice (some ⟨w.heap.size, 0, none⟩) 37 37) ∧ w' = w.alloc (.cells TABS 100) := by
  go_enter Tryd.func86, Tryd.ntmps86
  go_wp2_with fail
  refine wp_bst 126 100 37 _ rfl Tryd.underlying126 TABS (by kernel_rfl) ?_
  go_wp2_with fail
  go_ret
  exact ⟨rfl, rfl⟩
end Go.Proofs.YtjfiggkjdbnjeaaDoor
