/-
  The walk of the document's refs; no statement is proved here.
-/
import Derived.Test.YtjfiggkjdbnjeaaDoorBstW
namespace Go.Proofs.YtjfiggkjdbnjeaaDoor
open Go.RowKit
set_option linter.unusedVariables false
set_option linter.unusedSimpArgs false

set_option maxRecDepth 100000 in
set_option maxHeartbeats 1000000 in
theorem refs_any (w : World) : Calls Tryd.prog 87 #[] w fun e w' => e = .returned (.slice (some ⟨w.heap.size, 0, none⟩) 26 26) ∧ w' = w.alloc (.cells REFS 100) := by
  go_enter Tryd.func87, Tryd.ntmps87
  go_wp2_with (refine wpList_buildSliceTo rfl 126 100 26 _ rfl w.heap.size rfl _ rfl Tryd.underlying126 REFS (by kernel_rfl) ?_)
  go_ret
  exact ⟨rfl, rfl⟩
end Go.Proofs.YtjfiggkjdbnjeaaDoor
