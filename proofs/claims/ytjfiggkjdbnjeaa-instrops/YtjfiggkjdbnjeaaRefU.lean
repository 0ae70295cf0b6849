/-
  The walk of the document's refs; no statement is proved here.
-/
import Derived.Test.YtjfiggkjdbnjeaaBstW
namespace Go.Proofs.Ytjfiggkjdbnjeaa
open Go.RowKit
set_option linter.unusedVariables false
set_option linter.unusedSimpArgs false

set_option maxRecDepth 100000 in
set_option maxHeartbeats 1000000 in
theorem refs_any (w : World) : Calls Try.prog 22 #[] w fun e w' => e = .returned (.slice (some ⟨w.heap.size, 0, none⟩) 26 26) ∧ w' = w.alloc (.cells REFS 38) := by
  go_enter Try.func22, Try.ntmps22
  go_wp2_with (refine wpList_buildSliceTo rfl 48 38 26 _ rfl w.heap.size rfl _ rfl Try.underlying48 REFS (by kernel_rfl) ?_)
  go_ret
  exact ⟨rfl, rfl⟩
end Go.Proofs.Ytjfiggkjdbnjeaa
