/-
  The walk of awake: the program's Text of i32; no statement is proved here.
-/
import Derived.Test.YtmcljnohdknpoaaDoorDec
namespace Go.Proofs.YtmcljnohdknpoaaDoor
open Go.RowKit
set_option linter.unusedVariables false
set_option linter.unusedSimpArgs false

set_option maxRecDepth 100000 in
theorem awake_any {w : World} (he : Tabs w) : Calls Tryd.prog 8 #[] w fun en w' => en = .returned (.bool true) ∧ Grew w w' := by
  have c1 : (w.alloc (.cells #[.int .i64 1, .bool false, .int .i64 0] 23)).cell? ⟨0, 1, none⟩ = some (.string ⟨#[105, 51, 50]⟩) := (he.grew ((Grew.refl w).alloc _)).1 1 _ rfl
  have T : Calls Tryd.prog 25 #[.agg #[.int .i64 1, .bool false, .int .i64 0]] w fun en w' => en = .returned (.string ⟨#[105, 51, 50]⟩) ∧ Grew w w' := by
    have hg : 0 < w.heap.size := Nat.lt_of_le_of_lt (Nat.zero_le _) (pos_of_cell (he.1 0 _ rfl))
    have c1' : w.cell? ⟨0, 1, none⟩ = some (.string ⟨#[105, 51, 50]⟩) := he.1 1 _ rfl
    clear he
    go_enter Tryd.func25, Tryd.ntmps25
    go_wp2
    go_ret
    exact ⟨by simp, (Grew.refl w).alloc _⟩
  have hss := same_str ⟨#[105, 51, 50]⟩
  clear he c1
  go_enter Tryd.func8, Tryd.ntmps8
  go_wp2_with fail
  refine T.mono ?_
  rintro en w1 ⟨rfl, g1⟩
  go_wp2_with fail
  go_ret
  exact ⟨by simp, g1⟩
end Go.Proofs.YtmcljnohdknpoaaDoor
