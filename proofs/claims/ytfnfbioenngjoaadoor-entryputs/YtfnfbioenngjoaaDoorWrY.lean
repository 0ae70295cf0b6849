/-
  The program's calls that write heap types, value types, block types, limits and tags; no statement is proved here.
-/
import Derived.Test.YtfnfbioenngjoaaDoorWrX
import Derived.Test.YtfnfbioenngjoaaDoorWrT
namespace Go.Proofs.YtfnfbioenngjoaaDoor
open Go.RowKit
set_option linter.unusedVariables false
set_option linter.unusedSimpArgs false
set_option linter.constructorNameAsVariable false

set_option maxRecDepth 100000 in
set_option maxHeartbeats 1000000 in
theorem pPutVal_any (w : World) (hT : Tab w) (n hp : Int) (nul : Bool) : Calls Tryd.prog 31 #[.agg #[.int .i64 n, .bool nul, .int .i64 hp]] w (PAns w (valW ⟨n, nul, hp⟩)) := by
  have C := writtenV_any n hp nul (w.alloc (.cells #[.int .i64 n, .bool nul, .int .i64 hp] 23)) (hT.grew ((Grew.refl w).alloc _)) (valW ⟨n, nul, hp⟩) (fun W b B hS _ => W2.wans (valType2 hS ⟨n, nul, hp⟩ (by simp)))
  clear hT
  generalize valW ⟨n, nul, hp⟩ = R at *
  go_enter Tryd.func31, Tryd.ntmps31
  go_wp2_with fail
  refine C.mono ?_
  intro en w1 ha
  clear C
  cases R with
  | error e =>
    obtain ⟨rfl, g1⟩ := ha
    have G1 : Hid (Grew w w1) := ((Grew.refl w).alloc _).trans g1
    clear g1
    go_wp2_with fail
    go_ret2
    exact ⟨rfl, G1.out⟩
  | ok m =>
    obtain ⟨rv, rfl, r1, g1⟩ := ha
    have G1 : Hid (Grew w w1) := ((Grew.refl w).alloc _).trans g1
    have R1 : Hid (w1.ownsRow w.heap.size 5 1 rv m.length (U8 m)) := row_low r1 (by rw [alloc_size]; omega)
    obtain ⟨ra, rc, rfl⟩ := row_one r1
    clear g1 r1
    go_wp2_with fail
    go_ret2
    exact ⟨_, rfl, R1.out, G1.out⟩
end Go.Proofs.YtfnfbioenngjoaaDoor
