/-
  The walks of runs, table and refs: the tables that functions make; no statement is proved here.
-/
import Derived.Test.YtahmjgmaaaegcaaGreatDoorWorld
import Derived.Test.YtahmjgmaaaegcaaGreatDoorRL
import Derived.Great.Walk
namespace Go.Proofs.YtahmjgmaaaegcaaGreatDoor
open Go.RowKit
set_option linter.unusedVariables false
set_option linter.unusedSimpArgs false

def BA (l : List UInt8) : ByteArray := ⟨l.toArray⟩
def c3 (r : Int × List UInt8 × List UInt8) : List Value := [.int .i64 r.1, .string (BA r.2.1), .string (BA r.2.2)]
def c4 (r : Int × List UInt8 × List UInt8 × List UInt8) : List Value := [.int .i64 r.1, .string (BA r.2.1), .string (BA r.2.2.1), .string (BA r.2.2.2)]
def RUNS : Array Value := (RL.flatMap c3).toArray
def TABS : Array Value := (TL.flatMap c4).toArray
def REFS : Array Value := (XL.flatMap c4).toArray
set_option maxRecDepth 100000 in
set_option maxHeartbeats 1000000 in
theorem runs_any (w : World) : Calls Tryz.prog 61 #[] w fun e w' => e = .returned (.slice (some ⟨w.heap.size, 0, none⟩) 30 30) ∧ w' = w.alloc (.cells RUNS 84) := by
  go_enter Tryz.func61, Tryz.ntmps61
  go_wp2_with (refine wpList_buildSliceTo rfl 81 84 30 _ rfl w.heap.size rfl _ rfl Tryz.underlying81 RUNS (by kernel_rfl) ?_)
  go_ret
  exact ⟨rfl, rfl⟩
end Go.Proofs.YtahmjgmaaaegcaaGreatDoor
