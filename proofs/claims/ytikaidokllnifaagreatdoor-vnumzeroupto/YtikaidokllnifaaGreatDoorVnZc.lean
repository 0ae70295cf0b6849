/-
  What is looked up of the program at VnumZero, once, by the kernel; no statement is proved here.
-/
import Derived.Test.YtikaidokllnifaaGreatDoorCards
import Derived.Test.YtikaidokllnifaaGreatDoorTie
import Derived.JoinedCond
import Derived.Deep.DeepHandedRow
import Derived.Lib.LaidTab
import Derived.SizedLaws
import Derived.ChangeMaps5
import Derived.Carry
set_option maxRecDepth 100000
set_option maxHeartbeats 8000000
namespace Go.Proofs.YtikaidokllnifaaGreatDoor
open Go.ChangeShapes Go.WideShapes Go.ChangeAt Go.RowKit
theorem closedZ : joinedFacts Tryz.prog 5 Tryz.f5 (Rows.OpenSpec.upto Rows.vnumZeroSpec).bare Rows.vnumZeroUptoRow = true := by kernel_rfl
end Go.Proofs.YtikaidokllnifaaGreatDoor
