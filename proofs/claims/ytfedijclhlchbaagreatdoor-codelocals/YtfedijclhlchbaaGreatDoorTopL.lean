/-
  The walks of readAt at lists of value types, and of ValTypes; no statement is proved here.
-/
import Derived.Test.YtfedijclhlchbaaGreatDoorTopV
namespace Go.Proofs.YtfedijclhlchbaaGreatDoor
open Go.RowKit
set_option linter.unusedVariables false
set_option linter.unusedSimpArgs false
set_option linter.constructorNameAsVariable false

end Go.Proofs.YtfedijclhlchbaaGreatDoor
