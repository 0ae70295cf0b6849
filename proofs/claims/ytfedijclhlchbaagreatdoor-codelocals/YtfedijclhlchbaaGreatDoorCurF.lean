/-
  The walks of the cursor that reads flags, storage types, fields, block types; no statement is proved here.
-/
import Derived.Test.YtfedijclhlchbaaGreatDoorCurT
namespace Go.Proofs.YtfedijclhlchbaaGreatDoor
open Go.RowKit
set_option linter.unusedVariables false
set_option linter.unusedSimpArgs false
set_option linter.constructorNameAsVariable false

end Go.Proofs.YtfedijclhlchbaaGreatDoor
