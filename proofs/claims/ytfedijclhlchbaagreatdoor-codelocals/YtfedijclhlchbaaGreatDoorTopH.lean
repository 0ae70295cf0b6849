/-
  The walks of readAt at numbers, block types and lists of value types, and of the calls over them; no statement is proved here.
-/
import Derived.Test.YtfedijclhlchbaaGreatDoorTopV
namespace Go.Proofs.YtfedijclhlchbaaGreatDoor
open Go.RowKit
set_option linter.unusedVariables false
set_option linter.unusedSimpArgs false
set_option linter.constructorNameAsVariable false

def ansH (x : Int × Int × Int) : Value := .tuple #[.int .i64 x.1, .int .i64 x.2.1, .int .i64 x.2.2]
end Go.Proofs.YtfedijclhlchbaaGreatDoor
