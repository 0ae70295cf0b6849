/-
  The walks of readAt at block types, and of BlockType; no statement is proved here.
-/
import Derived.Test.YtfedijclhlchbaaGreatDoorTopV
namespace Go.Proofs.YtfedijclhlchbaaGreatDoor
open Go.RowKit
set_option linter.unusedVariables false
set_option linter.unusedSimpArgs false
set_option linter.constructorNameAsVariable false

def ansB (x : BK × Int × Int) : Value := .tuple #[x.1.v, .int .i64 x.2.1, .int .i64 x.2.2]
end Go.Proofs.YtfedijclhlchbaaGreatDoor
