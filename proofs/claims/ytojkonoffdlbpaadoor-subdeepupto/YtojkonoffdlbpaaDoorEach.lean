/-
  The walk of the program's each, for each closure that it is handed; no statement is proved here.
-/
import Derived.Test.YtojkonoffdlbpaaDoorCpd
namespace Go.Proofs.YtojkonoffdlbpaaDoor
open Go.RowKit
set_option linter.unusedVariables false
set_option linter.unusedSimpArgs false

def UNIT : Value := .tuple #[]
end Go.Proofs.YtojkonoffdlbpaaDoor
