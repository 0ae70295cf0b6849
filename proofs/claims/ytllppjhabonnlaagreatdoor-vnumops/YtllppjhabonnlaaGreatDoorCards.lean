/-
  DERIVED. GIVEN WITH THE SEED: THE CARDS: each row of YtllppjhabonnlaaGreatDoorRows.lean that lists a variable, with what it lists TIED to the program's text (the seventh form; the later family's looks); each row that meets fmt, with fmt's text TOLD by the authors' own Lean function (tested against real Go, not proved from fmt's source: count such statements apart). THE CARD IS WHAT COUNTS. Prove the row's statement (the work); the ties are given (YtllppjhabonnlaaGreatDoorTie.lean); close each card by the builder's one call (the guide's Derived/Test/ToyasCard.lean, 'card_holds'). Laid BY PROGRAM, IN A SANDBOX (cutbox-door.mjs). By AI agents, Wed Nov 11 2026. No macro, syntax, notation, axiom, sorry.
-/
import Derived.Test.YtllppjhabonnlaaGreatDoorRows
import GoSem.ClaimSeven
namespace Go.Proofs.YtllppjhabonnlaaGreatDoor
namespace Rows

/-- THE TIED CARD OF 'ratchetlaw14.VnumZero'. -/
def vnumZeroCard : Claim7 := { stood := { row := vnumZeroRow, standIns := [], harness := (true, "bc045363b52cacfe0697d1943135be7b2f5a41b32bbfe0b1b9682c9ace68ab8f"), looks := false }, kinds := [], alts := [], laidByText := true, laidKinds := [.data, .data, .data, .data, .data], laidTests := true, laidLooks := .later }
def VnumZeroCardSaid : Prop := Claim7.holds Tryz.pinned (.plain (OpenSpec.ofChange vnumZeroSpec)) vnumZeroCard

/-- THE TIED CARD OF 'ratchetlaw14.VnumOps'. -/
def vnumOpsCard : Claim7 := { stood := { row := vnumOpsRow, standIns := [], harness := (true, "bc045363b52cacfe0697d1943135be7b2f5a41b32bbfe0b1b9682c9ace68ab8f"), looks := false }, kinds := [], alts := [], laidByText := true, laidKinds := [.data, .data, .data, .data, .data], laidTests := true, laidLooks := .later }
def VnumOpsCardSaid : Prop := Claim7.holds Tryz.pinned (.plain (OpenSpec.ofChange vnumOpsSpec)) vnumOpsCard

/-- THE SECOND FORM's CARD OF 'ratchetlaw14.VnumZero'. -/
def vnumZeroUptoCard : Claim7 := { stood := { row := vnumZeroUptoRow, standIns := [], harness := (true, "bc045363b52cacfe0697d1943135be7b2f5a41b32bbfe0b1b9682c9ace68ab8f"), looks := false }, kinds := [], alts := [], laidByText := true, laidKinds := [.data, .data, .data, .data, .data], laidTests := true, laidLooks := .later }
def VnumZeroUptoCardSaid : Prop := Claim7.holds Tryz.pinned (.plain (OpenSpec.upto vnumZeroSpec)) vnumZeroUptoCard

/-- THE SECOND FORM's CARD OF 'ratchetlaw14.VnumOps'. -/
def vnumOpsUptoCard : Claim7 := { stood := { row := vnumOpsUptoRow, standIns := [], harness := (true, "bc045363b52cacfe0697d1943135be7b2f5a41b32bbfe0b1b9682c9ace68ab8f"), looks := false }, kinds := [], alts := [], laidByText := true, laidKinds := [.data, .data, .data, .data, .data], laidTests := true, laidLooks := .later }
def VnumOpsUptoCardSaid : Prop := Claim7.holds Tryz.pinned (.plain (OpenSpec.upto vnumOpsSpec)) vnumOpsUptoCard
end Rows
end Go.Proofs.YtllppjhabonnlaaGreatDoor
