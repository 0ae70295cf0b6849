/-
  DERIVED. GIVEN WITH THE SEED: THE CARDS: each row of YtolllelejdnjlaaDoorRows.lean that lists a variable, with what it lists TIED to the program's text (the seventh form; the later family's looks); each row that meets fmt, with fmt's text TOLD by the authors' own Lean function (tested against real Go, not proved from fmt's source: count such statements apart). THE CARD IS WHAT COUNTS. Prove the row's statement (the work); the ties are given (YtolllelejdnjlaaDoorTie.lean); close each card by the builder's one call (the guide's Derived/Test/ToyasCard.lean, 'card_holds'). Laid BY PROGRAM, IN A SANDBOX (cutbox-door.mjs). By AI agents, Wed Nov 11 2026. No macro, syntax, notation, axiom, sorry.
-/
import Derived.Test.YtolllelejdnjlaaDoorRows
import GoSem.ClaimSeven
namespace Go.Proofs.YtolllelejdnjlaaDoor
namespace Rows

/-- THE TIED CARD OF 'ratchetlaw03.InumUnary'. -/
def inumUnaryCard : Claim7 := { stood := { row := inumUnaryRow, standIns := [], harness := (true, "6a8aedaee6fa5f6d18550b3b6dd0e07aee3f4930c665a4bfff795611bb21381c"), looks := false }, kinds := [], alts := [], laidByText := true, laidKinds := [.data], laidTests := true, laidLooks := .later }
def InumUnaryCardSaid : Prop := Claim7.holds Tryd.pinned (.plain (OpenSpec.ofChange inumUnarySpec)) inumUnaryCard

/-- THE TIED CARD OF 'ratchetlaw03.InumTurns'. -/
def inumTurnsCard : Claim7 := { stood := { row := inumTurnsRow, standIns := [], harness := (true, "6a8aedaee6fa5f6d18550b3b6dd0e07aee3f4930c665a4bfff795611bb21381c"), looks := false }, kinds := [], alts := [], laidByText := true, laidKinds := [.data], laidTests := true, laidLooks := .later }
def InumTurnsCardSaid : Prop := Claim7.holds Tryd.pinned (.plain (OpenSpec.ofChange inumTurnsSpec)) inumTurnsCard

/-- THE SECOND FORM's CARD OF 'ratchetlaw03.InumUnary'. -/
def inumUnaryUptoCard : Claim7 := { stood := { row := inumUnaryUptoRow, standIns := [], harness := (true, "6a8aedaee6fa5f6d18550b3b6dd0e07aee3f4930c665a4bfff795611bb21381c"), looks := false }, kinds := [], alts := [], laidByText := true, laidKinds := [.data], laidTests := true, laidLooks := .later }
def InumUnaryUptoCardSaid : Prop := Claim7.holds Tryd.pinned (.plain (OpenSpec.upto inumUnarySpec)) inumUnaryUptoCard

/-- THE SECOND FORM's CARD OF 'ratchetlaw03.InumTurns'. -/
def inumTurnsUptoCard : Claim7 := { stood := { row := inumTurnsUptoRow, standIns := [], harness := (true, "6a8aedaee6fa5f6d18550b3b6dd0e07aee3f4930c665a4bfff795611bb21381c"), looks := false }, kinds := [], alts := [], laidByText := true, laidKinds := [.data], laidTests := true, laidLooks := .later }
def InumTurnsUptoCardSaid : Prop := Claim7.holds Tryd.pinned (.plain (OpenSpec.upto inumTurnsSpec)) inumTurnsUptoCard
end Rows
end Go.Proofs.YtolllelejdnjlaaDoor
