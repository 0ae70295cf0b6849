/-
  DERIVED. GIVEN WITH THE SEED: THE CARDS: each row of YtfedijclhlchbaaGreatDoorRows.lean that lists a variable, with what it lists TIED to the program's text (the seventh form; the later family's looks); each row that meets fmt, with fmt's text TOLD by the authors' own Lean function (tested against real Go, not proved from fmt's source: count such statements apart). THE CARD IS WHAT COUNTS. Prove the row's statement (the work); the ties are given (YtfedijclhlchbaaGreatDoorTie.lean); close each card by the builder's one call (the guide's Derived/Test/ToyasCard.lean, 'card_holds'). Laid BY PROGRAM, IN A SANDBOX (cutbox-door.mjs). By AI agents, Wed Nov 11 2026. No macro, syntax, notation, axiom, sorry.
-/
import Derived.Test.YtfedijclhlchbaaGreatDoorRows
import GoSem.ClaimSeven
namespace Go.Proofs.YtfedijclhlchbaaGreatDoor
namespace Rows

/-- THE TIED CARD OF 'ratchetlaw10.CodeLocals'. -/
def codeLocalsCard : Claim7 := { stood := { row := codeLocalsRow, standIns := [], harness := (true, "f7859559327b82afd06251f70c3113a2a61c89620c1f48f36a06074c2088473f"), looks := true }, kinds := [], alts := [], laidByText := true, laidKinds := [.data, .data], laidTests := true, laidLooks := .later }
def CodeLocalsCardSaid : Prop := Claim7.holds Tryz.pinned (.plain (OpenSpec.ofChange codeLocalsSpec)) codeLocalsCard

/-- THE SECOND FORM's CARD OF 'ratchetlaw10.CodeLocals'. -/
def codeLocalsUptoCard : Claim7 := { stood := { row := codeLocalsUptoRow, standIns := [], harness := (true, "f7859559327b82afd06251f70c3113a2a61c89620c1f48f36a06074c2088473f"), looks := true }, kinds := [], alts := [], laidByText := true, laidKinds := [.data, .data], laidTests := true, laidLooks := .later }
def CodeLocalsUptoCardSaid : Prop := Claim7.holds Tryz.pinned (.plain (OpenSpec.upto codeLocalsSpec)) codeLocalsUptoCard
end Rows
end Go.Proofs.YtfedijclhlchbaaGreatDoor
