/-
  DERIVED. GIVEN WITH THE SEED: THE CARDS: each row of YtemaeigfhmnapaaGreatDoorRows.lean that lists a variable, with what it lists TIED to the program's text (the seventh form; the later family's looks); each row that meets fmt, with fmt's text TOLD by the authors' own Lean function (tested against real Go, not proved from fmt's source: count such statements apart). THE CARD IS WHAT COUNTS. Prove the row's statement (the work); the ties are given (YtemaeigfhmnapaaGreatDoorTie.lean); close each card by the builder's one call (the guide's Derived/Test/ToyasCard.lean, 'card_holds'). Laid BY PROGRAM, IN A SANDBOX (cutbox-door.mjs). By AI agents, Wed Nov 11 2026. No macro, syntax, notation, axiom, sorry.
-/
import Derived.Test.YtemaeigfhmnapaaGreatDoorRows
import GoSem.ClaimSeven
namespace Go.Proofs.YtemaeigfhmnapaaGreatDoor
namespace Rows

/-- THE TIED CARD OF 'ratchetlaw08.EntryRest'. -/
def entryRestCard : Claim7 := { stood := { row := entryRestRow, standIns := [], harness := (true, "ae46fb7b3f3491af2ac87188f6e89797f001870827100f68caa018dc1cccf39a"), looks := true }, kinds := [], alts := [], laidByText := true, laidKinds := [.data], laidTests := true, laidLooks := .later }
def EntryRestCardSaid : Prop := Claim7.holds Tryz.pinned (.plain (OpenSpec.ofChange entryRestSpec)) entryRestCard

/-- THE SECOND FORM's CARD OF 'ratchetlaw08.EntryRest'. -/
def entryRestUptoCard : Claim7 := { stood := { row := entryRestUptoRow, standIns := [], harness := (true, "ae46fb7b3f3491af2ac87188f6e89797f001870827100f68caa018dc1cccf39a"), looks := true }, kinds := [], alts := [], laidByText := true, laidKinds := [.data], laidTests := true, laidLooks := .later }
def EntryRestUptoCardSaid : Prop := Claim7.holds Tryz.pinned (.plain (OpenSpec.upto entryRestSpec)) entryRestUptoCard
end Rows
end Go.Proofs.YtemaeigfhmnapaaGreatDoor
