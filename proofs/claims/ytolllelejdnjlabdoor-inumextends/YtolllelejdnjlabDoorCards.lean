/-
  DERIVED. GIVEN WITH THE SEED: THE CARDS: each row of YtolllelejdnjlabDoorRows.lean that lists a variable, with what it lists TIED to the program's text (the seventh form; the later family's looks); each row that meets fmt, with fmt's text TOLD by the authors' own Lean function (tested against real Go, not proved from fmt's source: count such statements apart). THE CARD IS WHAT COUNTS. Prove the row's statement (the work); the ties are given (YtolllelejdnjlabDoorTie.lean); close each card by the builder's one call (the guide's Derived/Test/ToyasCard.lean, 'card_holds'). Laid BY PROGRAM, IN A SANDBOX (cutbox-door.mjs). By AI agents, Wed Nov 11 2026. No macro, syntax, notation, axiom, sorry.
-/
import Derived.Test.YtolllelejdnjlabDoorRows
import GoSem.ClaimSeven
namespace Go.Proofs.YtolllelejdnjlabDoor
namespace Rows

/-- THE TIED CARD OF 'ratchetlaw03.InumExtends'. -/
def inumExtendsCard : Claim7 := { stood := { row := inumExtendsRow, standIns := [], harness := (true, "3a7b359a876c240e5224cecadf86612d9b91c456370f6c435aaa2c30b0506fec"), looks := false }, kinds := [], alts := [], laidByText := true, laidKinds := [.data], laidTests := true, laidLooks := .later }
def InumExtendsCardSaid : Prop := Claim7.holds Tryd.pinned (.plain (OpenSpec.ofChange inumExtendsSpec)) inumExtendsCard

/-- THE SECOND FORM's CARD OF 'ratchetlaw03.InumExtends'. -/
def inumExtendsUptoCard : Claim7 := { stood := { row := inumExtendsUptoRow, standIns := [], harness := (true, "3a7b359a876c240e5224cecadf86612d9b91c456370f6c435aaa2c30b0506fec"), looks := false }, kinds := [], alts := [], laidByText := true, laidKinds := [.data], laidTests := true, laidLooks := .later }
def InumExtendsUptoCardSaid : Prop := Claim7.holds Tryd.pinned (.plain (OpenSpec.upto inumExtendsSpec)) inumExtendsUptoCard
end Rows
end Go.Proofs.YtolllelejdnjlabDoor
