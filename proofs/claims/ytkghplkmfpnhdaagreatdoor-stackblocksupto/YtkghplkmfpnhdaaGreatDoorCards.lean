/-
  DERIVED. GIVEN WITH THE SEED: THE CARDS: each row of YtkghplkmfpnhdaaGreatDoorRows.lean that lists a variable, with what it lists TIED to the program's text (the seventh form; the later family's looks); each row that meets fmt, with fmt's text TOLD by the authors' own Lean function (tested against real Go, not proved from fmt's source: count such statements apart). THE CARD IS WHAT COUNTS. Prove the row's statement (the work); the ties are given (YtkghplkmfpnhdaaGreatDoorTie.lean); close each card by the builder's one call (the guide's Derived/Test/ToyasCard.lean, 'card_holds'). Laid BY PROGRAM, IN A SANDBOX (cutbox-door.mjs). By AI agents, Wed Nov 11 2026. No macro, syntax, notation, axiom, sorry.
-/
import Derived.Test.YtkghplkmfpnhdaaGreatDoorRows
import GoSem.ClaimSeven
namespace Go.Proofs.YtkghplkmfpnhdaaGreatDoor
namespace Rows

/-- THE TIED CARD OF 'ratchetlaw13.StackDead'. -/
def stackDeadCard : Claim7 := { stood := { row := stackDeadRow, standIns := [], harness := (true, "e189549cce793519ceeef857e068e65f2b93283e1e2ceb16dae94f837b562cad"), looks := false }, kinds := [], alts := [], laidByText := true, laidKinds := [.data, .data, .data], laidTests := true, laidLooks := .later }
def StackDeadCardSaid : Prop := Claim7.holds Tryz.pinned (.plain (OpenSpec.ofChange stackDeadSpec)) stackDeadCard

/-- THE TIED CARD OF 'ratchetlaw13.StackBlocks'. -/
def stackBlocksCard : Claim7 := { stood := { row := stackBlocksRow, standIns := [], harness := (true, "e189549cce793519ceeef857e068e65f2b93283e1e2ceb16dae94f837b562cad"), looks := false }, kinds := [], alts := [], laidByText := true, laidKinds := [.data, .data, .data], laidTests := true, laidLooks := .later }
def StackBlocksCardSaid : Prop := Claim7.holds Tryz.pinned (.plain (OpenSpec.ofChange stackBlocksSpec)) stackBlocksCard

/-- THE TIED CARD OF 'ratchetlaw13.StackZero'. -/
def stackZeroCard : Claim7 := { stood := { row := stackZeroRow, standIns := [], harness := (true, "e189549cce793519ceeef857e068e65f2b93283e1e2ceb16dae94f837b562cad"), looks := false }, kinds := [], alts := [], laidByText := true, laidKinds := [.data, .data, .data], laidTests := true, laidLooks := .later }
def StackZeroCardSaid : Prop := Claim7.holds Tryz.pinned (.plain (OpenSpec.ofChange stackZeroSpec)) stackZeroCard

/-- THE SECOND FORM's CARD OF 'ratchetlaw13.StackDead'. -/
def stackDeadUptoCard : Claim7 := { stood := { row := stackDeadUptoRow, standIns := [], harness := (true, "e189549cce793519ceeef857e068e65f2b93283e1e2ceb16dae94f837b562cad"), looks := false }, kinds := [], alts := [], laidByText := true, laidKinds := [.data, .data, .data], laidTests := true, laidLooks := .later }
def StackDeadUptoCardSaid : Prop := Claim7.holds Tryz.pinned (.plain (OpenSpec.upto stackDeadSpec)) stackDeadUptoCard

/-- THE SECOND FORM's CARD OF 'ratchetlaw13.StackBlocks'. -/
def stackBlocksUptoCard : Claim7 := { stood := { row := stackBlocksUptoRow, standIns := [], harness := (true, "e189549cce793519ceeef857e068e65f2b93283e1e2ceb16dae94f837b562cad"), looks := false }, kinds := [], alts := [], laidByText := true, laidKinds := [.data, .data, .data], laidTests := true, laidLooks := .later }
def StackBlocksUptoCardSaid : Prop := Claim7.holds Tryz.pinned (.plain (OpenSpec.upto stackBlocksSpec)) stackBlocksUptoCard

/-- THE SECOND FORM's CARD OF 'ratchetlaw13.StackZero'. -/
def stackZeroUptoCard : Claim7 := { stood := { row := stackZeroUptoRow, standIns := [], harness := (true, "e189549cce793519ceeef857e068e65f2b93283e1e2ceb16dae94f837b562cad"), looks := false }, kinds := [], alts := [], laidByText := true, laidKinds := [.data, .data, .data], laidTests := true, laidLooks := .later }
def StackZeroUptoCardSaid : Prop := Claim7.holds Tryz.pinned (.plain (OpenSpec.upto stackZeroSpec)) stackZeroUptoCard
end Rows
end Go.Proofs.YtkghplkmfpnhdaaGreatDoor
