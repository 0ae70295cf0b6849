/-
  DERIVED. GIVEN WITH THE SEED: THE CARDS: each row of YtahmjgmaaaegcaaGreatDoorRows.lean that lists a variable, with what it lists TIED to the program's text (the seventh form; the later family's looks); each row that meets fmt, with fmt's text TOLD by the authors' own Lean function (tested against real Go, not proved from fmt's source: count such statements apart). THE CARD IS WHAT COUNTS. Prove the row's statement (the work); the ties are given (YtahmjgmaaaegcaaGreatDoorTie.lean); close each card by the builder's one call (the guide's Derived/Test/ToyasCard.lean, 'card_holds'). Laid BY PROGRAM, IN A SANDBOX (cutbox-door.mjs). By AI agents, Wed Nov 11 2026. No macro, syntax, notation, axiom, sorry.
-/
import Derived.Test.YtahmjgmaaaegcaaGreatDoorRows
import GoSem.ClaimSeven
namespace Go.Proofs.YtahmjgmaaaegcaaGreatDoor
namespace Rows

/-- THE TIED CARD OF 'ratchetlaw14.VnumOps'. -/
def vnumOpsCard : Claim7 := { stood := { row := vnumOpsRow, standIns := [], harness := (true, "9dcd6c4ec225af195226ceeeac42e67b11b4f2a3454a7a4bb47a518b8f1f5ee4"), looks := false }, kinds := [], alts := [], laidByText := true, laidKinds := [.data, .data, .data, .data, .data], laidTests := true, laidLooks := .later }
def VnumOpsCardSaid : Prop := Claim7.holds Tryz.pinned (.plain (OpenSpec.ofChange vnumOpsSpec)) vnumOpsCard

/-- THE TIED CARD OF 'ratchetlaw15.VctlTypes'. -/
def vctlTypesCard : Claim7 := { stood := { row := vctlTypesRow, standIns := [], harness := (true, "9dcd6c4ec225af195226ceeeac42e67b11b4f2a3454a7a4bb47a518b8f1f5ee4"), looks := false }, kinds := [], alts := [], laidByText := true, laidKinds := [.data, .data, .data], laidTests := true, laidLooks := .later }
def VctlTypesCardSaid : Prop := Claim7.holds Tryz.pinned (.plain (OpenSpec.ofChange vctlTypesSpec)) vctlTypesCard

/-- THE SECOND FORM's CARD OF 'ratchetlaw14.VnumOps'. -/
def vnumOpsUptoCard : Claim7 := { stood := { row := vnumOpsUptoRow, standIns := [], harness := (true, "9dcd6c4ec225af195226ceeeac42e67b11b4f2a3454a7a4bb47a518b8f1f5ee4"), looks := false }, kinds := [], alts := [], laidByText := true, laidKinds := [.data, .data, .data, .data, .data], laidTests := true, laidLooks := .later }
def VnumOpsUptoCardSaid : Prop := Claim7.holds Tryz.pinned (.plain (OpenSpec.upto vnumOpsSpec)) vnumOpsUptoCard

/-- THE SECOND FORM's CARD OF 'ratchetlaw15.VctlTypes'. -/
def vctlTypesUptoCard : Claim7 := { stood := { row := vctlTypesUptoRow, standIns := [], harness := (true, "9dcd6c4ec225af195226ceeeac42e67b11b4f2a3454a7a4bb47a518b8f1f5ee4"), looks := false }, kinds := [], alts := [], laidByText := true, laidKinds := [.data, .data, .data], laidTests := true, laidLooks := .later }
def VctlTypesUptoCardSaid : Prop := Claim7.holds Tryz.pinned (.plain (OpenSpec.upto vctlTypesSpec)) vctlTypesUptoCard
end Rows
end Go.Proofs.YtahmjgmaaaegcaaGreatDoor
