/-
  DERIVED. GIVEN WITH THE SEED: THE CARDS: each row of YtgdhocdbcgmokaaDoorRows.lean that lists a variable, with what it lists TIED to the program's text (the seventh form; the later family's looks); each row that meets fmt, with fmt's text TOLD by the authors' own Lean function (tested against real Go, not proved from fmt's source: count such statements apart). THE CARD IS WHAT COUNTS. Prove the row's statement (the work); the ties are given (YtgdhocdbcgmokaaDoorTie.lean); close each card by the builder's one call (the guide's Derived/Test/ToyasCard.lean, 'card_holds'). Laid BY PROGRAM, IN A SANDBOX (cutbox-door.mjs). By AI agents, Wed Nov 11 2026. No macro, syntax, notation, axiom, sorry.
-/
import Derived.Test.YtgdhocdbcgmokaaDoorRows
import GoSem.ClaimSeven
namespace Go.Proofs.YtgdhocdbcgmokaaDoor
namespace Rows

/-- THE TIED CARD OF 'ratchetlaw08.EntryTypes'. -/
def entryTypesCard : Claim7 := { stood := { row := entryTypesRow, standIns := [], harness := (true, "a8fbcd021e2023da9e8f48ceccde3c2a1d1670577f982b2ee4e1ed6d5f155b71"), looks := true }, kinds := [], alts := [], laidByText := true, laidKinds := [.data], laidTests := true, laidLooks := .later }
def EntryTypesCardSaid : Prop := Claim7.holds Tryd.pinned (.plain (OpenSpec.ofChange entryTypesSpec)) entryTypesCard

/-- THE TIED CARD OF 'ratchetlaw08.EntryGroups'. -/
def entryGroupsCard : Claim7 := { stood := { row := entryGroupsRow, standIns := [], harness := (true, "a8fbcd021e2023da9e8f48ceccde3c2a1d1670577f982b2ee4e1ed6d5f155b71"), looks := true }, kinds := [], alts := [], laidByText := true, laidKinds := [.data], laidTests := true, laidLooks := .later }
def EntryGroupsCardSaid : Prop := Claim7.holds Tryd.pinned (.plain (OpenSpec.ofChange entryGroupsSpec)) entryGroupsCard

/-- THE TIED CARD OF 'ratchetlaw08.EntryWrites'. -/
def entryWritesCard : Claim7 := { stood := { row := entryWritesRow, standIns := [], harness := (true, "a8fbcd021e2023da9e8f48ceccde3c2a1d1670577f982b2ee4e1ed6d5f155b71"), looks := true }, kinds := [], alts := [], laidByText := true, laidKinds := [.data], laidTests := true, laidLooks := .later }
def EntryWritesCardSaid : Prop := Claim7.holds Tryd.pinned (.plain (OpenSpec.ofChange entryWritesSpec)) entryWritesCard

/-- THE TIED CARD OF 'ratchetlaw08.EntryPuts'. -/
def entryPutsCard : Claim7 := { stood := { row := entryPutsRow, standIns := [], harness := (true, "a8fbcd021e2023da9e8f48ceccde3c2a1d1670577f982b2ee4e1ed6d5f155b71"), looks := true }, kinds := [], alts := [], laidByText := true, laidKinds := [.data], laidTests := true, laidLooks := .later }
def EntryPutsCardSaid : Prop := Claim7.holds Tryd.pinned (.plain (OpenSpec.ofChange entryPutsSpec)) entryPutsCard

/-- THE SECOND FORM's CARD OF 'ratchetlaw08.EntryTypes'. -/
def entryTypesUptoCard : Claim7 := { stood := { row := entryTypesUptoRow, standIns := [], harness := (true, "a8fbcd021e2023da9e8f48ceccde3c2a1d1670577f982b2ee4e1ed6d5f155b71"), looks := true }, kinds := [], alts := [], laidByText := true, laidKinds := [.data], laidTests := true, laidLooks := .later }
def EntryTypesUptoCardSaid : Prop := Claim7.holds Tryd.pinned (.plain (OpenSpec.upto entryTypesSpec)) entryTypesUptoCard

/-- THE SECOND FORM's CARD OF 'ratchetlaw08.EntryGroups'. -/
def entryGroupsUptoCard : Claim7 := { stood := { row := entryGroupsUptoRow, standIns := [], harness := (true, "a8fbcd021e2023da9e8f48ceccde3c2a1d1670577f982b2ee4e1ed6d5f155b71"), looks := true }, kinds := [], alts := [], laidByText := true, laidKinds := [.data], laidTests := true, laidLooks := .later }
def EntryGroupsUptoCardSaid : Prop := Claim7.holds Tryd.pinned (.plain (OpenSpec.upto entryGroupsSpec)) entryGroupsUptoCard

/-- THE SECOND FORM's CARD OF 'ratchetlaw08.EntryWrites'. -/
def entryWritesUptoCard : Claim7 := { stood := { row := entryWritesUptoRow, standIns := [], harness := (true, "a8fbcd021e2023da9e8f48ceccde3c2a1d1670577f982b2ee4e1ed6d5f155b71"), looks := true }, kinds := [], alts := [], laidByText := true, laidKinds := [.data], laidTests := true, laidLooks := .later }
def EntryWritesUptoCardSaid : Prop := Claim7.holds Tryd.pinned (.plain (OpenSpec.upto entryWritesSpec)) entryWritesUptoCard

/-- THE SECOND FORM's CARD OF 'ratchetlaw08.EntryPuts'. -/
def entryPutsUptoCard : Claim7 := { stood := { row := entryPutsUptoRow, standIns := [], harness := (true, "a8fbcd021e2023da9e8f48ceccde3c2a1d1670577f982b2ee4e1ed6d5f155b71"), looks := true }, kinds := [], alts := [], laidByText := true, laidKinds := [.data], laidTests := true, laidLooks := .later }
def EntryPutsUptoCardSaid : Prop := Claim7.holds Tryd.pinned (.plain (OpenSpec.upto entryPutsSpec)) entryPutsUptoCard
end Rows
end Go.Proofs.YtgdhocdbcgmokaaDoor
