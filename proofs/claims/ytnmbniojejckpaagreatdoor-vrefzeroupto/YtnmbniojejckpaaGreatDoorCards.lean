/-
  DERIVED. GIVEN WITH THE SEED: THE CARDS: each row of YtnmbniojejckpaaGreatDoorRows.lean that lists a variable, with what it lists TIED to the program's text (the seventh form; the later family's looks); each row that meets fmt, with fmt's text TOLD by the authors' own Lean function (tested against real Go, not proved from fmt's source: count such statements apart). THE CARD IS WHAT COUNTS. Prove the row's statement (the work); the ties are given (YtnmbniojejckpaaGreatDoorTie.lean); close each card by the builder's one call (the guide's Derived/Test/ToyasCard.lean, 'card_holds'). Laid BY PROGRAM, IN A SANDBOX (cutbox-door.mjs). By AI agents, Wed Nov 11 2026. No macro, syntax, notation, axiom, sorry.
-/
import Derived.Test.YtnmbniojejckpaaGreatDoorRows
import GoSem.ClaimSeven
namespace Go.Proofs.YtnmbniojejckpaaGreatDoor
namespace Rows

/-- THE TIED CARD OF 'ratchetlaw16.VrefConsts'. -/
def vrefConstsCard : Claim7 := { stood := { row := vrefConstsRow, standIns := [], harness := (true, "57aef01ae40db3d4d22c6f11da1ca2fe7aa703e3efa864e23428e4df57bab9ac"), looks := false }, kinds := [], alts := [], laidByText := true, laidKinds := [.data, .data, .data], laidTests := true, laidLooks := .later }
def VrefConstsCardSaid : Prop := Claim7.holds Tryz.pinned (.plain (OpenSpec.ofChange vrefConstsSpec)) vrefConstsCard

/-- THE TIED CARD OF 'ratchetlaw16.VrefZero'. -/
def vrefZeroCard : Claim7 := { stood := { row := vrefZeroRow, standIns := [], harness := (true, "57aef01ae40db3d4d22c6f11da1ca2fe7aa703e3efa864e23428e4df57bab9ac"), looks := false }, kinds := [], alts := [], laidByText := true, laidKinds := [.data, .data, .data], laidTests := true, laidLooks := .later }
def VrefZeroCardSaid : Prop := Claim7.holds Tryz.pinned (.plain (OpenSpec.ofChange vrefZeroSpec)) vrefZeroCard

/-- THE SECOND FORM's CARD OF 'ratchetlaw16.VrefConsts'. -/
def vrefConstsUptoCard : Claim7 := { stood := { row := vrefConstsUptoRow, standIns := [], harness := (true, "57aef01ae40db3d4d22c6f11da1ca2fe7aa703e3efa864e23428e4df57bab9ac"), looks := false }, kinds := [], alts := [], laidByText := true, laidKinds := [.data, .data, .data], laidTests := true, laidLooks := .later }
def VrefConstsUptoCardSaid : Prop := Claim7.holds Tryz.pinned (.plain (OpenSpec.upto vrefConstsSpec)) vrefConstsUptoCard

/-- THE SECOND FORM's CARD OF 'ratchetlaw16.VrefZero'. -/
def vrefZeroUptoCard : Claim7 := { stood := { row := vrefZeroUptoRow, standIns := [], harness := (true, "57aef01ae40db3d4d22c6f11da1ca2fe7aa703e3efa864e23428e4df57bab9ac"), looks := false }, kinds := [], alts := [], laidByText := true, laidKinds := [.data, .data, .data], laidTests := true, laidLooks := .later }
def VrefZeroUptoCardSaid : Prop := Claim7.holds Tryz.pinned (.plain (OpenSpec.upto vrefZeroSpec)) vrefZeroUptoCard
end Rows
end Go.Proofs.YtnmbniojejckpaaGreatDoor
