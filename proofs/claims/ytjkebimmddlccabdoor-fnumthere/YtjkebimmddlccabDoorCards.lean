/-
  DERIVED. GIVEN WITH THE SEED: THE CARDS: each row of YtjkebimmddlccabDoorRows.lean that lists a variable, with what it lists TIED to the program's text (the seventh form; the later family's looks); each row that meets fmt, with fmt's text TOLD by the authors' own Lean function (tested against real Go, not proved from fmt's source: count such statements apart). THE CARD IS WHAT COUNTS. Prove the row's statement (the work); the ties are given (YtjkebimmddlccabDoorTie.lean); close each card by the builder's one call (the guide's Derived/Test/ToyasCard.lean, 'card_holds'). Laid BY PROGRAM, IN A SANDBOX (cutbox-door.mjs). By AI agents, Wed Nov 11 2026. No macro, syntax, notation, axiom, sorry.
-/
import Derived.Test.YtjkebimmddlccabDoorRows
import GoSem.ClaimSeven
namespace Go.Proofs.YtjkebimmddlccabDoor
namespace Rows

/-- THE TIED CARD OF 'ratchetlaw04.FnumTurns'. -/
def fnumTurnsCard : Claim7 := { stood := { row := fnumTurnsRow, standIns := [], harness := (true, "85d11f536316e661913521f43ab921a01bdfbc29403265ca32fe1d3e9c0cdd1b"), looks := false }, kinds := [], alts := [], laidByText := true, laidKinds := [.data], laidTests := true, laidLooks := .later }
def FnumTurnsCardSaid : Prop := Claim7.holds Tryd.pinned (.plain (OpenSpec.ofChange fnumTurnsSpec)) fnumTurnsCard

/-- THE TIED CARD OF 'ratchetlaw04.FnumThere'. -/
def fnumThereCard : Claim7 := { stood := { row := fnumThereRow, standIns := [], harness := (true, "85d11f536316e661913521f43ab921a01bdfbc29403265ca32fe1d3e9c0cdd1b"), looks := false }, kinds := [], alts := [], laidByText := true, laidKinds := [.data, .data], laidTests := true, laidLooks := .later }
def FnumThereCardSaid : Prop := Claim7.holds Tryd.pinned (.plain (OpenSpec.ofChange fnumThereSpec)) fnumThereCard

/-- THE TIED CARD OF 'ratchetlaw04.FnumOrder'. -/
def fnumOrderCard : Claim7 := { stood := { row := fnumOrderRow, standIns := [], harness := (true, "85d11f536316e661913521f43ab921a01bdfbc29403265ca32fe1d3e9c0cdd1b"), looks := false }, kinds := [], alts := [], laidByText := true, laidKinds := [.data], laidTests := true, laidLooks := .later }
def FnumOrderCardSaid : Prop := Claim7.holds Tryd.pinned (.plain (OpenSpec.ofChange fnumOrderSpec)) fnumOrderCard

/-- THE SECOND FORM's CARD OF 'ratchetlaw04.FnumTurns'. -/
def fnumTurnsUptoCard : Claim7 := { stood := { row := fnumTurnsUptoRow, standIns := [], harness := (true, "85d11f536316e661913521f43ab921a01bdfbc29403265ca32fe1d3e9c0cdd1b"), looks := false }, kinds := [], alts := [], laidByText := true, laidKinds := [.data], laidTests := true, laidLooks := .later }
def FnumTurnsUptoCardSaid : Prop := Claim7.holds Tryd.pinned (.plain (OpenSpec.upto fnumTurnsSpec)) fnumTurnsUptoCard

/-- THE SECOND FORM's CARD OF 'ratchetlaw04.FnumThere'. -/
def fnumThereUptoCard : Claim7 := { stood := { row := fnumThereUptoRow, standIns := [], harness := (true, "85d11f536316e661913521f43ab921a01bdfbc29403265ca32fe1d3e9c0cdd1b"), looks := false }, kinds := [], alts := [], laidByText := true, laidKinds := [.data, .data], laidTests := true, laidLooks := .later }
def FnumThereUptoCardSaid : Prop := Claim7.holds Tryd.pinned (.plain (OpenSpec.upto fnumThereSpec)) fnumThereUptoCard

/-- THE SECOND FORM's CARD OF 'ratchetlaw04.FnumOrder'. -/
def fnumOrderUptoCard : Claim7 := { stood := { row := fnumOrderUptoRow, standIns := [], harness := (true, "85d11f536316e661913521f43ab921a01bdfbc29403265ca32fe1d3e9c0cdd1b"), looks := false }, kinds := [], alts := [], laidByText := true, laidKinds := [.data], laidTests := true, laidLooks := .later }
def FnumOrderUptoCardSaid : Prop := Claim7.holds Tryd.pinned (.plain (OpenSpec.upto fnumOrderSpec)) fnumOrderUptoCard
end Rows
end Go.Proofs.YtjkebimmddlccabDoor
