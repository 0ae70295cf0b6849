/-
  DERIVED. GIVEN WITH THE SEED: THE CARDS: each row of YtikaidokllnifaaGreatDoorRows.lean that lists a variable, with what it lists TIED to the program's text (the seventh form; the later family's looks); each row that meets fmt, with fmt's text TOLD by the authors' own Lean function (tested against real Go, not proved from fmt's source: count such statements apart). THE CARD IS WHAT COUNTS. Prove the row's statement (the work); the ties are given (YtikaidokllnifaaGreatDoorTie.lean); close each card by the builder's one call (the guide's Derived/Test/ToyasCard.lean, 'card_holds'). Laid BY PROGRAM, IN A SANDBOX (cutbox-door.mjs). By AI agents, Wed Nov 11 2026. No macro, syntax, notation, axiom, sorry.
-/
import Derived.Test.YtikaidokllnifaaGreatDoorRows
import GoSem.ClaimSeven
namespace Go.Proofs.YtikaidokllnifaaGreatDoor
namespace Rows

/-- THE TIED CARD OF 'ratchetlaw14.VnumAhead'. -/
def vnumAheadCard : Claim7 := { stood := { row := vnumAheadRow, standIns := [], harness := (true, "c283c3342aaff77f1fd766fe2ffd1fc4a4ad747a08e523b03188948ba9a2ae18"), looks := false }, kinds := [], alts := [], laidByText := true, laidKinds := [.data, .data, .data, .data, .data], laidTests := true, laidLooks := .later }
def VnumAheadCardSaid : Prop := Claim7.holds Tryz.pinned (.plain (OpenSpec.ofChange vnumAheadSpec)) vnumAheadCard

/-- THE TIED CARD OF 'ratchetlaw14.VnumDead'. -/
def vnumDeadCard : Claim7 := { stood := { row := vnumDeadRow, standIns := [], harness := (true, "c283c3342aaff77f1fd766fe2ffd1fc4a4ad747a08e523b03188948ba9a2ae18"), looks := false }, kinds := [], alts := [], laidByText := true, laidKinds := [.data, .data, .data, .data, .data], laidTests := true, laidLooks := .later }
def VnumDeadCardSaid : Prop := Claim7.holds Tryz.pinned (.plain (OpenSpec.ofChange vnumDeadSpec)) vnumDeadCard

/-- THE TIED CARD OF 'ratchetlaw14.VnumZero'. -/
def vnumZeroCard : Claim7 := { stood := { row := vnumZeroRow, standIns := [], harness := (true, "c283c3342aaff77f1fd766fe2ffd1fc4a4ad747a08e523b03188948ba9a2ae18"), looks := false }, kinds := [], alts := [], laidByText := true, laidKinds := [.data, .data, .data, .data, .data], laidTests := true, laidLooks := .later }
def VnumZeroCardSaid : Prop := Claim7.holds Tryz.pinned (.plain (OpenSpec.ofChange vnumZeroSpec)) vnumZeroCard

/-- THE TIED CARD OF 'ratchetlaw15.VctlAway'. -/
def vctlAwayCard : Claim7 := { stood := { row := vctlAwayRow, standIns := [], harness := (true, "c283c3342aaff77f1fd766fe2ffd1fc4a4ad747a08e523b03188948ba9a2ae18"), looks := false }, kinds := [], alts := [], laidByText := true, laidKinds := [.data, .data, .data], laidTests := true, laidLooks := .later }
def VctlAwayCardSaid : Prop := Claim7.holds Tryz.pinned (.plain (OpenSpec.ofChange vctlAwaySpec)) vctlAwayCard

/-- THE TIED CARD OF 'ratchetlaw15.VctlDead'. -/
def vctlDeadCard : Claim7 := { stood := { row := vctlDeadRow, standIns := [], harness := (true, "c283c3342aaff77f1fd766fe2ffd1fc4a4ad747a08e523b03188948ba9a2ae18"), looks := false }, kinds := [], alts := [], laidByText := true, laidKinds := [.data, .data, .data], laidTests := true, laidLooks := .later }
def VctlDeadCardSaid : Prop := Claim7.holds Tryz.pinned (.plain (OpenSpec.ofChange vctlDeadSpec)) vctlDeadCard

/-- THE TIED CARD OF 'ratchetlaw15.VctlZero'. -/
def vctlZeroCard : Claim7 := { stood := { row := vctlZeroRow, standIns := [], harness := (true, "c283c3342aaff77f1fd766fe2ffd1fc4a4ad747a08e523b03188948ba9a2ae18"), looks := false }, kinds := [], alts := [], laidByText := true, laidKinds := [.data, .data, .data], laidTests := true, laidLooks := .later }
def VctlZeroCardSaid : Prop := Claim7.holds Tryz.pinned (.plain (OpenSpec.ofChange vctlZeroSpec)) vctlZeroCard

/-- THE SECOND FORM's CARD OF 'ratchetlaw14.VnumAhead'. -/
def vnumAheadUptoCard : Claim7 := { stood := { row := vnumAheadUptoRow, standIns := [], harness := (true, "c283c3342aaff77f1fd766fe2ffd1fc4a4ad747a08e523b03188948ba9a2ae18"), looks := false }, kinds := [], alts := [], laidByText := true, laidKinds := [.data, .data, .data, .data, .data], laidTests := true, laidLooks := .later }
def VnumAheadUptoCardSaid : Prop := Claim7.holds Tryz.pinned (.plain (OpenSpec.upto vnumAheadSpec)) vnumAheadUptoCard

/-- THE SECOND FORM's CARD OF 'ratchetlaw14.VnumDead'. -/
def vnumDeadUptoCard : Claim7 := { stood := { row := vnumDeadUptoRow, standIns := [], harness := (true, "c283c3342aaff77f1fd766fe2ffd1fc4a4ad747a08e523b03188948ba9a2ae18"), looks := false }, kinds := [], alts := [], laidByText := true, laidKinds := [.data, .data, .data, .data, .data], laidTests := true, laidLooks := .later }
def VnumDeadUptoCardSaid : Prop := Claim7.holds Tryz.pinned (.plain (OpenSpec.upto vnumDeadSpec)) vnumDeadUptoCard

/-- THE SECOND FORM's CARD OF 'ratchetlaw14.VnumZero'. -/
def vnumZeroUptoCard : Claim7 := { stood := { row := vnumZeroUptoRow, standIns := [], harness := (true, "c283c3342aaff77f1fd766fe2ffd1fc4a4ad747a08e523b03188948ba9a2ae18"), looks := false }, kinds := [], alts := [], laidByText := true, laidKinds := [.data, .data, .data, .data, .data], laidTests := true, laidLooks := .later }
def VnumZeroUptoCardSaid : Prop := Claim7.holds Tryz.pinned (.plain (OpenSpec.upto vnumZeroSpec)) vnumZeroUptoCard

/-- THE SECOND FORM's CARD OF 'ratchetlaw15.VctlAway'. -/
def vctlAwayUptoCard : Claim7 := { stood := { row := vctlAwayUptoRow, standIns := [], harness := (true, "c283c3342aaff77f1fd766fe2ffd1fc4a4ad747a08e523b03188948ba9a2ae18"), looks := false }, kinds := [], alts := [], laidByText := true, laidKinds := [.data, .data, .data], laidTests := true, laidLooks := .later }
def VctlAwayUptoCardSaid : Prop := Claim7.holds Tryz.pinned (.plain (OpenSpec.upto vctlAwaySpec)) vctlAwayUptoCard

/-- THE SECOND FORM's CARD OF 'ratchetlaw15.VctlDead'. -/
def vctlDeadUptoCard : Claim7 := { stood := { row := vctlDeadUptoRow, standIns := [], harness := (true, "c283c3342aaff77f1fd766fe2ffd1fc4a4ad747a08e523b03188948ba9a2ae18"), looks := false }, kinds := [], alts := [], laidByText := true, laidKinds := [.data, .data, .data], laidTests := true, laidLooks := .later }
def VctlDeadUptoCardSaid : Prop := Claim7.holds Tryz.pinned (.plain (OpenSpec.upto vctlDeadSpec)) vctlDeadUptoCard

/-- THE SECOND FORM's CARD OF 'ratchetlaw15.VctlZero'. -/
def vctlZeroUptoCard : Claim7 := { stood := { row := vctlZeroUptoRow, standIns := [], harness := (true, "c283c3342aaff77f1fd766fe2ffd1fc4a4ad747a08e523b03188948ba9a2ae18"), looks := false }, kinds := [], alts := [], laidByText := true, laidKinds := [.data, .data, .data], laidTests := true, laidLooks := .later }
def VctlZeroUptoCardSaid : Prop := Claim7.holds Tryz.pinned (.plain (OpenSpec.upto vctlZeroSpec)) vctlZeroUptoCard
end Rows
end Go.Proofs.YtikaidokllnifaaGreatDoor
