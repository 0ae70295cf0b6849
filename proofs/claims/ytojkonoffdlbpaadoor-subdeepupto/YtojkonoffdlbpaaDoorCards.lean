/-
  DERIVED. GIVEN WITH THE SEED: THE CARDS: each row of YtojkonoffdlbpaaDoorRows.lean that lists a variable, with what it lists TIED to the program's text (the seventh form; the later family's looks); each row that meets fmt, with fmt's text TOLD by the authors' own Lean function (tested against real Go, not proved from fmt's source: count such statements apart). THE CARD IS WHAT COUNTS. Prove the row's statement (the work); the ties are given (YtojkonoffdlbpaaDoorTie.lean); close each card by the builder's one call (the guide's Derived/Test/ToyasCard.lean, 'card_holds'). Laid BY PROGRAM, IN A SANDBOX (cutbox-door.mjs). By AI agents, Wed Nov 11 2026. No macro, syntax, notation, axiom, sorry.
-/
import Derived.Test.YtojkonoffdlbpaaDoorRows
import GoSem.ClaimSeven
namespace Go.Proofs.YtojkonoffdlbpaaDoor
namespace Rows

/-- THE TIED CARD OF 'ratchetlaw07.SubDeep'. -/
def subDeepCard : Claim7 := { stood := { row := subDeepRow, standIns := [], harness := (true, "589b12190b25dbd18aa11875ce5315e483c7dd8580dc1570813f479139e5c67c"), looks := false }, kinds := [], alts := [], laidByText := true, laidKinds := [.data, .data, .data], laidTests := true, laidLooks := .later }
def SubDeepCardSaid : Prop := Claim7.holds Tryd.pinned (.plain (OpenSpec.ofChange subDeepSpec)) subDeepCard

/-- THE SECOND FORM's CARD OF 'ratchetlaw07.SubDeep'. -/
def subDeepUptoCard : Claim7 := { stood := { row := subDeepUptoRow, standIns := [], harness := (true, "589b12190b25dbd18aa11875ce5315e483c7dd8580dc1570813f479139e5c67c"), looks := false }, kinds := [], alts := [], laidByText := true, laidKinds := [.data, .data, .data], laidTests := true, laidLooks := .later }
def SubDeepUptoCardSaid : Prop := Claim7.holds Tryd.pinned (.plain (OpenSpec.upto subDeepSpec)) subDeepUptoCard
end Rows
end Go.Proofs.YtojkonoffdlbpaaDoor
