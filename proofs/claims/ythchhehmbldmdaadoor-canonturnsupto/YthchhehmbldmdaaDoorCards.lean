/-
  DERIVED. GIVEN WITH THE SEED: THE CARDS: each row of YthchhehmbldmdaaDoorRows.lean that lists a variable, with what it lists TIED to the program's text (the seventh form; the later family's looks); each row that meets fmt, with fmt's text TOLD by the authors' own Lean function (tested against real Go, not proved from fmt's source: count such statements apart). THE CARD IS WHAT COUNTS. Prove the row's statement (the work); the ties are given (YthchhehmbldmdaaDoorTie.lean); close each card by the builder's one call (the guide's Derived/Test/ToyasCard.lean, 'card_holds'). Laid BY PROGRAM, IN A SANDBOX (cutbox-door.mjs). By AI agents, Wed Nov 11 2026. No macro, syntax, notation, axiom, sorry.
-/
import Derived.Test.YthchhehmbldmdaaDoorRows
import GoSem.ClaimSeven
namespace Go.Proofs.YthchhehmbldmdaaDoor
namespace Rows

/-- THE TIED CARD OF 'ratchetlaw06.CanonTurns'. -/
def canonTurnsCard : Claim7 := { stood := { row := canonTurnsRow, standIns := [], harness := (true, "1fcfedb41c9b090a9c6fd29fced509d1ef4a792b28eb64f01bf6f827cb85dd98"), looks := true }, kinds := [], alts := [], laidByText := true, laidKinds := [.data, .data, .data], laidTests := true, laidLooks := .later }
def CanonTurnsCardSaid : Prop := Claim7.holds Tryd.pinned (.plain (OpenSpec.ofChange canonTurnsSpec)) canonTurnsCard

/-- THE TIED CARD OF 'ratchetlaw06.CanonUnrolled'. -/
def canonUnrolledCard : Claim7 := { stood := { row := canonUnrolledRow, standIns := [], harness := (true, "1fcfedb41c9b090a9c6fd29fced509d1ef4a792b28eb64f01bf6f827cb85dd98"), looks := true }, kinds := [], alts := [], laidByText := true, laidKinds := [.data, .data, .data], laidTests := true, laidLooks := .later }
def CanonUnrolledCardSaid : Prop := Claim7.holds Tryd.pinned (.plain (OpenSpec.ofChange canonUnrolledSpec)) canonUnrolledCard

/-- THE TIED CARD OF 'ratchetlaw06.CanonZero'. -/
def canonZeroCard : Claim7 := { stood := { row := canonZeroRow, standIns := [], harness := (true, "1fcfedb41c9b090a9c6fd29fced509d1ef4a792b28eb64f01bf6f827cb85dd98"), looks := true }, kinds := [], alts := [], laidByText := true, laidKinds := [.data, .data, .data], laidTests := true, laidLooks := .later }
def CanonZeroCardSaid : Prop := Claim7.holds Tryd.pinned (.plain (OpenSpec.ofChange canonZeroSpec)) canonZeroCard

/-- THE SECOND FORM's CARD OF 'ratchetlaw06.CanonTurns'. -/
def canonTurnsUptoCard : Claim7 := { stood := { row := canonTurnsUptoRow, standIns := [], harness := (true, "1fcfedb41c9b090a9c6fd29fced509d1ef4a792b28eb64f01bf6f827cb85dd98"), looks := true }, kinds := [], alts := [], laidByText := true, laidKinds := [.data, .data, .data], laidTests := true, laidLooks := .later }
def CanonTurnsUptoCardSaid : Prop := Claim7.holds Tryd.pinned (.plain (OpenSpec.upto canonTurnsSpec)) canonTurnsUptoCard

/-- THE SECOND FORM's CARD OF 'ratchetlaw06.CanonUnrolled'. -/
def canonUnrolledUptoCard : Claim7 := { stood := { row := canonUnrolledUptoRow, standIns := [], harness := (true, "1fcfedb41c9b090a9c6fd29fced509d1ef4a792b28eb64f01bf6f827cb85dd98"), looks := true }, kinds := [], alts := [], laidByText := true, laidKinds := [.data, .data, .data], laidTests := true, laidLooks := .later }
def CanonUnrolledUptoCardSaid : Prop := Claim7.holds Tryd.pinned (.plain (OpenSpec.upto canonUnrolledSpec)) canonUnrolledUptoCard

/-- THE SECOND FORM's CARD OF 'ratchetlaw06.CanonZero'. -/
def canonZeroUptoCard : Claim7 := { stood := { row := canonZeroUptoRow, standIns := [], harness := (true, "1fcfedb41c9b090a9c6fd29fced509d1ef4a792b28eb64f01bf6f827cb85dd98"), looks := true }, kinds := [], alts := [], laidByText := true, laidKinds := [.data, .data, .data], laidTests := true, laidLooks := .later }
def CanonZeroUptoCardSaid : Prop := Claim7.holds Tryd.pinned (.plain (OpenSpec.upto canonZeroSpec)) canonZeroUptoCard
end Rows
end Go.Proofs.YthchhehmbldmdaaDoor
