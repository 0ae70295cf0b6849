/-
  DERIVED. GIVEN WITH THE SEED: THE CARDS: each row of YtoihkcdjfhmccaaDoorRows.lean that lists a variable, with what it lists TIED to the program's text (the seventh form; the later family's looks); each row that meets fmt, with fmt's text TOLD by the authors' own Lean function (tested against real Go, not proved from fmt's source: count such statements apart). THE CARD IS WHAT COUNTS. Prove the row's statement (the work); the ties are given (YtoihkcdjfhmccaaDoorTie.lean); close each card by the builder's one call (the guide's Derived/Test/ToyasCard.lean, 'card_holds'). Laid BY PROGRAM, IN A SANDBOX (cutbox-door.mjs). By AI agents, Wed Nov 11 2026. No macro, syntax, notation, axiom, sorry.
-/
import Derived.Test.YtoihkcdjfhmccaaDoorRows
import GoSem.ClaimSeven
namespace Go.Proofs.YtoihkcdjfhmccaaDoor
namespace Rows

/-- THE TIED CARD OF 'ratchetlaw05.TypesRolled'. -/
def typesRolledCard : Claim7 := { stood := { row := typesRolledRow, standIns := [], harness := (true, "bcb534f538d9fb7a796002bb6e3ed83e5aa82817992e5def5df0dbe7bfeb8798"), looks := true }, kinds := [], alts := [], laidByText := true, laidKinds := [.data, .data, .data, .data, .data], laidTests := true, laidLooks := .later }
def TypesRolledCardSaid : Prop := Claim7.holds Tryd.pinned (.plain (OpenSpec.ofChange typesRolledSpec)) typesRolledCard

/-- THE TIED CARD OF 'ratchetlaw06.CanonPlays'. -/
def canonPlaysCard : Claim7 := { stood := { row := canonPlaysRow, standIns := [], harness := (true, "bcb534f538d9fb7a796002bb6e3ed83e5aa82817992e5def5df0dbe7bfeb8798"), looks := true }, kinds := [], alts := [], laidByText := true, laidKinds := [.data, .data, .data], laidTests := true, laidLooks := .later }
def CanonPlaysCardSaid : Prop := Claim7.holds Tryd.pinned (.plain (OpenSpec.ofChange canonPlaysSpec)) canonPlaysCard

/-- THE TIED CARD OF 'ratchetlaw06.CanonTurns'. -/
def canonTurnsCard : Claim7 := { stood := { row := canonTurnsRow, standIns := [], harness := (true, "bcb534f538d9fb7a796002bb6e3ed83e5aa82817992e5def5df0dbe7bfeb8798"), looks := true }, kinds := [], alts := [], laidByText := true, laidKinds := [.data, .data, .data], laidTests := true, laidLooks := .later }
def CanonTurnsCardSaid : Prop := Claim7.holds Tryd.pinned (.plain (OpenSpec.ofChange canonTurnsSpec)) canonTurnsCard

/-- THE TIED CARD OF 'ratchetlaw06.CanonUnrolled'. -/
def canonUnrolledCard : Claim7 := { stood := { row := canonUnrolledRow, standIns := [], harness := (true, "bcb534f538d9fb7a796002bb6e3ed83e5aa82817992e5def5df0dbe7bfeb8798"), looks := true }, kinds := [], alts := [], laidByText := true, laidKinds := [.data, .data, .data], laidTests := true, laidLooks := .later }
def CanonUnrolledCardSaid : Prop := Claim7.holds Tryd.pinned (.plain (OpenSpec.ofChange canonUnrolledSpec)) canonUnrolledCard

/-- THE SECOND FORM's CARD OF 'ratchetlaw05.TypesRolled'. -/
def typesRolledUptoCard : Claim7 := { stood := { row := typesRolledUptoRow, standIns := [], harness := (true, "bcb534f538d9fb7a796002bb6e3ed83e5aa82817992e5def5df0dbe7bfeb8798"), looks := true }, kinds := [], alts := [], laidByText := true, laidKinds := [.data, .data, .data, .data, .data], laidTests := true, laidLooks := .later }
def TypesRolledUptoCardSaid : Prop := Claim7.holds Tryd.pinned (.plain (OpenSpec.upto typesRolledSpec)) typesRolledUptoCard

/-- THE SECOND FORM's CARD OF 'ratchetlaw06.CanonPlays'. -/
def canonPlaysUptoCard : Claim7 := { stood := { row := canonPlaysUptoRow, standIns := [], harness := (true, "bcb534f538d9fb7a796002bb6e3ed83e5aa82817992e5def5df0dbe7bfeb8798"), looks := true }, kinds := [], alts := [], laidByText := true, laidKinds := [.data, .data, .data], laidTests := true, laidLooks := .later }
def CanonPlaysUptoCardSaid : Prop := Claim7.holds Tryd.pinned (.plain (OpenSpec.upto canonPlaysSpec)) canonPlaysUptoCard

/-- THE SECOND FORM's CARD OF 'ratchetlaw06.CanonTurns'. -/
def canonTurnsUptoCard : Claim7 := { stood := { row := canonTurnsUptoRow, standIns := [], harness := (true, "bcb534f538d9fb7a796002bb6e3ed83e5aa82817992e5def5df0dbe7bfeb8798"), looks := true }, kinds := [], alts := [], laidByText := true, laidKinds := [.data, .data, .data], laidTests := true, laidLooks := .later }
def CanonTurnsUptoCardSaid : Prop := Claim7.holds Tryd.pinned (.plain (OpenSpec.upto canonTurnsSpec)) canonTurnsUptoCard

/-- THE SECOND FORM's CARD OF 'ratchetlaw06.CanonUnrolled'. -/
def canonUnrolledUptoCard : Claim7 := { stood := { row := canonUnrolledUptoRow, standIns := [], harness := (true, "bcb534f538d9fb7a796002bb6e3ed83e5aa82817992e5def5df0dbe7bfeb8798"), looks := true }, kinds := [], alts := [], laidByText := true, laidKinds := [.data, .data, .data], laidTests := true, laidLooks := .later }
def CanonUnrolledUptoCardSaid : Prop := Claim7.holds Tryd.pinned (.plain (OpenSpec.upto canonUnrolledSpec)) canonUnrolledUptoCard
end Rows
end Go.Proofs.YtoihkcdjfhmccaaDoor
