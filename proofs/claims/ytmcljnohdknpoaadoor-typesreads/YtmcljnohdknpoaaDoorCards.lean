/-
  DERIVED. GIVEN WITH THE SEED: THE CARDS: each row of YtmcljnohdknpoaaDoorRows.lean that lists a variable, with what it lists TIED to the program's text (the seventh form; the later family's looks); each row that meets fmt, with fmt's text TOLD by the authors' own Lean function (tested against real Go, not proved from fmt's source: count such statements apart). THE CARD IS WHAT COUNTS. Prove the row's statement (the work); the ties are given (YtmcljnohdknpoaaDoorTie.lean); close each card by the builder's one call (the guide's Derived/Test/ToyasCard.lean, 'card_holds'). Laid BY PROGRAM, IN A SANDBOX (cutbox-door.mjs). By AI agents, Wed Nov 11 2026. No macro, syntax, notation, axiom, sorry.
-/
import Derived.Test.YtmcljnohdknpoaaDoorRows
import GoSem.ClaimSeven
namespace Go.Proofs.YtmcljnohdknpoaaDoor
namespace Rows

/-- THE TIED CARD OF 'ratchetlaw05.TypesParses'. -/
def typesParsesCard : Claim7 := { stood := { row := typesParsesRow, standIns := [], harness := (true, "3a79aff873a4eb7726527b28626a62e18055d6d1cc78d300fa283bcfd3bd1bea"), looks := true }, kinds := [], alts := [], laidByText := true, laidKinds := [.data, .data, .data, .sentinel, .sentinel, .data, .data], laidTests := true, laidLooks := .later }
def TypesParsesCardSaid : Prop := Claim7.holds Tryd.pinned (.plain (OpenSpec.ofChange typesParsesSpec)) typesParsesCard

/-- THE TIED CARD OF 'ratchetlaw05.TypesReads'. -/
def typesReadsCard : Claim7 := { stood := { row := typesReadsRow, standIns := [], harness := (true, "3a79aff873a4eb7726527b28626a62e18055d6d1cc78d300fa283bcfd3bd1bea"), looks := true }, kinds := [], alts := [], laidByText := true, laidKinds := [.data, .data, .data, .sentinel, .sentinel, .data, .data], laidTests := true, laidLooks := .later }
def TypesReadsCardSaid : Prop := Claim7.holds Tryd.pinned (.plain (OpenSpec.ofChange typesReadsSpec)) typesReadsCard

/-- THE TIED CARD OF 'ratchetlaw05.TypesSames'. -/
def typesSamesCard : Claim7 := { stood := { row := typesSamesRow, standIns := [], harness := (true, "3a79aff873a4eb7726527b28626a62e18055d6d1cc78d300fa283bcfd3bd1bea"), looks := true }, kinds := [], alts := [], laidByText := true, laidKinds := [.data, .data, .data, .data, .data], laidTests := true, laidLooks := .later }
def TypesSamesCardSaid : Prop := Claim7.holds Tryd.pinned (.plain (OpenSpec.ofChange typesSamesSpec)) typesSamesCard

/-- THE SECOND FORM's CARD OF 'ratchetlaw05.TypesParses'. -/
def typesParsesUptoCard : Claim7 := { stood := { row := typesParsesUptoRow, standIns := [], harness := (true, "3a79aff873a4eb7726527b28626a62e18055d6d1cc78d300fa283bcfd3bd1bea"), looks := true }, kinds := [], alts := [], laidByText := true, laidKinds := [.data, .data, .data, .sentinel, .sentinel, .data, .data], laidTests := true, laidLooks := .later }
def TypesParsesUptoCardSaid : Prop := Claim7.holds Tryd.pinned (.plain (OpenSpec.upto typesParsesSpec)) typesParsesUptoCard

/-- THE SECOND FORM's CARD OF 'ratchetlaw05.TypesReads'. -/
def typesReadsUptoCard : Claim7 := { stood := { row := typesReadsUptoRow, standIns := [], harness := (true, "3a79aff873a4eb7726527b28626a62e18055d6d1cc78d300fa283bcfd3bd1bea"), looks := true }, kinds := [], alts := [], laidByText := true, laidKinds := [.data, .data, .data, .sentinel, .sentinel, .data, .data], laidTests := true, laidLooks := .later }
def TypesReadsUptoCardSaid : Prop := Claim7.holds Tryd.pinned (.plain (OpenSpec.upto typesReadsSpec)) typesReadsUptoCard

/-- THE SECOND FORM's CARD OF 'ratchetlaw05.TypesSames'. -/
def typesSamesUptoCard : Claim7 := { stood := { row := typesSamesUptoRow, standIns := [], harness := (true, "3a79aff873a4eb7726527b28626a62e18055d6d1cc78d300fa283bcfd3bd1bea"), looks := true }, kinds := [], alts := [], laidByText := true, laidKinds := [.data, .data, .data, .data, .data], laidTests := true, laidLooks := .later }
def TypesSamesUptoCardSaid : Prop := Claim7.holds Tryd.pinned (.plain (OpenSpec.upto typesSamesSpec)) typesSamesUptoCard
end Rows
end Go.Proofs.YtmcljnohdknpoaaDoor
