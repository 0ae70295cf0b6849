/-
  DERIVED. GIVEN WITH THE SEED: THE CARDS: each row of YtjkebimmddlccaaDoorRows.lean that lists a variable, with what it lists TIED to the program's text (the seventh form; the later family's looks); each row that meets fmt, with fmt's text TOLD by the authors' own Lean function (tested against real Go, not proved from fmt's source: count such statements apart). THE CARD IS WHAT COUNTS. Prove the row's statement (the work); the ties are given (YtjkebimmddlccaaDoorTie.lean); close each card by the builder's one call (the guide's Derived/Test/ToyasCard.lean, 'card_holds'). Laid BY PROGRAM, IN A SANDBOX (cutbox-door.mjs). By AI agents, Wed Nov 11 2026. No macro, syntax, notation, axiom, sorry.
-/
import Derived.Test.YtjkebimmddlccaaDoorRows
import GoSem.ClaimSeven
namespace Go.Proofs.YtjkebimmddlccaaDoor
namespace Rows

/-- THE TIED CARD OF 'ratchetlaw04.FnumUnary'. -/
def fnumUnaryCard : Claim7 := { stood := { row := fnumUnaryRow, standIns := [], harness := (true, "b3e6e499c5858c84169c0f4bf09b583ec60ff1e49102ea5fcdaf421e4c5dcb44"), looks := false }, kinds := [], alts := [], laidByText := true, laidKinds := [.data], laidTests := true, laidLooks := .later }
def FnumUnaryCardSaid : Prop := Claim7.holds Tryd.pinned (.plain (OpenSpec.ofChange fnumUnarySpec)) fnumUnaryCard

/-- THE TIED CARD OF 'ratchetlaw04.FnumBinary'. -/
def fnumBinaryCard : Claim7 := { stood := { row := fnumBinaryRow, standIns := [], harness := (true, "b3e6e499c5858c84169c0f4bf09b583ec60ff1e49102ea5fcdaf421e4c5dcb44"), looks := false }, kinds := [], alts := [], laidByText := true, laidKinds := [.data], laidTests := true, laidLooks := .later }
def FnumBinaryCardSaid : Prop := Claim7.holds Tryd.pinned (.plain (OpenSpec.ofChange fnumBinarySpec)) fnumBinaryCard

/-- THE TIED CARD OF 'ratchetlaw04.FnumCompare'. -/
def fnumCompareCard : Claim7 := { stood := { row := fnumCompareRow, standIns := [], harness := (true, "b3e6e499c5858c84169c0f4bf09b583ec60ff1e49102ea5fcdaf421e4c5dcb44"), looks := false }, kinds := [], alts := [], laidByText := true, laidKinds := [.data], laidTests := true, laidLooks := .later }
def FnumCompareCardSaid : Prop := Claim7.holds Tryd.pinned (.plain (OpenSpec.ofChange fnumCompareSpec)) fnumCompareCard

/-- THE TIED CARD OF 'ratchetlaw04.FnumConvert'. -/
def fnumConvertCard : Claim7 := { stood := { row := fnumConvertRow, standIns := [], harness := (true, "b3e6e499c5858c84169c0f4bf09b583ec60ff1e49102ea5fcdaf421e4c5dcb44"), looks := false }, kinds := [], alts := [], laidByText := true, laidKinds := [.data], laidTests := true, laidLooks := .later }
def FnumConvertCardSaid : Prop := Claim7.holds Tryd.pinned (.plain (OpenSpec.ofChange fnumConvertSpec)) fnumConvertCard

/-- THE TIED CARD OF 'ratchetlaw04.FnumOne'. -/
def fnumOneCard : Claim7 := { stood := { row := fnumOneRow, standIns := [], harness := (true, "b3e6e499c5858c84169c0f4bf09b583ec60ff1e49102ea5fcdaf421e4c5dcb44"), looks := false }, kinds := [], alts := [], laidByText := true, laidKinds := [.data], laidTests := true, laidLooks := .later }
def FnumOneCardSaid : Prop := Claim7.holds Tryd.pinned (.plain (OpenSpec.ofChange fnumOneSpec)) fnumOneCard

/-- THE SECOND FORM's CARD OF 'ratchetlaw04.FnumUnary'. -/
def fnumUnaryUptoCard : Claim7 := { stood := { row := fnumUnaryUptoRow, standIns := [], harness := (true, "b3e6e499c5858c84169c0f4bf09b583ec60ff1e49102ea5fcdaf421e4c5dcb44"), looks := false }, kinds := [], alts := [], laidByText := true, laidKinds := [.data], laidTests := true, laidLooks := .later }
def FnumUnaryUptoCardSaid : Prop := Claim7.holds Tryd.pinned (.plain (OpenSpec.upto fnumUnarySpec)) fnumUnaryUptoCard

/-- THE SECOND FORM's CARD OF 'ratchetlaw04.FnumBinary'. -/
def fnumBinaryUptoCard : Claim7 := { stood := { row := fnumBinaryUptoRow, standIns := [], harness := (true, "b3e6e499c5858c84169c0f4bf09b583ec60ff1e49102ea5fcdaf421e4c5dcb44"), looks := false }, kinds := [], alts := [], laidByText := true, laidKinds := [.data], laidTests := true, laidLooks := .later }
def FnumBinaryUptoCardSaid : Prop := Claim7.holds Tryd.pinned (.plain (OpenSpec.upto fnumBinarySpec)) fnumBinaryUptoCard

/-- THE SECOND FORM's CARD OF 'ratchetlaw04.FnumCompare'. -/
def fnumCompareUptoCard : Claim7 := { stood := { row := fnumCompareUptoRow, standIns := [], harness := (true, "b3e6e499c5858c84169c0f4bf09b583ec60ff1e49102ea5fcdaf421e4c5dcb44"), looks := false }, kinds := [], alts := [], laidByText := true, laidKinds := [.data], laidTests := true, laidLooks := .later }
def FnumCompareUptoCardSaid : Prop := Claim7.holds Tryd.pinned (.plain (OpenSpec.upto fnumCompareSpec)) fnumCompareUptoCard

/-- THE SECOND FORM's CARD OF 'ratchetlaw04.FnumConvert'. -/
def fnumConvertUptoCard : Claim7 := { stood := { row := fnumConvertUptoRow, standIns := [], harness := (true, "b3e6e499c5858c84169c0f4bf09b583ec60ff1e49102ea5fcdaf421e4c5dcb44"), looks := false }, kinds := [], alts := [], laidByText := true, laidKinds := [.data], laidTests := true, laidLooks := .later }
def FnumConvertUptoCardSaid : Prop := Claim7.holds Tryd.pinned (.plain (OpenSpec.upto fnumConvertSpec)) fnumConvertUptoCard

/-- THE SECOND FORM's CARD OF 'ratchetlaw04.FnumOne'. -/
def fnumOneUptoCard : Claim7 := { stood := { row := fnumOneUptoRow, standIns := [], harness := (true, "b3e6e499c5858c84169c0f4bf09b583ec60ff1e49102ea5fcdaf421e4c5dcb44"), looks := false }, kinds := [], alts := [], laidByText := true, laidKinds := [.data], laidTests := true, laidLooks := .later }
def FnumOneUptoCardSaid : Prop := Claim7.holds Tryd.pinned (.plain (OpenSpec.upto fnumOneSpec)) fnumOneUptoCard
end Rows
end Go.Proofs.YtjkebimmddlccaaDoor
