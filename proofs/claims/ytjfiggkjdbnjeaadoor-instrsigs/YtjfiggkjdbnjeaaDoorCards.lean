/-
  DERIVED. GIVEN WITH THE SEED: THE CARDS: each row of YtjfiggkjdbnjeaaDoorRows.lean that lists a variable, with what it lists TIED to the program's text (the seventh form; the later family's looks); each row that meets fmt, with fmt's text TOLD by the authors' own Lean function (tested against real Go, not proved from fmt's source: count such statements apart). THE CARD IS WHAT COUNTS. Prove the row's statement (the work); the ties are given (YtjfiggkjdbnjeaaDoorTie.lean); close each card by the builder's one call (the guide's Derived/Test/ToyasCard.lean, 'card_holds'). Laid BY PROGRAM, IN A SANDBOX (cutbox-door.mjs). By AI agents, Wed Nov 11 2026. No macro, syntax, notation, axiom, sorry.
-/
import Derived.Test.YtjfiggkjdbnjeaaDoorRows
import GoSem.ClaimSeven
namespace Go.Proofs.YtjfiggkjdbnjeaaDoor
namespace Rows

/-- THE TIED CARD OF 'ratchetlaw09.InstrWrites'. -/
def instrWritesCard : Claim7 := { stood := { row := instrWritesRow, standIns := [], harness := (true, "51214ba5fa836034d0cc782111a14932fd24b0e0cca986c569b9532fa90f751f"), looks := true }, kinds := [], alts := [], laidByText := true, laidKinds := [.data, .data], laidTests := true, laidLooks := .later }
def InstrWritesCardSaid : Prop := Claim7.holds Tryd.pinned (.plain (OpenSpec.ofChange instrWritesSpec)) instrWritesCard

/-- THE TIED CARD OF 'ratchetlaw09.InstrTexts'. -/
def instrTextsCard : Claim7 := { stood := { row := instrTextsRow, standIns := [], harness := (true, "51214ba5fa836034d0cc782111a14932fd24b0e0cca986c569b9532fa90f751f"), looks := true }, kinds := [], alts := [], laidByText := true, laidKinds := [.data, .data, .data, .data, .data, .data], laidTests := true, laidLooks := .later }
def InstrTextsCardSaid : Prop := Claim7.holds Tryd.pinned (.plain (OpenSpec.ofChange instrTextsSpec)) instrTextsCard

/-- THE TIED CARD OF 'ratchetlaw09.InstrSigs'. -/
def instrSigsCard : Claim7 := { stood := { row := instrSigsRow, standIns := [], harness := (true, "51214ba5fa836034d0cc782111a14932fd24b0e0cca986c569b9532fa90f751f"), looks := true }, kinds := [], alts := [], laidByText := true, laidKinds := [.data, .data], laidTests := true, laidLooks := .later }
def InstrSigsCardSaid : Prop := Claim7.holds Tryd.pinned (.plain (OpenSpec.ofChange instrSigsSpec)) instrSigsCard

/-- THE SECOND FORM's CARD OF 'ratchetlaw09.InstrWrites'. -/
def instrWritesUptoCard : Claim7 := { stood := { row := instrWritesUptoRow, standIns := [], harness := (true, "51214ba5fa836034d0cc782111a14932fd24b0e0cca986c569b9532fa90f751f"), looks := true }, kinds := [], alts := [], laidByText := true, laidKinds := [.data, .data], laidTests := true, laidLooks := .later }
def InstrWritesUptoCardSaid : Prop := Claim7.holds Tryd.pinned (.plain (OpenSpec.upto instrWritesSpec)) instrWritesUptoCard

/-- THE SECOND FORM's CARD OF 'ratchetlaw09.InstrTexts'. -/
def instrTextsUptoCard : Claim7 := { stood := { row := instrTextsUptoRow, standIns := [], harness := (true, "51214ba5fa836034d0cc782111a14932fd24b0e0cca986c569b9532fa90f751f"), looks := true }, kinds := [], alts := [], laidByText := true, laidKinds := [.data, .data, .data, .data, .data, .data], laidTests := true, laidLooks := .later }
def InstrTextsUptoCardSaid : Prop := Claim7.holds Tryd.pinned (.plain (OpenSpec.upto instrTextsSpec)) instrTextsUptoCard

/-- THE SECOND FORM's CARD OF 'ratchetlaw09.InstrSigs'. -/
def instrSigsUptoCard : Claim7 := { stood := { row := instrSigsUptoRow, standIns := [], harness := (true, "51214ba5fa836034d0cc782111a14932fd24b0e0cca986c569b9532fa90f751f"), looks := true }, kinds := [], alts := [], laidByText := true, laidKinds := [.data, .data], laidTests := true, laidLooks := .later }
def InstrSigsUptoCardSaid : Prop := Claim7.holds Tryd.pinned (.plain (OpenSpec.upto instrSigsSpec)) instrSigsUptoCard
end Rows
end Go.Proofs.YtjfiggkjdbnjeaaDoor
