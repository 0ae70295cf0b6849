/-
  DERIVED. GIVEN WITH THE SEED: THE CARDS: each row of YtbhbogfdnaadeaaDoorRows.lean that lists a variable, with what it lists TIED to the program's text (the seventh form; the later family's looks); each row that meets fmt, with fmt's text TOLD by the authors' own Lean function (tested against real Go, not proved from fmt's source: count such statements apart). THE CARD IS WHAT COUNTS. Prove the row's statement (the work); the ties are given (YtbhbogfdnaadeaaDoorTie.lean); close each card by the builder's one call (the guide's Derived/Test/ToyasCard.lean, 'card_holds'). Laid BY PROGRAM, IN A SANDBOX (cutbox-door.mjs). By AI agents, Wed Nov 11 2026. No macro, syntax, notation, axiom, sorry.
-/
import Derived.Test.YtbhbogfdnaadeaaDoorRows
import GoSem.ClaimSeven
namespace Go.Proofs.YtbhbogfdnaadeaaDoor
namespace Rows

/-- THE TIED CARD OF 'ratchetlaw08.EntryWrites'. -/
def entryWritesCard : Claim7 := { stood := { row := entryWritesRow, standIns := [], harness := (true, "62ac91fc790400e7c9c667d1b0d90a39ee36a35f809afeb36e33e71932b81a00"), looks := true }, kinds := [], alts := [], laidByText := true, laidKinds := [.data], laidTests := true, laidLooks := .later }
def EntryWritesCardSaid : Prop := Claim7.holds Tryd.pinned (.plain (OpenSpec.ofChange entryWritesSpec)) entryWritesCard

/-- THE TIED CARD OF 'ratchetlaw08.EntryPuts'. -/
def entryPutsCard : Claim7 := { stood := { row := entryPutsRow, standIns := [], harness := (true, "62ac91fc790400e7c9c667d1b0d90a39ee36a35f809afeb36e33e71932b81a00"), looks := true }, kinds := [], alts := [], laidByText := true, laidKinds := [.data], laidTests := true, laidLooks := .later }
def EntryPutsCardSaid : Prop := Claim7.holds Tryd.pinned (.plain (OpenSpec.ofChange entryPutsSpec)) entryPutsCard

/-- THE TIED CARD OF 'ratchetlaw08.EntryLeast'. -/
def entryLeastCard : Claim7 := { stood := { row := entryLeastRow, standIns := [], harness := (true, "62ac91fc790400e7c9c667d1b0d90a39ee36a35f809afeb36e33e71932b81a00"), looks := true }, kinds := [], alts := [], laidByText := true, laidKinds := [.data], laidTests := true, laidLooks := .later }
def EntryLeastCardSaid : Prop := Claim7.holds Tryd.pinned (.plain (OpenSpec.ofChange entryLeastSpec)) entryLeastCard

/-- THE SECOND FORM's CARD OF 'ratchetlaw08.EntryWrites'. -/
def entryWritesUptoCard : Claim7 := { stood := { row := entryWritesUptoRow, standIns := [], harness := (true, "62ac91fc790400e7c9c667d1b0d90a39ee36a35f809afeb36e33e71932b81a00"), looks := true }, kinds := [], alts := [], laidByText := true, laidKinds := [.data], laidTests := true, laidLooks := .later }
def EntryWritesUptoCardSaid : Prop := Claim7.holds Tryd.pinned (.plain (OpenSpec.upto entryWritesSpec)) entryWritesUptoCard

/-- THE SECOND FORM's CARD OF 'ratchetlaw08.EntryPuts'. -/
def entryPutsUptoCard : Claim7 := { stood := { row := entryPutsUptoRow, standIns := [], harness := (true, "62ac91fc790400e7c9c667d1b0d90a39ee36a35f809afeb36e33e71932b81a00"), looks := true }, kinds := [], alts := [], laidByText := true, laidKinds := [.data], laidTests := true, laidLooks := .later }
def EntryPutsUptoCardSaid : Prop := Claim7.holds Tryd.pinned (.plain (OpenSpec.upto entryPutsSpec)) entryPutsUptoCard

/-- THE SECOND FORM's CARD OF 'ratchetlaw08.EntryLeast'. -/
def entryLeastUptoCard : Claim7 := { stood := { row := entryLeastUptoRow, standIns := [], harness := (true, "62ac91fc790400e7c9c667d1b0d90a39ee36a35f809afeb36e33e71932b81a00"), looks := true }, kinds := [], alts := [], laidByText := true, laidKinds := [.data], laidTests := true, laidLooks := .later }
def EntryLeastUptoCardSaid : Prop := Claim7.holds Tryd.pinned (.plain (OpenSpec.upto entryLeastSpec)) entryLeastUptoCard
end Rows
end Go.Proofs.YtbhbogfdnaadeaaDoor
