/-
  The walks of the reader's step, skip, take and giveUp; no statement is proved here.
-/
import Derived.Test.YtmcljnohdknpoaaDoorScan
import Derived.BigRegion
import Derived.BigQuiet
namespace Go.Proofs.YtmcljnohdknpoaaDoor
open Go.RowKit
set_option linter.unusedVariables false

/- The reader's block: the text, the word or bracket that comes next, and its place. -/
def rdr (s n : ByteArray) (p : Nat) : Obj := .cells #[.string s, .string n, .int .i64 (p : Int)] 69 (0, 0)
def RD (w : World) (b : Nat) (s : ByteArray) (p : Nat) : Prop := w.heap[b]? = some (rdr s (tk s p) p) ∧ At s p
/- What a reader gives up with. -/
def flt (p : Nat) : List PanicEntry := [{ v := .iface 67 (.agg #[.int .i64 (p : Int)]), recovered := false }]

theorem giveUp_any (b : Nat) (s n : ByteArray) (p : Nat) (w : World) (h : w.heap[b]? = some (rdr s n p)) :
    Calls Tryd.prog 60 #[.pointer (some ⟨b, 0, none⟩)] w fun en w' => en = .panicked (flt p) ∧ w' = w := by
  have c2 := cell_of h 2
  simp at c2
  clear h
  go_enter Tryd.func60, Tryd.ntmps60
  go_wp2
  exact ⟨rfl, rfl, rfl⟩
end Go.Proofs.YtmcljnohdknpoaaDoor
