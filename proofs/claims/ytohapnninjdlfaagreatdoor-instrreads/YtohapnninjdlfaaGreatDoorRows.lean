/-
  NARROWER THAN 'FOR EVERY INPUT', by the rows' own cells (each row's printed sentence says how): InstrReads: laid.
  DERIVED. THE GIVEN ROWS OF THIS SEAT. 1 by the template 'for every input the law returns true; each argument reads behind the call as it read before'; 0 by the template 'total and deterministic' (their statements: YtohapnninjdlfaaGreatDoorTotals.lean).
  GIVEN WITH THE SEED: the statements are not yours to turn. If you find one false, say at which input.
  Laid BY PROGRAM, IN A SANDBOX (cutbox-rows.mjs): the forced cells as the released guide's own fill.sh prints them over the translation dc6506c2746e114c… (all of the seat's roots in one cut). By AI agents, Wed Nov 11 2026. No macro, syntax, notation, axiom, sorry.
-/
import Derived.Test.YtohapnninjdlfaaGreatDoorChecked
import GoSem.Claim
import GoSem.ClaimJoined
import GoSem.ClaimMapViews
import Derived.JoinedTies
import Derived.KernelRfl
namespace Go.Proofs.YtohapnninjdlfaaGreatDoor
/- THE CELL 'sum', in the pinned program and in every row, IS THE sha256 OF THE DUMP (.gsa) THAT YtohapnninjdlfaaGreatDoorProg.lean LOADS. Nothing in Lean hashes anything: it is a label: what it is worth is what the hold of that sum in a sandbox is worth. -/
noncomputable def Tryz.pinned : Pinned := { name := "ytohapnninjdlfaagreatdoor", sum := "dc6506c2746e114c89d837f0c42b78921f0ec46920f2ccb358074b09e93f9334", checked := Tryz.checked }
namespace Rows
def none {H : Type} : Left H := { results := [], args := [] }

/- WHAT THE LISTED PACKAGE-LEVEL VARIABLES READ AS WHEN THE CALL BEGINS. Each datum BY PROGRAM (the guide's laid-datum.mjs) off the statement by which the dump's own 'gosem.cut.vars' lays the variable. In a bare row this is a premise. The card (YtohapnninjdlfaaGreatDoorCards.lean) ties it to the program's text. -/
def laid_ratchet_entry_codes {H : Type} : DataW H := .agg [.agg [.lit (.int .u8 127), .lit (.int .i64 1), .lit (.int .i64 1)], .agg [.lit (.int .u8 126), .lit (.int .i64 1), .lit (.int .i64 2)], .agg [.lit (.int .u8 125), .lit (.int .i64 1), .lit (.int .i64 3)], .agg [.lit (.int .u8 124), .lit (.int .i64 1), .lit (.int .i64 4)], .agg [.lit (.int .u8 123), .lit (.int .i64 2), .lit (.int .i64 0)], .agg [.lit (.int .u8 120), .lit (.int .i64 3), .lit (.int .i64 6)], .agg [.lit (.int .u8 119), .lit (.int .i64 3), .lit (.int .i64 7)], .agg [.lit (.int .u8 116), .lit (.int .i64 4), .lit (.int .i64 (-12))], .agg [.lit (.int .u8 115), .lit (.int .i64 4), .lit (.int .i64 (-2))], .agg [.lit (.int .u8 114), .lit (.int .i64 4), .lit (.int .i64 (-4))], .agg [.lit (.int .u8 113), .lit (.int .i64 4), .lit (.int .i64 (-10))], .agg [.lit (.int .u8 112), .lit (.int .i64 4), .lit (.int .i64 (-1))], .agg [.lit (.int .u8 111), .lit (.int .i64 4), .lit (.int .i64 (-3))], .agg [.lit (.int .u8 110), .lit (.int .i64 4), .lit (.int .i64 (-5))], .agg [.lit (.int .u8 109), .lit (.int .i64 4), .lit (.int .i64 (-6))], .agg [.lit (.int .u8 108), .lit (.int .i64 4), .lit (.int .i64 (-7))], .agg [.lit (.int .u8 107), .lit (.int .i64 4), .lit (.int .i64 (-8))], .agg [.lit (.int .u8 106), .lit (.int .i64 4), .lit (.int .i64 (-9))], .agg [.lit (.int .u8 105), .lit (.int .i64 4), .lit (.int .i64 (-11))], .agg [.lit (.int .u8 100), .lit (.int .i64 5), .lit (.int .i64 0)], .agg [.lit (.int .u8 99), .lit (.int .i64 5), .lit (.int .i64 1)], .agg [.lit (.int .u8 96), .lit (.int .i64 6), .lit (.int .i64 1)], .agg [.lit (.int .u8 95), .lit (.int .i64 6), .lit (.int .i64 2)], .agg [.lit (.int .u8 94), .lit (.int .i64 6), .lit (.int .i64 3)]]
def laid_ratchet_instr_formFields {H : Type} : DataW H := .agg [.slice [] [], .slice [] [], .slice [.lit (.int .i64 0)] [], .slice [.lit (.int .i64 0), .lit (.int .i64 1)] [], .slice [.lit (.int .i64 2)] [], .slice [.lit (.int .i64 2), .lit (.int .i64 3)] [], .slice [.lit (.int .i64 4), .lit (.int .i64 2)] [], .slice [.lit (.int .i64 5)] [], .slice [.lit (.int .i64 6)] [], .slice [.lit (.int .i64 7)] [], .slice [.lit (.int .i64 8)] [], .slice [.lit (.int .i64 9)] [], .slice [.lit (.int .i64 10)] [], .slice [.lit (.int .i64 11)] [], .slice [.lit (.int .i64 12)] [], .slice [.lit (.int .i64 13)] [], .slice [.lit (.int .i64 2), .lit (.int .i64 14)] []]

/-- 'ratchetlaw09.InstrReads': WHATEVER THE INPUT: true; the input reads as it did. -/
def instrReadsSpec : ChangeSpec := { name := "instrReads", fn := fun _ => fun
  | [d1, d2] => { results := [.lit (.bool true)], args := [d1, d2] }
  | _ => none }
def instrReadsRow : OpenClaim := { program := "ytohapnninjdlfaagreatdoor", sum := "dc6506c2746e114c89d837f0c42b78921f0ec46920f2ccb358074b09e93f9334", func := "ratchet/ratchetlaw09.InstrReads", spec := "instrReads", unfollowed := true, recurses := true, named := ["ratchet/instr.formFields", "ratchet/entry.codes"], apart := false, laid := [("ratchet/entry.codes", laid_ratchet_entry_codes), ("ratchet/instr.formFields", laid_ratchet_instr_formFields)] }
def InstrReadsSaid : Prop := instrReadsRow.holds Tryz.pinned (OpenSpec.ofChange instrReadsSpec)

/-- ITS FALSE NEIGHBOUR: 'it returns false'. Refute it at one input. -/
def instrReadsWrong : ChangeSpec := { name := "instrReads", fn := fun _ => fun
  | [d1, d2] => { results := [.lit (.bool false)], args := [d1, d2] }
  | _ => none }
def InstrReadsWrongFalsely : Prop := instrReadsRow.holds Tryz.pinned (OpenSpec.ofChange instrReadsWrong)

/- THE SECOND FORM. 'bulk': how many values and letters a reading holds, each counted each time it is reached (what is shared counts as often as it is met; a slice's spare places count too). A statement '..UptoSaid' is the law's where the arguments, and the package variables that the reading takes, are together of bulk at most 1048576: NARROWER than '..Said'. Prove '..Said' where nothing that the law and all that it calls make is longer than what came in: it says more and counts as full. Else prove '..UptoSaid'. A law counts once. -/
mutual
def uptoBulk {H : Type} : DataW H → Nat
  | .lit (.string bytes) => bytes.length + 1
  | .lit _ => 1
  | .nil => 1
  | .ptr d => uptoBulk d + 1
  | .slice elems spare => uptoBulkAll elems + uptoBulkAll spare + 1
  | .agg parts => uptoBulkAll parts + 1
  | .iface _ d => uptoBulk d + 1
  | .map entries => uptoBulkEntries entries + 1
  | .held _ => 1
def uptoBulkAll {H : Type} : List (DataW H) → Nat
  | [] => 0
  | d :: r => uptoBulk d + uptoBulkAll r
def uptoBulkEntries {H : Type} : List (Lit × DataW H) → Nat
  | [] => 0
  | x :: r => uptoBulkEntry x + uptoBulkEntries r
def uptoBulkEntry {H : Type} : Lit × DataW H → Nat
  | (.string bytes, d) => bytes.length + uptoBulk d + 1
  | (_, d) => uptoBulk d + 1
 end
def uptoSmall : (H : Type) → List (DataW H) → Bool := fun _ ds => decide (uptoBulkAll ds ≤ 1048576)
def OpenSpec.upto (s : _root_.Go.ChangeSpec) : _root_.Go.OpenSpec := { _root_.Go.OpenSpec.ofChange s with cond := some uptoSmall }

/-- 'ratchetlaw09.InstrReads', WHERE WHAT IT READS IS OF BULK AT MOST 1048576: true; the input reads as it did. -/
def instrReadsUptoRow : OpenClaim := { program := "ytohapnninjdlfaagreatdoor", sum := "dc6506c2746e114c89d837f0c42b78921f0ec46920f2ccb358074b09e93f9334", func := "ratchet/ratchetlaw09.InstrReads", spec := "instrReads", unfollowed := true, recurses := true, named := ["ratchet/instr.formFields", "ratchet/entry.codes"], apart := false, laid := [("ratchet/entry.codes", laid_ratchet_entry_codes), ("ratchet/instr.formFields", laid_ratchet_instr_formFields)], narrowed := true }
def InstrReadsUptoSaid : Prop := instrReadsUptoRow.holds Tryz.pinned (OpenSpec.upto instrReadsSpec)

end Rows
end Go.Proofs.YtohapnninjdlfaaGreatDoor
