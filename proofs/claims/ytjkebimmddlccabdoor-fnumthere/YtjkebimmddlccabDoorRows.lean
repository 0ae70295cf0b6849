/-
  NARROWER THAN 'FOR EVERY INPUT', by the rows' own cells (each row's printed sentence says how): FnumTurns: laid · FnumThere: laid · FnumOrder: laid.
  DERIVED. THE GIVEN ROWS OF THIS SEAT. 3 by the template 'for every input the law returns true; each argument reads behind the call as it read before'; 0 by the template 'total and deterministic' (their statements: YtjkebimmddlccabDoorTotals.lean).
  GIVEN WITH THE SEED: the statements are not yours to turn. If you find one false, say at which input.
  Laid BY PROGRAM, IN A SANDBOX (cutbox-rows.mjs): the forced cells as the released guide's own fill.sh prints them over the translation 500c18f9c6f4e794… (all of the seat's roots in one cut). By AI agents, Wed Nov 11 2026. No macro, syntax, notation, axiom, sorry.
-/
import Derived.Test.YtjkebimmddlccabDoorChecked
import GoSem.Claim
import GoSem.ClaimJoined
import GoSem.ClaimMapViews
import Derived.JoinedTies
import Derived.KernelRfl
namespace Go.Proofs.YtjkebimmddlccabDoor
/- THE CELL 'sum', in the pinned program and in every row, IS THE sha256 OF THE DUMP (.gsa) THAT YtjkebimmddlccabDoorProg.lean LOADS. Nothing in Lean hashes anything: it is a label: what it is worth is what the hold of that sum in a sandbox is worth. -/
noncomputable def Tryd.pinned : Pinned := { name := "ytjkebimmddlccabdoor", sum := "500c18f9c6f4e7944b054fb665bbf3865824961ad176836687d6d14b41a3714d", checked := Tryd.checked }
namespace Rows
def none {H : Type} : Left H := { results := [], args := [] }

/- WHAT THE LISTED PACKAGE-LEVEL VARIABLES READ AS WHEN THE CALL BEGINS. Each datum BY PROGRAM (the guide's laid-datum.mjs) off the statement by which the dump's own 'gosem.cut.vars' lays the variable. In a bare row this is a premise. The card (YtjkebimmddlccabDoorCards.lean) ties it to the program's text. -/
def laid_ratchet_fnum_rows {H : Type} : DataW H := .agg [.agg [.lit (.int .i64 1), .lit (.int .i64 32), .lit (.int .i64 91), .lit (.int .i64 96)], .agg [.lit (.int .i64 1), .lit (.int .i64 64), .lit (.int .i64 97), .lit (.int .i64 102)], .agg [.lit (.int .i64 7), .lit (.int .i64 32), .lit (.int .i64 139), .lit (.int .i64 145)], .agg [.lit (.int .i64 7), .lit (.int .i64 64), .lit (.int .i64 153), .lit (.int .i64 159)], .agg [.lit (.int .i64 14), .lit (.int .i64 32), .lit (.int .i64 146), .lit (.int .i64 152)], .agg [.lit (.int .i64 14), .lit (.int .i64 64), .lit (.int .i64 160), .lit (.int .i64 166)]]
def laid_ratchet_fnum_conversions {H : Type} : DataW H := .agg [.agg [.lit (.int .i64 21), .lit (.int .i64 32), .lit (.int .i64 32), .lit (.bool true)], .agg [.lit (.int .i64 21), .lit (.int .i64 32), .lit (.int .i64 32), .lit (.bool false)], .agg [.lit (.int .i64 21), .lit (.int .i64 64), .lit (.int .i64 32), .lit (.bool true)], .agg [.lit (.int .i64 21), .lit (.int .i64 64), .lit (.int .i64 32), .lit (.bool false)], .agg [.lit (.int .i64 0), .lit (.int .i64 0), .lit (.int .i64 0), .lit (.bool false)], .agg [.lit (.int .i64 0), .lit (.int .i64 0), .lit (.int .i64 0), .lit (.bool false)], .agg [.lit (.int .i64 21), .lit (.int .i64 32), .lit (.int .i64 64), .lit (.bool true)], .agg [.lit (.int .i64 21), .lit (.int .i64 32), .lit (.int .i64 64), .lit (.bool false)], .agg [.lit (.int .i64 21), .lit (.int .i64 64), .lit (.int .i64 64), .lit (.bool true)], .agg [.lit (.int .i64 21), .lit (.int .i64 64), .lit (.int .i64 64), .lit (.bool false)], .agg [.lit (.int .i64 23), .lit (.int .i64 32), .lit (.int .i64 32), .lit (.bool true)], .agg [.lit (.int .i64 23), .lit (.int .i64 32), .lit (.int .i64 32), .lit (.bool false)], .agg [.lit (.int .i64 23), .lit (.int .i64 64), .lit (.int .i64 32), .lit (.bool true)], .agg [.lit (.int .i64 23), .lit (.int .i64 64), .lit (.int .i64 32), .lit (.bool false)], .agg [.lit (.int .i64 24), .lit (.int .i64 64), .lit (.int .i64 32), .lit (.bool false)], .agg [.lit (.int .i64 23), .lit (.int .i64 32), .lit (.int .i64 64), .lit (.bool true)], .agg [.lit (.int .i64 23), .lit (.int .i64 32), .lit (.int .i64 64), .lit (.bool false)], .agg [.lit (.int .i64 23), .lit (.int .i64 64), .lit (.int .i64 64), .lit (.bool true)], .agg [.lit (.int .i64 23), .lit (.int .i64 64), .lit (.int .i64 64), .lit (.bool false)], .agg [.lit (.int .i64 25), .lit (.int .i64 32), .lit (.int .i64 64), .lit (.bool false)], .agg [.lit (.int .i64 26), .lit (.int .i64 32), .lit (.int .i64 32), .lit (.bool false)], .agg [.lit (.int .i64 26), .lit (.int .i64 64), .lit (.int .i64 64), .lit (.bool false)], .agg [.lit (.int .i64 26), .lit (.int .i64 32), .lit (.int .i64 32), .lit (.bool false)], .agg [.lit (.int .i64 26), .lit (.int .i64 64), .lit (.int .i64 64), .lit (.bool false)]]

/-- 'ratchetlaw04.FnumTurns': WHATEVER THE INPUT: true; the input reads as it did. -/
def fnumTurnsSpec : ChangeSpec := { name := "fnumTurns", fn := fun _ => fun
  | [d1, d2, d3] => { results := [.lit (.bool true)], args := [d1, d2, d3] }
  | _ => none }
def fnumTurnsRow : OpenClaim := { program := "ytjkebimmddlccabdoor", sum := "500c18f9c6f4e7944b054fb665bbf3865824961ad176836687d6d14b41a3714d", func := "ratchet/ratchetlaw04.FnumTurns", spec := "fnumTurns", inPlace := ["math.Float32frombits", "math.Float32bits", "math.Float64frombits", "math.Float64bits", "math.archCeil", "math.archFloor", "math.archTrunc", "math.RoundToEven", "math.sqrt"], named := ["ratchet/fnum.rows"], apart := false, laid := [("ratchet/fnum.rows", laid_ratchet_fnum_rows)] }
def FnumTurnsSaid : Prop := fnumTurnsRow.holds Tryd.pinned (OpenSpec.ofChange fnumTurnsSpec)

/-- ITS FALSE NEIGHBOUR: 'it returns false'. Refute it at one input. -/
def fnumTurnsWrong : ChangeSpec := { name := "fnumTurns", fn := fun _ => fun
  | [d1, d2, d3] => { results := [.lit (.bool false)], args := [d1, d2, d3] }
  | _ => none }
def FnumTurnsWrongFalsely : Prop := fnumTurnsRow.holds Tryd.pinned (OpenSpec.ofChange fnumTurnsWrong)

/-- 'ratchetlaw04.FnumThere': WHATEVER THE INPUT: true; the input reads as it did. -/
def fnumThereSpec : ChangeSpec := { name := "fnumThere", fn := fun _ => fun
  | [d] => { results := [.lit (.bool true)], args := [d] }
  | _ => none }
def fnumThereRow : OpenClaim := { program := "ytjkebimmddlccabdoor", sum := "500c18f9c6f4e7944b054fb665bbf3865824961ad176836687d6d14b41a3714d", func := "ratchet/ratchetlaw04.FnumThere", spec := "fnumThere", inPlace := ["math.Float32frombits", "math.Float32bits", "math.Float64frombits", "math.Float64bits", "math.archTrunc"], named := ["ratchet/fnum.rows", "ratchet/fnum.conversions"], apart := false, laid := [("ratchet/fnum.rows", laid_ratchet_fnum_rows), ("ratchet/fnum.conversions", laid_ratchet_fnum_conversions)] }
def FnumThereSaid : Prop := fnumThereRow.holds Tryd.pinned (OpenSpec.ofChange fnumThereSpec)

/-- ITS FALSE NEIGHBOUR: 'it returns false'. Refute it at one input. -/
def fnumThereWrong : ChangeSpec := { name := "fnumThere", fn := fun _ => fun
  | [d] => { results := [.lit (.bool false)], args := [d] }
  | _ => none }
def FnumThereWrongFalsely : Prop := fnumThereRow.holds Tryd.pinned (OpenSpec.ofChange fnumThereWrong)

/-- 'ratchetlaw04.FnumOrder': WHATEVER THE INPUT: true; the input reads as it did. -/
def fnumOrderSpec : ChangeSpec := { name := "fnumOrder", fn := fun _ => fun
  | [d1, d2, d3] => { results := [.lit (.bool true)], args := [d1, d2, d3] }
  | _ => none }
def fnumOrderRow : OpenClaim := { program := "ytjkebimmddlccabdoor", sum := "500c18f9c6f4e7944b054fb665bbf3865824961ad176836687d6d14b41a3714d", func := "ratchet/ratchetlaw04.FnumOrder", spec := "fnumOrder", inPlace := ["math.Float32frombits", "math.Float32bits", "math.Float64frombits", "math.Float64bits"], named := ["ratchet/fnum.rows"], apart := false, laid := [("ratchet/fnum.rows", laid_ratchet_fnum_rows)] }
def FnumOrderSaid : Prop := fnumOrderRow.holds Tryd.pinned (OpenSpec.ofChange fnumOrderSpec)

/-- ITS FALSE NEIGHBOUR: 'it returns false'. Refute it at one input. -/
def fnumOrderWrong : ChangeSpec := { name := "fnumOrder", fn := fun _ => fun
  | [d1, d2, d3] => { results := [.lit (.bool false)], args := [d1, d2, d3] }
  | _ => none }
def FnumOrderWrongFalsely : Prop := fnumOrderRow.holds Tryd.pinned (OpenSpec.ofChange fnumOrderWrong)

/- THE SECOND FORM. 'bulk': how many values and letters a reading holds, each counted each time it is reached (what is shared counts as often as it is met; a slice's spare places count too). A statement '..UptoSaid' is the law's where the arguments, and the package variables that the reading takes, are together of bulk at most 1048576: NARROWER than '..Said'. Prove '..Said' where nothing that the law and all that it calls make is longer than what came in: it says more and counts as full. Else prove '..UptoSaid'. A law counts once. -/
mutual
def uptoBulk {H : Type} : DataW H → Nat
  | .lit (.string bytes) => bytes.length + 1
  | .lit _ => 1
  | .nil => 1
  | .ptr d => uptoBulk d + 1
  | .slice elems spare => uptoBulkAll elems + uptoBulkAll spare + 1
  | .agg parts => uptoBulkAll parts + 1
  | .iface _ d => uptoBulk d + 1
  | .map entries => uptoBulkEntries entries + 1
  | .held _ => 1
def uptoBulkAll {H : Type} : List (DataW H) → Nat
  | [] => 0
  | d :: r => uptoBulk d + uptoBulkAll r
def uptoBulkEntries {H : Type} : List (Lit × DataW H) → Nat
  | [] => 0
  | x :: r => uptoBulkEntry x + uptoBulkEntries r
def uptoBulkEntry {H : Type} : Lit × DataW H → Nat
  | (.string bytes, d) => bytes.length + uptoBulk d + 1
  | (_, d) => uptoBulk d + 1
 end
def uptoSmall : (H : Type) → List (DataW H) → Bool := fun _ ds => decide (uptoBulkAll ds ≤ 1048576)
def OpenSpec.upto (s : _root_.Go.ChangeSpec) : _root_.Go.OpenSpec := { _root_.Go.OpenSpec.ofChange s with cond := some uptoSmall }

/-- 'ratchetlaw04.FnumTurns', WHERE WHAT IT READS IS OF BULK AT MOST 1048576: true; the input reads as it did. -/
def fnumTurnsUptoRow : OpenClaim := { program := "ytjkebimmddlccabdoor", sum := "500c18f9c6f4e7944b054fb665bbf3865824961ad176836687d6d14b41a3714d", func := "ratchet/ratchetlaw04.FnumTurns", spec := "fnumTurns", inPlace := ["math.Float32frombits", "math.Float32bits", "math.Float64frombits", "math.Float64bits", "math.archCeil", "math.archFloor", "math.archTrunc", "math.RoundToEven", "math.sqrt"], named := ["ratchet/fnum.rows"], apart := false, laid := [("ratchet/fnum.rows", laid_ratchet_fnum_rows)], narrowed := true }
def FnumTurnsUptoSaid : Prop := fnumTurnsUptoRow.holds Tryd.pinned (OpenSpec.upto fnumTurnsSpec)

/-- 'ratchetlaw04.FnumThere', WHERE WHAT IT READS IS OF BULK AT MOST 1048576: true; the input reads as it did. -/
def fnumThereUptoRow : OpenClaim := { program := "ytjkebimmddlccabdoor", sum := "500c18f9c6f4e7944b054fb665bbf3865824961ad176836687d6d14b41a3714d", func := "ratchet/ratchetlaw04.FnumThere", spec := "fnumThere", inPlace := ["math.Float32frombits", "math.Float32bits", "math.Float64frombits", "math.Float64bits", "math.archTrunc"], named := ["ratchet/fnum.rows", "ratchet/fnum.conversions"], apart := false, laid := [("ratchet/fnum.rows", laid_ratchet_fnum_rows), ("ratchet/fnum.conversions", laid_ratchet_fnum_conversions)], narrowed := true }
def FnumThereUptoSaid : Prop := fnumThereUptoRow.holds Tryd.pinned (OpenSpec.upto fnumThereSpec)

/-- 'ratchetlaw04.FnumOrder', WHERE WHAT IT READS IS OF BULK AT MOST 1048576: true; the input reads as it did. -/
def fnumOrderUptoRow : OpenClaim := { program := "ytjkebimmddlccabdoor", sum := "500c18f9c6f4e7944b054fb665bbf3865824961ad176836687d6d14b41a3714d", func := "ratchet/ratchetlaw04.FnumOrder", spec := "fnumOrder", inPlace := ["math.Float32frombits", "math.Float32bits", "math.Float64frombits", "math.Float64bits"], named := ["ratchet/fnum.rows"], apart := false, laid := [("ratchet/fnum.rows", laid_ratchet_fnum_rows)], narrowed := true }
def FnumOrderUptoSaid : Prop := fnumOrderUptoRow.holds Tryd.pinned (OpenSpec.upto fnumOrderSpec)

end Rows
end Go.Proofs.YtjkebimmddlccabDoor
