/-
  NARROWER THAN 'FOR EVERY INPUT', by the rows' own cells (each row's printed sentence says how): FnumUnary: laid · FnumBinary: laid · FnumCompare: laid · FnumConvert: laid · FnumOne: laid.
  DERIVED. THE GIVEN ROWS OF THIS SEAT. 5 by the template 'for every input the law returns true; each argument reads behind the call as it read before'; 0 by the template 'total and deterministic' (their statements: YtjkebimmddlccaaDoorTotals.lean).
  GIVEN WITH THE SEED: the statements are not yours to turn. If you find one false, say at which input.
  Laid BY PROGRAM, IN A SANDBOX (cutbox-rows.mjs): the forced cells as the released guide's own fill.sh prints them over the translation 6682577621a0e885… (all of the seat's roots in one cut). By AI agents, Wed Nov 11 2026. No macro, syntax, notation, axiom, sorry.
-/
import Derived.Test.YtjkebimmddlccaaDoorChecked
import GoSem.Claim
import GoSem.ClaimJoined
import GoSem.ClaimMapViews
import Derived.JoinedTies
import Derived.KernelRfl
namespace Go.Proofs.YtjkebimmddlccaaDoor
/- THE CELL 'sum', in the pinned program and in every row, IS THE sha256 OF THE DUMP (.gsa) THAT YtjkebimmddlccaaDoorProg.lean LOADS. Nothing in Lean hashes anything: it is a label: what it is worth is what the hold of that sum in a sandbox is worth. -/
noncomputable def Tryd.pinned : Pinned := { name := "ytjkebimmddlccaadoor", sum := "6682577621a0e88558ef0569878fb312a3a6c68d705d6e91dc249268c9788b22", checked := Tryd.checked }
namespace Rows
def none {H : Type} : Left H := { results := [], args := [] }

/- WHAT THE LISTED PACKAGE-LEVEL VARIABLES READ AS WHEN THE CALL BEGINS. Each datum BY PROGRAM (the guide's laid-datum.mjs) off the statement by which the dump's own 'gosem.cut.vars' lays the variable. In a bare row this is a premise. The card (YtjkebimmddlccaaDoorCards.lean) ties it to the program's text. -/
def laid_ratchet_fnum_rows {H : Type} : DataW H := .agg [.agg [.lit (.int .i64 1), .lit (.int .i64 32), .lit (.int .i64 91), .lit (.int .i64 96)], .agg [.lit (.int .i64 1), .lit (.int .i64 64), .lit (.int .i64 97), .lit (.int .i64 102)], .agg [.lit (.int .i64 7), .lit (.int .i64 32), .lit (.int .i64 139), .lit (.int .i64 145)], .agg [.lit (.int .i64 7), .lit (.int .i64 64), .lit (.int .i64 153), .lit (.int .i64 159)], .agg [.lit (.int .i64 14), .lit (.int .i64 32), .lit (.int .i64 146), .lit (.int .i64 152)], .agg [.lit (.int .i64 14), .lit (.int .i64 64), .lit (.int .i64 160), .lit (.int .i64 166)]]
def laid_ratchet_fnum_conversions {H : Type} : DataW H := .agg [.agg [.lit (.int .i64 21), .lit (.int .i64 32), .lit (.int .i64 32), .lit (.bool true)], .agg [.lit (.int .i64 21), .lit (.int .i64 32), .lit (.int .i64 32), .lit (.bool false)], .agg [.lit (.int .i64 21), .lit (.int .i64 64), .lit (.int .i64 32), .lit (.bool true)], .agg [.lit (.int .i64 21), .lit (.int .i64 64), .lit (.int .i64 32), .lit (.bool false)], .agg [.lit (.int .i64 0), .lit (.int .i64 0), .lit (.int .i64 0), .lit (.bool false)], .agg [.lit (.int .i64 0), .lit (.int .i64 0), .lit (.int .i64 0), .lit (.bool false)], .agg [.lit (.int .i64 21), .lit (.int .i64 32), .lit (.int .i64 64), .lit (.bool true)], .agg [.lit (.int .i64 21), .lit (.int .i64 32), .lit (.int .i64 64), .lit (.bool false)], .agg [.lit (.int .i64 21), .lit (.int .i64 64), .lit (.int .i64 64), .lit (.bool true)], .agg [.lit (.int .i64 21), .lit (.int .i64 64), .lit (.int .i64 64), .lit (.bool false)], .agg [.lit (.int .i64 23), .lit (.int .i64 32), .lit (.int .i64 32), .lit (.bool true)], .agg [.lit (.int .i64 23), .lit (.int .i64 32), .lit (.int .i64 32), .lit (.bool false)], .agg [.lit (.int .i64 23), .lit (.int .i64 64), .lit (.int .i64 32), .lit (.bool true)], .agg [.lit (.int .i64 23), .lit (.int .i64 64), .lit (.int .i64 32), .lit (.bool false)], .agg [.lit (.int .i64 24), .lit (.int .i64 64), .lit (.int .i64 32), .lit (.bool false)], .agg [.lit (.int .i64 23), .lit (.int .i64 32), .lit (.int .i64 64), .lit (.bool true)], .agg [.lit (.int .i64 23), .lit (.int .i64 32), .lit (.int .i64 64), .lit (.bool false)], .agg [.lit (.int .i64 23), .lit (.int .i64 64), .lit (.int .i64 64), .lit (.bool true)], .agg [.lit (.int .i64 23), .lit (.int .i64 64), .lit (.int .i64 64), .lit (.bool false)], .agg [.lit (.int .i64 25), .lit (.int .i64 32), .lit (.int .i64 64), .lit (.bool false)], .agg [.lit (.int .i64 26), .lit (.int .i64 32), .lit (.int .i64 32), .lit (.bool false)], .agg [.lit (.int .i64 26), .lit (.int .i64 64), .lit (.int .i64 64), .lit (.bool false)], .agg [.lit (.int .i64 26), .lit (.int .i64 32), .lit (.int .i64 32), .lit (.bool false)], .agg [.lit (.int .i64 26), .lit (.int .i64 64), .lit (.int .i64 64), .lit (.bool false)]]

/-- 'ratchetlaw04.FnumUnary': WHATEVER THE INPUT: true; the input reads as it did. -/
def fnumUnarySpec : ChangeSpec := { name := "fnumUnary", fn := fun _ => fun
  | [d1, d2] => { results := [.lit (.bool true)], args := [d1, d2] }
  | _ => none }
def fnumUnaryRow : OpenClaim := { program := "ytjkebimmddlccaadoor", sum := "6682577621a0e88558ef0569878fb312a3a6c68d705d6e91dc249268c9788b22", func := "ratchet/ratchetlaw04.FnumUnary", spec := "fnumUnary", inPlace := ["math.Float32frombits", "math.archCeil", "math.archFloor", "math.Float64bits", "math.Float64frombits", "math.archTrunc", "math.RoundToEven", "math.sqrt", "math.Float32bits"], named := ["ratchet/fnum.rows"], apart := false, laid := [("ratchet/fnum.rows", laid_ratchet_fnum_rows)] }
def FnumUnarySaid : Prop := fnumUnaryRow.holds Tryd.pinned (OpenSpec.ofChange fnumUnarySpec)

/-- ITS FALSE NEIGHBOUR: 'it returns false'. Refute it at one input. -/
def fnumUnaryWrong : ChangeSpec := { name := "fnumUnary", fn := fun _ => fun
  | [d1, d2] => { results := [.lit (.bool false)], args := [d1, d2] }
  | _ => none }
def FnumUnaryWrongFalsely : Prop := fnumUnaryRow.holds Tryd.pinned (OpenSpec.ofChange fnumUnaryWrong)

/-- 'ratchetlaw04.FnumBinary': WHATEVER THE INPUT: true; the input reads as it did. -/
def fnumBinarySpec : ChangeSpec := { name := "fnumBinary", fn := fun _ => fun
  | [d1, d2, d3] => { results := [.lit (.bool true)], args := [d1, d2, d3] }
  | _ => none }
def fnumBinaryRow : OpenClaim := { program := "ytjkebimmddlccaadoor", sum := "6682577621a0e88558ef0569878fb312a3a6c68d705d6e91dc249268c9788b22", func := "ratchet/ratchetlaw04.FnumBinary", spec := "fnumBinary", inPlace := ["math.Float32frombits", "math.Float32bits", "math.Float64frombits", "math.Float64bits"], named := ["ratchet/fnum.rows"], apart := false, laid := [("ratchet/fnum.rows", laid_ratchet_fnum_rows)] }
def FnumBinarySaid : Prop := fnumBinaryRow.holds Tryd.pinned (OpenSpec.ofChange fnumBinarySpec)

/-- ITS FALSE NEIGHBOUR: 'it returns false'. Refute it at one input. -/
def fnumBinaryWrong : ChangeSpec := { name := "fnumBinary", fn := fun _ => fun
  | [d1, d2, d3] => { results := [.lit (.bool false)], args := [d1, d2, d3] }
  | _ => none }
def FnumBinaryWrongFalsely : Prop := fnumBinaryRow.holds Tryd.pinned (OpenSpec.ofChange fnumBinaryWrong)

/-- 'ratchetlaw04.FnumCompare': WHATEVER THE INPUT: true; the input reads as it did. -/
def fnumCompareSpec : ChangeSpec := { name := "fnumCompare", fn := fun _ => fun
  | [d1, d2, d3] => { results := [.lit (.bool true)], args := [d1, d2, d3] }
  | _ => none }
def fnumCompareRow : OpenClaim := { program := "ytjkebimmddlccaadoor", sum := "6682577621a0e88558ef0569878fb312a3a6c68d705d6e91dc249268c9788b22", func := "ratchet/ratchetlaw04.FnumCompare", spec := "fnumCompare", inPlace := ["math.Float32frombits", "math.Float64frombits"], named := ["ratchet/fnum.rows"], apart := false, laid := [("ratchet/fnum.rows", laid_ratchet_fnum_rows)] }
def FnumCompareSaid : Prop := fnumCompareRow.holds Tryd.pinned (OpenSpec.ofChange fnumCompareSpec)

/-- ITS FALSE NEIGHBOUR: 'it returns false'. Refute it at one input. -/
def fnumCompareWrong : ChangeSpec := { name := "fnumCompare", fn := fun _ => fun
  | [d1, d2, d3] => { results := [.lit (.bool false)], args := [d1, d2, d3] }
  | _ => none }
def FnumCompareWrongFalsely : Prop := fnumCompareRow.holds Tryd.pinned (OpenSpec.ofChange fnumCompareWrong)

/-- 'ratchetlaw04.FnumConvert': WHATEVER THE INPUT: true; the input reads as it did. -/
def fnumConvertSpec : ChangeSpec := { name := "fnumConvert", fn := fun _ => fun
  | [d1, d2] => { results := [.lit (.bool true)], args := [d1, d2] }
  | _ => none }
def fnumConvertRow : OpenClaim := { program := "ytjkebimmddlccaadoor", sum := "6682577621a0e88558ef0569878fb312a3a6c68d705d6e91dc249268c9788b22", func := "ratchet/ratchetlaw04.FnumConvert", spec := "fnumConvert", inPlace := ["math.Float32frombits", "math.Float64frombits", "math.archTrunc", "math.Float64bits", "math.Float32bits"], named := ["ratchet/fnum.conversions"], apart := false, laid := [("ratchet/fnum.conversions", laid_ratchet_fnum_conversions)] }
def FnumConvertSaid : Prop := fnumConvertRow.holds Tryd.pinned (OpenSpec.ofChange fnumConvertSpec)

/-- ITS FALSE NEIGHBOUR: 'it returns false'. Refute it at one input. -/
def fnumConvertWrong : ChangeSpec := { name := "fnumConvert", fn := fun _ => fun
  | [d1, d2] => { results := [.lit (.bool false)], args := [d1, d2] }
  | _ => none }
def FnumConvertWrongFalsely : Prop := fnumConvertRow.holds Tryd.pinned (OpenSpec.ofChange fnumConvertWrong)

/-- 'ratchetlaw04.FnumOne': WHATEVER THE INPUT: true; the input reads as it did. -/
def fnumOneSpec : ChangeSpec := { name := "fnumOne", fn := fun _ => fun
  | [d1, d2, d3] => { results := [.lit (.bool true)], args := [d1, d2, d3] }
  | _ => none }
def fnumOneRow : OpenClaim := { program := "ytjkebimmddlccaadoor", sum := "6682577621a0e88558ef0569878fb312a3a6c68d705d6e91dc249268c9788b22", func := "ratchet/ratchetlaw04.FnumOne", spec := "fnumOne", inPlace := ["math.Float32frombits", "math.Float32bits", "math.Float64frombits", "math.Float64bits", "math.archCeil", "math.archFloor", "math.archTrunc", "math.RoundToEven", "math.sqrt"], named := ["ratchet/fnum.rows"], apart := false, laid := [("ratchet/fnum.rows", laid_ratchet_fnum_rows)] }
def FnumOneSaid : Prop := fnumOneRow.holds Tryd.pinned (OpenSpec.ofChange fnumOneSpec)

/-- ITS FALSE NEIGHBOUR: 'it returns false'. Refute it at one input. -/
def fnumOneWrong : ChangeSpec := { name := "fnumOne", fn := fun _ => fun
  | [d1, d2, d3] => { results := [.lit (.bool false)], args := [d1, d2, d3] }
  | _ => none }
def FnumOneWrongFalsely : Prop := fnumOneRow.holds Tryd.pinned (OpenSpec.ofChange fnumOneWrong)

/- THE SECOND FORM. 'bulk': how many values and letters a reading holds, each counted each time it is reached (what is shared counts as often as it is met; a slice's spare places count too). A statement '..UptoSaid' is the law's where the arguments, and the package variables that the reading takes, are together of bulk at most 1048576: NARROWER than '..Said'. Prove '..Said' where nothing that the law and all that it calls make is longer than what came in: it says more and counts as full. Else prove '..UptoSaid'. A law counts once. -/
mutual
def uptoBulk {H : Type} : DataW H → Nat
  | .lit (.string bytes) => bytes.length + 1
  | .lit _ => 1
  | .nil => 1
  | .ptr d => uptoBulk d + 1
  | .slice elems spare => uptoBulkAll elems + uptoBulkAll spare + 1
  | .agg parts => uptoBulkAll parts + 1
  | .iface _ d => uptoBulk d + 1
  | .map entries => uptoBulkEntries entries + 1
  | .held _ => 1
def uptoBulkAll {H : Type} : List (DataW H) → Nat
  | [] => 0
  | d :: r => uptoBulk d + uptoBulkAll r
def uptoBulkEntries {H : Type} : List (Lit × DataW H) → Nat
  | [] => 0
  | x :: r => uptoBulkEntry x + uptoBulkEntries r
def uptoBulkEntry {H : Type} : Lit × DataW H → Nat
  | (.string bytes, d) => bytes.length + uptoBulk d + 1
  | (_, d) => uptoBulk d + 1
 end
def uptoSmall : (H : Type) → List (DataW H) → Bool := fun _ ds => decide (uptoBulkAll ds ≤ 1048576)
def OpenSpec.upto (s : _root_.Go.ChangeSpec) : _root_.Go.OpenSpec := { _root_.Go.OpenSpec.ofChange s with cond := some uptoSmall }

/-- 'ratchetlaw04.FnumUnary', WHERE WHAT IT READS IS OF BULK AT MOST 1048576: true; the input reads as it did. -/
def fnumUnaryUptoRow : OpenClaim := { program := "ytjkebimmddlccaadoor", sum := "6682577621a0e88558ef0569878fb312a3a6c68d705d6e91dc249268c9788b22", func := "ratchet/ratchetlaw04.FnumUnary", spec := "fnumUnary", inPlace := ["math.Float32frombits", "math.archCeil", "math.archFloor", "math.Float64bits", "math.Float64frombits", "math.archTrunc", "math.RoundToEven", "math.sqrt", "math.Float32bits"], named := ["ratchet/fnum.rows"], apart := false, laid := [("ratchet/fnum.rows", laid_ratchet_fnum_rows)], narrowed := true }
def FnumUnaryUptoSaid : Prop := fnumUnaryUptoRow.holds Tryd.pinned (OpenSpec.upto fnumUnarySpec)

/-- 'ratchetlaw04.FnumBinary', WHERE WHAT IT READS IS OF BULK AT MOST 1048576: true; the input reads as it did. -/
def fnumBinaryUptoRow : OpenClaim := { program := "ytjkebimmddlccaadoor", sum := "6682577621a0e88558ef0569878fb312a3a6c68d705d6e91dc249268c9788b22", func := "ratchet/ratchetlaw04.FnumBinary", spec := "fnumBinary", inPlace := ["math.Float32frombits", "math.Float32bits", "math.Float64frombits", "math.Float64bits"], named := ["ratchet/fnum.rows"], apart := false, laid := [("ratchet/fnum.rows", laid_ratchet_fnum_rows)], narrowed := true }
def FnumBinaryUptoSaid : Prop := fnumBinaryUptoRow.holds Tryd.pinned (OpenSpec.upto fnumBinarySpec)

/-- 'ratchetlaw04.FnumCompare', WHERE WHAT IT READS IS OF BULK AT MOST 1048576: true; the input reads as it did. -/
def fnumCompareUptoRow : OpenClaim := { program := "ytjkebimmddlccaadoor", sum := "6682577621a0e88558ef0569878fb312a3a6c68d705d6e91dc249268c9788b22", func := "ratchet/ratchetlaw04.FnumCompare", spec := "fnumCompare", inPlace := ["math.Float32frombits", "math.Float64frombits"], named := ["ratchet/fnum.rows"], apart := false, laid := [("ratchet/fnum.rows", laid_ratchet_fnum_rows)], narrowed := true }
def FnumCompareUptoSaid : Prop := fnumCompareUptoRow.holds Tryd.pinned (OpenSpec.upto fnumCompareSpec)

/-- 'ratchetlaw04.FnumConvert', WHERE WHAT IT READS IS OF BULK AT MOST 1048576: true; the input reads as it did. -/
def fnumConvertUptoRow : OpenClaim := { program := "ytjkebimmddlccaadoor", sum := "6682577621a0e88558ef0569878fb312a3a6c68d705d6e91dc249268c9788b22", func := "ratchet/ratchetlaw04.FnumConvert", spec := "fnumConvert", inPlace := ["math.Float32frombits", "math.Float64frombits", "math.archTrunc", "math.Float64bits", "math.Float32bits"], named := ["ratchet/fnum.conversions"], apart := false, laid := [("ratchet/fnum.conversions", laid_ratchet_fnum_conversions)], narrowed := true }
def FnumConvertUptoSaid : Prop := fnumConvertUptoRow.holds Tryd.pinned (OpenSpec.upto fnumConvertSpec)

/-- 'ratchetlaw04.FnumOne', WHERE WHAT IT READS IS OF BULK AT MOST 1048576: true; the input reads as it did. -/
def fnumOneUptoRow : OpenClaim := { program := "ytjkebimmddlccaadoor", sum := "6682577621a0e88558ef0569878fb312a3a6c68d705d6e91dc249268c9788b22", func := "ratchet/ratchetlaw04.FnumOne", spec := "fnumOne", inPlace := ["math.Float32frombits", "math.Float32bits", "math.Float64frombits", "math.Float64bits", "math.archCeil", "math.archFloor", "math.archTrunc", "math.RoundToEven", "math.sqrt"], named := ["ratchet/fnum.rows"], apart := false, laid := [("ratchet/fnum.rows", laid_ratchet_fnum_rows)], narrowed := true }
def FnumOneUptoSaid : Prop := fnumOneUptoRow.holds Tryd.pinned (OpenSpec.upto fnumOneSpec)

end Rows
end Go.Proofs.YtjkebimmddlccaaDoor
