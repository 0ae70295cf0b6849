/-
  No cell of these rows narrows 'for every input' (looked for: loops, veiled, ifaces, maps, wideKeys, modest, calm, conditions, laid).
  DERIVED. THE GIVEN ROWS OF THIS SEAT. 4 by the template 'for every input the law returns true; each argument reads behind the call as it read before'; 0 by the template 'total and deterministic' (their statements: YtolllelejdnjlaaTotals.lean).
  GIVEN WITH THE SEED: the statements are not yours to turn. If you find one false, say at which input.
  Laid BY PROGRAM, IN A SANDBOX (cutbox-rows.mjs): the forced cells as the released guide's own fill.sh prints them over the translation 7d032653cfb1bf41… (all of the seat's roots in one cut). By AI agents, Wed Nov 11 2026. No macro, syntax, notation, axiom, sorry.
-/
import Derived.Test.YtolllelejdnjlaaChecked
import GoSem.Claim
import GoSem.ClaimJoined
import GoSem.ClaimMapViews
import Derived.JoinedTies
import Derived.KernelRfl
namespace Go.Proofs.Ytolllelejdnjlaa
/- THE CELL 'sum', in the pinned program and in every row, IS THE sha256 OF THE DUMP (.gsa) THAT YtolllelejdnjlaaProg.lean LOADS. Nothing in Lean hashes anything: it is a label: what it is worth is what the hold of that sum in a sandbox is worth. -/
noncomputable def Try.pinned : Pinned := { name := "ytolllelejdnjlaa", sum := "7d032653cfb1bf41263dc4927ac1030853d32f5cfc5751687ec5853a18f60849", checked := Try.checked }
namespace Rows
def none {H : Type} : Left H := { results := [], args := [] }

/-- 'ratchetlaw03.InumKnows': WHATEVER THE INPUT: true; the input reads as it did. -/
def inumKnowsSpec : ChangeSpec := { name := "inumKnows", fn := fun _ => fun
  | [d] => { results := [.lit (.bool true)], args := [d] }
  | _ => none }
def inumKnowsRow : OpenClaim := { program := "ytolllelejdnjlaa", sum := "7d032653cfb1bf41263dc4927ac1030853d32f5cfc5751687ec5853a18f60849", func := "ratchet/ratchetlaw03.InumKnows", spec := "inumKnows", apart := false }
def InumKnowsSaid : Prop := inumKnowsRow.holds Try.pinned (OpenSpec.ofChange inumKnowsSpec)

/-- ITS FALSE NEIGHBOUR: 'it returns false'. Refute it at one input. -/
def inumKnowsWrong : ChangeSpec := { name := "inumKnows", fn := fun _ => fun
  | [d] => { results := [.lit (.bool false)], args := [d] }
  | _ => none }
def InumKnowsWrongFalsely : Prop := inumKnowsRow.holds Try.pinned (OpenSpec.ofChange inumKnowsWrong)

/-- 'ratchetlaw03.InumOps': WHATEVER THE INPUT: true; the input reads as it did. -/
def inumOpsSpec : ChangeSpec := { name := "inumOps", fn := fun _ => fun
  | [d] => { results := [.lit (.bool true)], args := [d] }
  | _ => none }
def inumOpsRow : OpenClaim := { program := "ytolllelejdnjlaa", sum := "7d032653cfb1bf41263dc4927ac1030853d32f5cfc5751687ec5853a18f60849", func := "ratchet/ratchetlaw03.InumOps", spec := "inumOps", apart := false }
def InumOpsSaid : Prop := inumOpsRow.holds Try.pinned (OpenSpec.ofChange inumOpsSpec)

/-- ITS FALSE NEIGHBOUR: 'it returns false'. Refute it at one input. -/
def inumOpsWrong : ChangeSpec := { name := "inumOps", fn := fun _ => fun
  | [d] => { results := [.lit (.bool false)], args := [d] }
  | _ => none }
def InumOpsWrongFalsely : Prop := inumOpsRow.holds Try.pinned (OpenSpec.ofChange inumOpsWrong)

/-- 'ratchetlaw03.InumBinary': WHATEVER THE INPUT: true; the input reads as it did. -/
def inumBinarySpec : ChangeSpec := { name := "inumBinary", fn := fun _ => fun
  | [d1, d2, d3] => { results := [.lit (.bool true)], args := [d1, d2, d3] }
  | _ => none }
def inumBinaryRow : OpenClaim := { program := "ytolllelejdnjlaa", sum := "7d032653cfb1bf41263dc4927ac1030853d32f5cfc5751687ec5853a18f60849", func := "ratchet/ratchetlaw03.InumBinary", spec := "inumBinary", apart := false }
def InumBinarySaid : Prop := inumBinaryRow.holds Try.pinned (OpenSpec.ofChange inumBinarySpec)

/-- ITS FALSE NEIGHBOUR: 'it returns false'. Refute it at one input. -/
def inumBinaryWrong : ChangeSpec := { name := "inumBinary", fn := fun _ => fun
  | [d1, d2, d3] => { results := [.lit (.bool false)], args := [d1, d2, d3] }
  | _ => none }
def InumBinaryWrongFalsely : Prop := inumBinaryRow.holds Try.pinned (OpenSpec.ofChange inumBinaryWrong)

/-- 'ratchetlaw03.InumDivides': WHATEVER THE INPUT: true; the input reads as it did. -/
def inumDividesSpec : ChangeSpec := { name := "inumDivides", fn := fun _ => fun
  | [d1, d2, d3] => { results := [.lit (.bool true)], args := [d1, d2, d3] }
  | _ => none }
def inumDividesRow : OpenClaim := { program := "ytolllelejdnjlaa", sum := "7d032653cfb1bf41263dc4927ac1030853d32f5cfc5751687ec5853a18f60849", func := "ratchet/ratchetlaw03.InumDivides", spec := "inumDivides", apart := false }
def InumDividesSaid : Prop := inumDividesRow.holds Try.pinned (OpenSpec.ofChange inumDividesSpec)

/-- ITS FALSE NEIGHBOUR: 'it returns false'. Refute it at one input. -/
def inumDividesWrong : ChangeSpec := { name := "inumDivides", fn := fun _ => fun
  | [d1, d2, d3] => { results := [.lit (.bool false)], args := [d1, d2, d3] }
  | _ => none }
def InumDividesWrongFalsely : Prop := inumDividesRow.holds Try.pinned (OpenSpec.ofChange inumDividesWrong)

/- THE SECOND FORM. 'bulk': how many values and letters a reading holds, each counted each time it is reached (what is shared counts as often as it is met; a slice's spare places count too). A statement '..UptoSaid' is the law's where the arguments, and the package variables that the reading takes, are together of bulk at most 1048576: NARROWER than '..Said'. Prove '..Said' where nothing that the law and all that it calls make is longer than what came in: it says more and counts as full. Else prove '..UptoSaid'. A law counts once. -/
mutual
def uptoBulk {H : Type} : DataW H → Nat
  | .lit (.string bytes) => bytes.length + 1
  | .lit _ => 1
  | .nil => 1
  | .ptr d => uptoBulk d + 1
  | .slice elems spare => uptoBulkAll elems + uptoBulkAll spare + 1
  | .agg parts => uptoBulkAll parts + 1
  | .iface _ d => uptoBulk d + 1
  | .map entries => uptoBulkEntries entries + 1
  | .held _ => 1
def uptoBulkAll {H : Type} : List (DataW H) → Nat
  | [] => 0
  | d :: r => uptoBulk d + uptoBulkAll r
def uptoBulkEntries {H : Type} : List (Lit × DataW H) → Nat
  | [] => 0
  | x :: r => uptoBulkEntry x + uptoBulkEntries r
def uptoBulkEntry {H : Type} : Lit × DataW H → Nat
  | (.string bytes, d) => bytes.length + uptoBulk d + 1
  | (_, d) => uptoBulk d + 1
 end
def uptoSmall : (H : Type) → List (DataW H) → Bool := fun _ ds => decide (uptoBulkAll ds ≤ 1048576)
def OpenSpec.upto (s : _root_.Go.ChangeSpec) : _root_.Go.OpenSpec := { _root_.Go.OpenSpec.ofChange s with cond := some uptoSmall }

/-- 'ratchetlaw03.InumKnows', WHERE WHAT IT READS IS OF BULK AT MOST 1048576: true; the input reads as it did. -/
def inumKnowsUptoRow : OpenClaim := { program := "ytolllelejdnjlaa", sum := "7d032653cfb1bf41263dc4927ac1030853d32f5cfc5751687ec5853a18f60849", func := "ratchet/ratchetlaw03.InumKnows", spec := "inumKnows", apart := false, narrowed := true }
def InumKnowsUptoSaid : Prop := inumKnowsUptoRow.holds Try.pinned (OpenSpec.upto inumKnowsSpec)

/-- 'ratchetlaw03.InumOps', WHERE WHAT IT READS IS OF BULK AT MOST 1048576: true; the input reads as it did. -/
def inumOpsUptoRow : OpenClaim := { program := "ytolllelejdnjlaa", sum := "7d032653cfb1bf41263dc4927ac1030853d32f5cfc5751687ec5853a18f60849", func := "ratchet/ratchetlaw03.InumOps", spec := "inumOps", apart := false, narrowed := true }
def InumOpsUptoSaid : Prop := inumOpsUptoRow.holds Try.pinned (OpenSpec.upto inumOpsSpec)

/-- 'ratchetlaw03.InumBinary', WHERE WHAT IT READS IS OF BULK AT MOST 1048576: true; the input reads as it did. -/
def inumBinaryUptoRow : OpenClaim := { program := "ytolllelejdnjlaa", sum := "7d032653cfb1bf41263dc4927ac1030853d32f5cfc5751687ec5853a18f60849", func := "ratchet/ratchetlaw03.InumBinary", spec := "inumBinary", apart := false, narrowed := true }
def InumBinaryUptoSaid : Prop := inumBinaryUptoRow.holds Try.pinned (OpenSpec.upto inumBinarySpec)

/-- 'ratchetlaw03.InumDivides', WHERE WHAT IT READS IS OF BULK AT MOST 1048576: true; the input reads as it did. -/
def inumDividesUptoRow : OpenClaim := { program := "ytolllelejdnjlaa", sum := "7d032653cfb1bf41263dc4927ac1030853d32f5cfc5751687ec5853a18f60849", func := "ratchet/ratchetlaw03.InumDivides", spec := "inumDivides", apart := false, narrowed := true }
def InumDividesUptoSaid : Prop := inumDividesUptoRow.holds Try.pinned (OpenSpec.upto inumDividesSpec)

end Rows
end Go.Proofs.Ytolllelejdnjlaa
