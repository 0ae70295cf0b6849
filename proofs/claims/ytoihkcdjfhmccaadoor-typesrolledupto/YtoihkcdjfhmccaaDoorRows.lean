/-
  NARROWER THAN 'FOR EVERY INPUT', by the rows' own cells (each row's printed sentence says how): TypesRolled: laid · CanonPlays: laid · CanonTurns: laid · CanonUnrolled: laid.
  DERIVED. THE GIVEN ROWS OF THIS SEAT. 4 by the template 'for every input the law returns true; each argument reads behind the call as it read before'; 0 by the template 'total and deterministic' (their statements: YtoihkcdjfhmccaaDoorTotals.lean).
  GIVEN WITH THE SEED: the statements are not yours to turn. If you find one false, say at which input.
  Laid BY PROGRAM, IN A SANDBOX (cutbox-rows.mjs): the forced cells as the released guide's own fill.sh prints them over the translation aa54f343544e2489… (all of the seat's roots in one cut). By AI agents, Wed Nov 11 2026. No macro, syntax, notation, axiom, sorry.
-/
import Derived.Test.YtoihkcdjfhmccaaDoorChecked
import GoSem.Claim
import GoSem.ClaimJoined
import GoSem.ClaimMapViews
import Derived.JoinedTies
import Derived.KernelRfl
namespace Go.Proofs.YtoihkcdjfhmccaaDoor
/- THE CELL 'sum', in the pinned program and in every row, IS THE sha256 OF THE DUMP (.gsa) THAT YtoihkcdjfhmccaaDoorProg.lean LOADS. Nothing in Lean hashes anything: it is a label: what it is worth is what the hold of that sum in a sandbox is worth. -/
noncomputable def Tryd.pinned : Pinned := { name := "ytoihkcdjfhmccaadoor", sum := "aa54f343544e2489282737d044506cfcaf4d36c0f0ad55268b2f1fce18db5a5c", checked := Tryd.checked }
namespace Rows
def none {H : Type} : Left H := { results := [], args := [] }

/- WHAT THE LISTED PACKAGE-LEVEL VARIABLES READ AS WHEN THE CALL BEGINS. Each datum BY PROGRAM (the guide's laid-datum.mjs) off the statement by which the dump's own 'gosem.cut.vars' lays the variable. In a bare row this is a premise. The card (YtoihkcdjfhmccaaDoorCards.lean) ties it to the program's text. -/
def laid_math_bits_deBruijn32tab {H : Type} : DataW H := .agg [.lit (.int .u8 0), .lit (.int .u8 1), .lit (.int .u8 28), .lit (.int .u8 2), .lit (.int .u8 29), .lit (.int .u8 14), .lit (.int .u8 24), .lit (.int .u8 3), .lit (.int .u8 30), .lit (.int .u8 22), .lit (.int .u8 20), .lit (.int .u8 15), .lit (.int .u8 25), .lit (.int .u8 17), .lit (.int .u8 4), .lit (.int .u8 8), .lit (.int .u8 31), .lit (.int .u8 27), .lit (.int .u8 13), .lit (.int .u8 23), .lit (.int .u8 21), .lit (.int .u8 19), .lit (.int .u8 16), .lit (.int .u8 7), .lit (.int .u8 26), .lit (.int .u8 12), .lit (.int .u8 18), .lit (.int .u8 6), .lit (.int .u8 11), .lit (.int .u8 5), .lit (.int .u8 10), .lit (.int .u8 9)]
def laid_math_bits_deBruijn64tab {H : Type} : DataW H := .agg [.lit (.int .u8 0), .lit (.int .u8 1), .lit (.int .u8 56), .lit (.int .u8 2), .lit (.int .u8 57), .lit (.int .u8 49), .lit (.int .u8 28), .lit (.int .u8 3), .lit (.int .u8 61), .lit (.int .u8 58), .lit (.int .u8 42), .lit (.int .u8 50), .lit (.int .u8 38), .lit (.int .u8 29), .lit (.int .u8 17), .lit (.int .u8 4), .lit (.int .u8 62), .lit (.int .u8 47), .lit (.int .u8 59), .lit (.int .u8 36), .lit (.int .u8 45), .lit (.int .u8 43), .lit (.int .u8 51), .lit (.int .u8 22), .lit (.int .u8 53), .lit (.int .u8 39), .lit (.int .u8 33), .lit (.int .u8 30), .lit (.int .u8 24), .lit (.int .u8 18), .lit (.int .u8 12), .lit (.int .u8 5), .lit (.int .u8 63), .lit (.int .u8 55), .lit (.int .u8 48), .lit (.int .u8 27), .lit (.int .u8 60), .lit (.int .u8 41), .lit (.int .u8 37), .lit (.int .u8 16), .lit (.int .u8 46), .lit (.int .u8 35), .lit (.int .u8 44), .lit (.int .u8 21), .lit (.int .u8 52), .lit (.int .u8 32), .lit (.int .u8 23), .lit (.int .u8 11), .lit (.int .u8 54), .lit (.int .u8 26), .lit (.int .u8 40), .lit (.int .u8 15), .lit (.int .u8 34), .lit (.int .u8 20), .lit (.int .u8 31), .lit (.int .u8 10), .lit (.int .u8 25), .lit (.int .u8 14), .lit (.int .u8 19), .lit (.int .u8 9), .lit (.int .u8 13), .lit (.int .u8 8), .lit (.int .u8 7), .lit (.int .u8 6)]
def laid_internal_strconv_uint64pow10 {H : Type} : DataW H := .agg [.lit (.int .u64 1), .lit (.int .u64 10), .lit (.int .u64 100), .lit (.int .u64 1000), .lit (.int .u64 10000), .lit (.int .u64 100000), .lit (.int .u64 1000000), .lit (.int .u64 10000000), .lit (.int .u64 100000000), .lit (.int .u64 1000000000), .lit (.int .u64 10000000000), .lit (.int .u64 100000000000), .lit (.int .u64 1000000000000), .lit (.int .u64 10000000000000), .lit (.int .u64 100000000000000), .lit (.int .u64 1000000000000000), .lit (.int .u64 10000000000000000), .lit (.int .u64 100000000000000000), .lit (.int .u64 1000000000000000000), .lit (.int .u64 10000000000000000000)]
def laid_ratchet_types_numWords {H : Type} : DataW H := .agg [.lit (.string []), .lit (.string [105, 51, 50]), .lit (.string [105, 54, 52]), .lit (.string [102, 51, 50]), .lit (.string [102, 54, 52]), .lit (.string []), .lit (.string [105, 56]), .lit (.string [105, 49, 54])]
def laid_ratchet_types_heapWords {H : Type} : DataW H := .agg [.lit (.string [102, 117, 110, 99]), .lit (.string [110, 111, 102, 117, 110, 99]), .lit (.string [101, 120, 116, 101, 114, 110]), .lit (.string [110, 111, 101, 120, 116, 101, 114, 110]), .lit (.string [97, 110, 121]), .lit (.string [101, 113]), .lit (.string [105, 51, 49]), .lit (.string [115, 116, 114, 117, 99, 116]), .lit (.string [97, 114, 114, 97, 121]), .lit (.string [110, 111, 110, 101]), .lit (.string [101, 120, 110]), .lit (.string [110, 111, 101, 120, 110])]

/-- 'ratchetlaw05.TypesRolled': WHATEVER THE INPUT: true; the input reads as it did. -/
def typesRolledSpec : ChangeSpec := { name := "typesRolled", fn := fun _ => fun
  | [d1, d2, d3] => { results := [.lit (.bool true)], args := [d1, d2, d3] }
  | _ => none }
def typesRolledRow : OpenClaim := { program := "ytoihkcdjfhmccaadoor", sum := "aa54f343544e2489282737d044506cfcaf4d36c0f0ad55268b2f1fce18db5a5c", func := "ratchet/ratchetlaw05.TypesRolled", spec := "typesRolled", inPlace := ["internal/abi.NoEscape", "internal/bytealg.MakeNoZero"], unfollowed := true, recurses := true, named := ["ratchet/types.numWords", "ratchet/types.heapWords", "internal/strconv.uint64pow10", "math/bits.deBruijn32tab", "math/bits.deBruijn64tab"], apart := false, laid := [("math/bits.deBruijn32tab", laid_math_bits_deBruijn32tab), ("math/bits.deBruijn64tab", laid_math_bits_deBruijn64tab), ("internal/strconv.uint64pow10", laid_internal_strconv_uint64pow10), ("ratchet/types.numWords", laid_ratchet_types_numWords), ("ratchet/types.heapWords", laid_ratchet_types_heapWords)] }
def TypesRolledSaid : Prop := typesRolledRow.holds Tryd.pinned (OpenSpec.ofChange typesRolledSpec)

/-- ITS FALSE NEIGHBOUR: 'it returns false'. Refute it at one input. -/
def typesRolledWrong : ChangeSpec := { name := "typesRolled", fn := fun _ => fun
  | [d1, d2, d3] => { results := [.lit (.bool false)], args := [d1, d2, d3] }
  | _ => none }
def TypesRolledWrongFalsely : Prop := typesRolledRow.holds Tryd.pinned (OpenSpec.ofChange typesRolledWrong)

/-- 'ratchetlaw06.CanonPlays': WHATEVER THE INPUT: true; the input reads as it did. -/
def canonPlaysSpec : ChangeSpec := { name := "canonPlays", fn := fun _ => fun
  | [d] => { results := [.lit (.bool true)], args := [d] }
  | _ => none }
def canonPlaysRow : OpenClaim := { program := "ytoihkcdjfhmccaadoor", sum := "aa54f343544e2489282737d044506cfcaf4d36c0f0ad55268b2f1fce18db5a5c", func := "ratchet/ratchetlaw06.CanonPlays", spec := "canonPlays", inPlace := ["maps.clone"], unfollowed := true, recurses := true, named := ["internal/strconv.uint64pow10", "math/bits.deBruijn32tab", "math/bits.deBruijn64tab"], apart := false, laid := [("math/bits.deBruijn32tab", laid_math_bits_deBruijn32tab), ("math/bits.deBruijn64tab", laid_math_bits_deBruijn64tab), ("internal/strconv.uint64pow10", laid_internal_strconv_uint64pow10)] }
def CanonPlaysSaid : Prop := canonPlaysRow.holds Tryd.pinned (OpenSpec.ofChange canonPlaysSpec)

/-- ITS FALSE NEIGHBOUR: 'it returns false'. Refute it at one input. -/
def canonPlaysWrong : ChangeSpec := { name := "canonPlays", fn := fun _ => fun
  | [d] => { results := [.lit (.bool false)], args := [d] }
  | _ => none }
def CanonPlaysWrongFalsely : Prop := canonPlaysRow.holds Tryd.pinned (OpenSpec.ofChange canonPlaysWrong)

/-- 'ratchetlaw06.CanonTurns': WHATEVER THE INPUT: true; the input reads as it did. -/
def canonTurnsSpec : ChangeSpec := { name := "canonTurns", fn := fun _ => fun
  | [d1, d2, d3] => { results := [.lit (.bool true)], args := [d1, d2, d3] }
  | _ => none }
def canonTurnsRow : OpenClaim := { program := "ytoihkcdjfhmccaadoor", sum := "aa54f343544e2489282737d044506cfcaf4d36c0f0ad55268b2f1fce18db5a5c", func := "ratchet/ratchetlaw06.CanonTurns", spec := "canonTurns", unfollowed := true, recurses := true, named := ["internal/strconv.uint64pow10", "math/bits.deBruijn32tab", "math/bits.deBruijn64tab"], apart := false, laid := [("math/bits.deBruijn32tab", laid_math_bits_deBruijn32tab), ("math/bits.deBruijn64tab", laid_math_bits_deBruijn64tab), ("internal/strconv.uint64pow10", laid_internal_strconv_uint64pow10)] }
def CanonTurnsSaid : Prop := canonTurnsRow.holds Tryd.pinned (OpenSpec.ofChange canonTurnsSpec)

/-- ITS FALSE NEIGHBOUR: 'it returns false'. Refute it at one input. -/
def canonTurnsWrong : ChangeSpec := { name := "canonTurns", fn := fun _ => fun
  | [d1, d2, d3] => { results := [.lit (.bool false)], args := [d1, d2, d3] }
  | _ => none }
def CanonTurnsWrongFalsely : Prop := canonTurnsRow.holds Tryd.pinned (OpenSpec.ofChange canonTurnsWrong)

/-- 'ratchetlaw06.CanonUnrolled': WHATEVER THE INPUT: true; the input reads as it did. -/
def canonUnrolledSpec : ChangeSpec := { name := "canonUnrolled", fn := fun _ => fun
  | [d1, d2] => { results := [.lit (.bool true)], args := [d1, d2] }
  | _ => none }
def canonUnrolledRow : OpenClaim := { program := "ytoihkcdjfhmccaadoor", sum := "aa54f343544e2489282737d044506cfcaf4d36c0f0ad55268b2f1fce18db5a5c", func := "ratchet/ratchetlaw06.CanonUnrolled", spec := "canonUnrolled", unfollowed := true, recurses := true, named := ["internal/strconv.uint64pow10", "math/bits.deBruijn32tab", "math/bits.deBruijn64tab"], apart := false, laid := [("math/bits.deBruijn32tab", laid_math_bits_deBruijn32tab), ("math/bits.deBruijn64tab", laid_math_bits_deBruijn64tab), ("internal/strconv.uint64pow10", laid_internal_strconv_uint64pow10)] }
def CanonUnrolledSaid : Prop := canonUnrolledRow.holds Tryd.pinned (OpenSpec.ofChange canonUnrolledSpec)

/-- ITS FALSE NEIGHBOUR: 'it returns false'. Refute it at one input. -/
def canonUnrolledWrong : ChangeSpec := { name := "canonUnrolled", fn := fun _ => fun
  | [d1, d2] => { results := [.lit (.bool false)], args := [d1, d2] }
  | _ => none }
def CanonUnrolledWrongFalsely : Prop := canonUnrolledRow.holds Tryd.pinned (OpenSpec.ofChange canonUnrolledWrong)

/- THE SECOND FORM. 'bulk': how many values and letters a reading holds, each counted each time it is reached (what is shared counts as often as it is met; a slice's spare places count too). A statement '..UptoSaid' is the law's where the arguments, and the package variables that the reading takes, are together of bulk at most 1048576: NARROWER than '..Said'. Prove '..Said' where nothing that the law and all that it calls make is longer than what came in: it says more and counts as full. Else prove '..UptoSaid'. A law counts once. -/
mutual
def uptoBulk {H : Type} : DataW H → Nat
  | .lit (.string bytes) => bytes.length + 1
  | .lit _ => 1
  | .nil => 1
  | .ptr d => uptoBulk d + 1
  | .slice elems spare => uptoBulkAll elems + uptoBulkAll spare + 1
  | .agg parts => uptoBulkAll parts + 1
  | .iface _ d => uptoBulk d + 1
  | .map entries => uptoBulkEntries entries + 1
  | .held _ => 1
def uptoBulkAll {H : Type} : List (DataW H) → Nat
  | [] => 0
  | d :: r => uptoBulk d + uptoBulkAll r
def uptoBulkEntries {H : Type} : List (Lit × DataW H) → Nat
  | [] => 0
  | x :: r => uptoBulkEntry x + uptoBulkEntries r
def uptoBulkEntry {H : Type} : Lit × DataW H → Nat
  | (.string bytes, d) => bytes.length + uptoBulk d + 1
  | (_, d) => uptoBulk d + 1
 end
def uptoSmall : (H : Type) → List (DataW H) → Bool := fun _ ds => decide (uptoBulkAll ds ≤ 1048576)
def OpenSpec.upto (s : _root_.Go.ChangeSpec) : _root_.Go.OpenSpec := { _root_.Go.OpenSpec.ofChange s with cond := some uptoSmall }

/-- 'ratchetlaw05.TypesRolled', WHERE WHAT IT READS IS OF BULK AT MOST 1048576: true; the input reads as it did. -/
def typesRolledUptoRow : OpenClaim := { program := "ytoihkcdjfhmccaadoor", sum := "aa54f343544e2489282737d044506cfcaf4d36c0f0ad55268b2f1fce18db5a5c", func := "ratchet/ratchetlaw05.TypesRolled", spec := "typesRolled", inPlace := ["internal/abi.NoEscape", "internal/bytealg.MakeNoZero"], unfollowed := true, recurses := true, named := ["ratchet/types.numWords", "ratchet/types.heapWords", "internal/strconv.uint64pow10", "math/bits.deBruijn32tab", "math/bits.deBruijn64tab"], apart := false, laid := [("math/bits.deBruijn32tab", laid_math_bits_deBruijn32tab), ("math/bits.deBruijn64tab", laid_math_bits_deBruijn64tab), ("internal/strconv.uint64pow10", laid_internal_strconv_uint64pow10), ("ratchet/types.numWords", laid_ratchet_types_numWords), ("ratchet/types.heapWords", laid_ratchet_types_heapWords)], narrowed := true }
def TypesRolledUptoSaid : Prop := typesRolledUptoRow.holds Tryd.pinned (OpenSpec.upto typesRolledSpec)

/-- 'ratchetlaw06.CanonPlays', WHERE WHAT IT READS IS OF BULK AT MOST 1048576: true; the input reads as it did. -/
def canonPlaysUptoRow : OpenClaim := { program := "ytoihkcdjfhmccaadoor", sum := "aa54f343544e2489282737d044506cfcaf4d36c0f0ad55268b2f1fce18db5a5c", func := "ratchet/ratchetlaw06.CanonPlays", spec := "canonPlays", inPlace := ["maps.clone"], unfollowed := true, recurses := true, named := ["internal/strconv.uint64pow10", "math/bits.deBruijn32tab", "math/bits.deBruijn64tab"], apart := false, laid := [("math/bits.deBruijn32tab", laid_math_bits_deBruijn32tab), ("math/bits.deBruijn64tab", laid_math_bits_deBruijn64tab), ("internal/strconv.uint64pow10", laid_internal_strconv_uint64pow10)], narrowed := true }
def CanonPlaysUptoSaid : Prop := canonPlaysUptoRow.holds Tryd.pinned (OpenSpec.upto canonPlaysSpec)

/-- 'ratchetlaw06.CanonTurns', WHERE WHAT IT READS IS OF BULK AT MOST 1048576: true; the input reads as it did. -/
def canonTurnsUptoRow : OpenClaim := { program := "ytoihkcdjfhmccaadoor", sum := "aa54f343544e2489282737d044506cfcaf4d36c0f0ad55268b2f1fce18db5a5c", func := "ratchet/ratchetlaw06.CanonTurns", spec := "canonTurns", unfollowed := true, recurses := true, named := ["internal/strconv.uint64pow10", "math/bits.deBruijn32tab", "math/bits.deBruijn64tab"], apart := false, laid := [("math/bits.deBruijn32tab", laid_math_bits_deBruijn32tab), ("math/bits.deBruijn64tab", laid_math_bits_deBruijn64tab), ("internal/strconv.uint64pow10", laid_internal_strconv_uint64pow10)], narrowed := true }
def CanonTurnsUptoSaid : Prop := canonTurnsUptoRow.holds Tryd.pinned (OpenSpec.upto canonTurnsSpec)

/-- 'ratchetlaw06.CanonUnrolled', WHERE WHAT IT READS IS OF BULK AT MOST 1048576: true; the input reads as it did. -/
def canonUnrolledUptoRow : OpenClaim := { program := "ytoihkcdjfhmccaadoor", sum := "aa54f343544e2489282737d044506cfcaf4d36c0f0ad55268b2f1fce18db5a5c", func := "ratchet/ratchetlaw06.CanonUnrolled", spec := "canonUnrolled", unfollowed := true, recurses := true, named := ["internal/strconv.uint64pow10", "math/bits.deBruijn32tab", "math/bits.deBruijn64tab"], apart := false, laid := [("math/bits.deBruijn32tab", laid_math_bits_deBruijn32tab), ("math/bits.deBruijn64tab", laid_math_bits_deBruijn64tab), ("internal/strconv.uint64pow10", laid_internal_strconv_uint64pow10)], narrowed := true }
def CanonUnrolledUptoSaid : Prop := canonUnrolledUptoRow.holds Tryd.pinned (OpenSpec.upto canonUnrolledSpec)

end Rows
end Go.Proofs.YtoihkcdjfhmccaaDoor
