/-
  The walks of leb.PutU and of the document's PutU: a slice of its own that holds the shortest bytes; no statement is proved here.
-/
import Derived.Test.YtclamdpbdafmcaaKit
import Derived.Test.YtclamdpbdafmcaaPutMath
namespace Go.Proofs.Ytclamdpbdafmcaa
open Go.RowKit
set_option linter.unusedVariables false

set_option maxRecDepth 100000 in
set_option maxHeartbeats 400000 in
theorem putU_any (n : Int) (w : World) (h0 : 0 ≤ n) (h1 : n ≤ 18446744073709551615) :
    Calls Try.prog 56 #[.int .u64 n] w fun e w' => ∃ v, e = .returned v ∧ Has w.heap.size w w' v (PU n) := by
  have hst := StU.start n h1
  have hha := Has.nil w
  go_enter Try.func56, Try.ntmps56
  go_wp2
  go_loopw [0, 3] (fun x v wr => ∃ (k : Nat) (X : Int) (acc : List Int), x = .int .u64 X ∧ 0 ≤ X ∧ X ≤ 18446744073709551615 ∧ StU n k X acc ∧ Has w.heap.size w wr v acc)
    (fun x _ _ => (intOf x).toNat)
  case atStart => exact ⟨0, n, [], rfl, h0, h1, hst, hha⟩
  case round =>
    obtain ⟨k, X, acc, rfl, hX0, hX1, hS, hh⟩ := hrel
    have hlen := hS.len
    clear h0 h1 hst hha
    by_cases hlt : 128 ≤ X
    · have hor := or128 (X % 256) (by omega) (by omega)
      go_wp2_with (at_builtin; refine wp_app1 rfl _ _ rfl rfl rfl hh (by omega) ?_; intro v' w1 hh1)
      go_roundw
      case rel => exact ⟨k + 1, X / 128, _, rfl, by omega, by omega, hS.step hlt, hh1⟩
      case measure => simp [intOf]; omega
    · go_wp2_with (at_builtin; refine wp_app1 rfl _ _ rfl rfl rfl hh (by omega) ?_; intro v' w1 hh1)
      go_ret
      exact ⟨v', rfl, by rw [← hS.stop (by omega)]; exact hh1⟩
set_option maxRecDepth 100000 in
set_option maxHeartbeats 400000 in
theorem refPutU_any (n : Int) (w : World) (h0 : 0 ≤ n) (h1 : n ≤ 18446744073709551615) :
    Calls Try.prog 39 #[.int .u64 n] w fun e w' => ∃ v, e = .returned v ∧ Has w.heap.size w w' v (PU n) := by
  have hst := StU.start n h1
  have hha := Has.nil w
  go_enter Try.func39, Try.ntmps39
  go_wp2
  go_loopw [0, 3] (fun x v wr => ∃ (k : Nat) (X : Int) (acc : List Int), x = .int .u64 X ∧ 0 ≤ X ∧ X ≤ 18446744073709551615 ∧ StU n k X acc ∧ Has w.heap.size w wr v acc)
    (fun x _ _ => (intOf x).toNat)
  case atStart => exact ⟨0, n, [], rfl, h0, h1, hst, hha⟩
  case round =>
    obtain ⟨k, X, acc, rfl, hX0, hX1, hS, hh⟩ := hrel
    have hlen := hS.len
    clear h0 h1 hst hha
    by_cases hlt : 128 ≤ X
    · go_wp2_with (at_builtin; refine wp_app1 rfl _ _ rfl rfl rfl hh (by omega) ?_; intro v' w1 hh1)
      go_roundw
      case rel => exact ⟨k + 1, X / 128, _, rfl, by omega, by omega, hS.step hlt, hh1⟩
      case measure => simp [intOf]; omega
    · go_wp2_with (at_builtin; refine wp_app1 rfl _ _ rfl rfl rfl hh (by omega) ?_; intro v' w1 hh1)
      go_ret
      exact ⟨v', rfl, by rw [← hS.stop (by omega)]; exact hh1⟩
end Go.Proofs.Ytclamdpbdafmcaa
