/-
  The walks of leb.PutU, leb.PutS and of the document's PutU, PutS: each gives a slice of its own that holds the shortest bytes; no statement is proved here.
-/
import Derived.Test.YtfnfbioenngjoaaDoorKit
import Derived.Test.YtfnfbioenngjoaaDoorPutMath
namespace Go.Proofs.YtfnfbioenngjoaaDoor
open Go.RowKit
set_option linter.unusedVariables false

set_option maxRecDepth 100000 in
set_option maxHeartbeats 400000 in
theorem putU_any (n : Int) (w : World) (h0 : 0 ≤ n) (h1 : n ≤ 18446744073709551615) :
    Calls Tryd.prog 58 #[.int .u64 n] w fun e w' => ∃ v, e = .returned v ∧ Has w.heap.size w w' v (PU n) := by
  have hst := StU.start n h1
  have hha := Has.nil w
  go_enter Tryd.func58, Tryd.ntmps58
  go_wp2
  go_loopw [0, 3] (fun x v wr => ∃ (k : Nat) (X : Int) (acc : List Int), x = .int .u64 X ∧ 0 ≤ X ∧ X ≤ 18446744073709551615 ∧ StU n k X acc ∧ Has w.heap.size w wr v acc)
    (fun x _ _ => (intOf x).toNat)
  case atStart => exact ⟨0, n, [], rfl, h0, h1, hst, hha⟩
  case round =>
    obtain ⟨k, X, acc, rfl, hX0, hX1, hS, hh⟩ := hrel
    have hlen := hS.len
    clear h0 h1 hst hha
    by_cases hlt : 128 ≤ X
    · have hor := or128 (X % 256) (by omega) (by omega)
      go_wp2_with (at_builtin; refine wp_appB rfl _ _ rfl rfl rfl hh (by omega) ?_; intro v' w1 hh1)
      go_roundw
      case rel => exact ⟨k + 1, X / 128, _, rfl, by omega, by omega, hS.step hlt, hh1⟩
      case measure => simp [intOf]; omega
    · go_wp2_with (at_builtin; refine wp_appB rfl _ _ rfl rfl rfl hh (by omega) ?_; intro v' w1 hh1)
      go_ret
      exact ⟨v', rfl, by rw [← hS.stop (by omega)]; exact hh1⟩

set_option maxRecDepth 100000 in
set_option maxHeartbeats 400000 in
theorem refPutU_any (n : Int) (w : World) (h0 : 0 ≤ n) (h1 : n ≤ 18446744073709551615) :
    Calls Tryd.prog 41 #[.int .u64 n] w fun e w' => ∃ v, e = .returned v ∧ Has w.heap.size w w' v (PU n) := by
  have hst := StU.start n h1
  have hha := Has.nil w
  go_enter Tryd.func41, Tryd.ntmps41
  go_wp2
  go_loopw [0, 3] (fun x v wr => ∃ (k : Nat) (X : Int) (acc : List Int), x = .int .u64 X ∧ 0 ≤ X ∧ X ≤ 18446744073709551615 ∧ StU n k X acc ∧ Has w.heap.size w wr v acc)
    (fun x _ _ => (intOf x).toNat)
  case atStart => exact ⟨0, n, [], rfl, h0, h1, hst, hha⟩
  case round =>
    obtain ⟨k, X, acc, rfl, hX0, hX1, hS, hh⟩ := hrel
    have hlen := hS.len
    clear h0 h1 hst hha
    by_cases hlt : 128 ≤ X
    · go_wp2_with (at_builtin; refine wp_appB rfl _ _ rfl rfl rfl hh (by omega) ?_; intro v' w1 hh1)
      go_roundw
      case rel => exact ⟨k + 1, X / 128, _, rfl, by omega, by omega, hS.step hlt, hh1⟩
      case measure => simp [intOf]; omega
    · go_wp2_with (at_builtin; refine wp_appB rfl _ _ rfl rfl rfl hh (by omega) ?_; intro v' w1 hh1)
      go_ret
      exact ⟨v', rfl, by rw [← hS.stop (by omega)]; exact hh1⟩

set_option maxRecDepth 100000 in
set_option maxHeartbeats 400000 in
theorem putS_any (n : Int) (w : World) (h0 : -9223372036854775808 ≤ n) (h1 : n ≤ 9223372036854775807) :
    Calls Tryd.prog 74 #[.int .i64 n] w fun e w' => ∃ v, e = .returned v ∧ Has w.heap.size w w' v (PS n) := by
  have hst := StS.start n h0 h1
  have hha := Has.nil w
  go_enter Tryd.func74, Tryd.ntmps74
  go_wp2
  go_loopw [0, 3] (fun x v wr => ∃ (k : Nat) (X : Int) (acc : List Int), x = .int .i64 X ∧ -9223372036854775808 ≤ X ∧ X ≤ 9223372036854775807 ∧ StS n k X acc ∧ Has w.heap.size w wr v acc)
    (fun x _ _ => (intOf x).natAbs)
  case atStart => exact ⟨0, n, [], rfl, h0, h1, hst, hha⟩
  case round =>
    obtain ⟨k, X, acc, rfl, hX0, hX1, hS, hh⟩ := hrel
    have hlen := hS.len
    clear h0 h1 hst hha
    have hor := or128 (X % 256) (by omega) (by omega)
    have hand := and127 (X % 256) (by omega) (by omega)
    by_cases hlt : X < -64
    · go_wp2_with (at_builtin; refine wp_appB rfl _ _ rfl rfl rfl hh (by omega) ?_; intro v' w1 hh1)
      go_roundw
      case rel => exact ⟨k + 1, X / 128, _, rfl, by omega, by omega, hS.step (Or.inl hlt), hh1⟩
      case measure => simp [intOf]; omega
    · by_cases hge : 64 ≤ X
      · go_wp2_with (at_builtin; refine wp_appB rfl _ _ rfl rfl rfl hh (by omega) ?_; intro v' w1 hh1)
        go_roundw
        case rel => exact ⟨k + 1, X / 128, _, rfl, by omega, by omega, hS.step (Or.inr hge), hh1⟩
        case measure => simp [intOf]; omega
      · go_wp2_with (at_builtin; refine wp_appB rfl _ _ rfl rfl rfl hh (by omega) ?_; intro v' w1 hh1)
        go_ret
        exact ⟨v', rfl, by rw [← hS.stop (by omega) (by omega)]; exact hh1⟩

set_option maxRecDepth 100000 in
set_option maxHeartbeats 400000 in
theorem refPutS_any (n : Int) (w : World) (h0 : -9223372036854775808 ≤ n) (h1 : n ≤ 9223372036854775807) :
    Calls Tryd.prog 69 #[.int .i64 n] w fun e w' => ∃ v, e = .returned v ∧ Has w.heap.size w w' v (PS n) := by
  have hst := StS.start n h0 h1
  have hha := Has.nil w
  go_enter Tryd.func69, Tryd.ntmps69
  go_wp2
  go_loopw [0, 3] (fun x v wr => ∃ (k : Nat) (X : Int) (acc : List Int), x = .int .i64 X ∧ -9223372036854775808 ≤ X ∧ X ≤ 9223372036854775807 ∧ StS n k X acc ∧ Has w.heap.size w wr v acc)
    (fun x _ _ => (intOf x).natAbs)
  case atStart => exact ⟨0, n, [], rfl, h0, h1, hst, hha⟩
  case round =>
    obtain ⟨k, X, acc, rfl, hX0, hX1, hS, hh⟩ := hrel
    have hlen := hS.len
    clear h0 h1 hst hha
    have hand := and127_i64 X
    have hm : (X % 128 + 128) % 256 = X % 128 + 128 := by omega
    have hm' : X % 128 % 256 = X % 128 := by omega
    by_cases hlt : X < -64
    · go_wp2_with (at_builtin; refine wp_appB rfl _ _ rfl rfl rfl hh (by omega) ?_; intro v' w1 hh1)
      go_roundw
      case rel => exact ⟨k + 1, X / 128, _, rfl, by omega, by omega, hS.step (Or.inl hlt), hm ▸ hh1⟩
      case measure => simp [intOf]; omega
    · by_cases hge : 64 ≤ X
      · go_wp2_with (at_builtin; refine wp_appB rfl _ _ rfl rfl rfl hh (by omega) ?_; intro v' w1 hh1)
        go_roundw
        case rel => exact ⟨k + 1, X / 128, _, rfl, by omega, by omega, hS.step (Or.inr hge), hm ▸ hh1⟩
        case measure => simp [intOf]; omega
      · go_wp2_with (at_builtin; refine wp_appB rfl _ _ rfl rfl rfl hh (by omega) ?_; intro v' w1 hh1)
        go_ret
        exact ⟨v', rfl, by rw [← hS.stop (by omega) (by omega)]; exact hm' ▸ hh1⟩
end Go.Proofs.YtfnfbioenngjoaaDoor
