/-
  The walks of the small functions under the readers: inside, mayEnd, withSign, and the document's reads and last; no statement is proved here.
-/
import Derived.Test.YtchehejjdinifaaGreatDoorKit
import Derived.Test.YtchehejjdinifaaGreatDoorEMR
import Derived.Outline
namespace Go.Proofs.YtchehejjdinifaaGreatDoor
open Go.RowKit
set_option linter.unusedVariables false

theorem inside_yes (a : Option Addr) (len cap : Nat) (x y : Int) (w : World) (h0 : 0 ≤ x) (h1 : x ≤ y) (h2 : y ≤ len) :
    Calls Tryz.prog 96 #[.slice a len cap, .int .i64 x, .int .i64 y] w fun e w' => e = .returned (.bool true) ∧ w' = w := by
  go_enter Tryz.func96, Tryz.ntmps96
  go_wp2
  go_ret
  exact ⟨rfl, rfl⟩
theorem inside_no (a : Option Addr) (len cap : Nat) (x y : Int) (w : World) (h : ¬ (0 ≤ x ∧ x ≤ y ∧ y ≤ len)) :
    Calls Tryz.prog 96 #[.slice a len cap, .int .i64 x, .int .i64 y] w fun e w' => e = .returned (.bool false) ∧ w' = w := by
  by_cases h0 : 0 ≤ x
  · by_cases h1 : x ≤ y
    · have h2 : ¬ y ≤ len := by omega
      clear h
      go_enter Tryz.func96, Tryz.ntmps96
      go_wp2
      go_ret
      exact ⟨rfl, rfl⟩
    · clear h
      have h1' : decide (x ≤ y) = false := by simpa using h1
      go_enter Tryz.func96, Tryz.ntmps96
      go_wp2
      go_ret
      exact ⟨rfl, rfl⟩
  · clear h
    have h0' : decide (0 ≤ x) = false := by simpa using h0
    go_enter Tryz.func96, Tryz.ntmps96
    go_wp2
    go_ret
    exact ⟨rfl, rfl⟩
set_option maxHeartbeats 400000 in
theorem mayEnd_u (c : Int) (left : Nat) (w : World) (h0 : 0 ≤ c) (h1 : c ≤ 255) (hl : 1 ≤ left) (hl7 : left ≤ 7) :
    Calls Tryz.prog 97 #[.int .u8 c, .int .i64 left, .bool false] w fun e w' => e = .returned (.bool (okB left false c)) ∧ w' = w := by
  by_cases hc : 128 ≤ c
  · have e : okB left false c = false := by unfold okB; simp; omega
    rw [e]
    go_enter Tryz.func97, Tryz.ntmps97
    go_wp2
    go_ret
    exact ⟨rfl, rfl⟩
  · have e : okB left false c = (c / 2 ^ left == 0) := by unfold okB; rw [decide_eq_true (by omega)]; simp; rfl
    rw [e]
    clear e
    go_enter Tryz.func97, Tryz.ntmps97
    go_wp2
    go_ret
    exact ⟨rfl, rfl⟩
set_option maxHeartbeats 400000 in
theorem mayEnd_s (c : Int) (left : Nat) (w : World) (h0 : 0 ≤ c) (h1 : c ≤ 255) (hl : 1 ≤ left) (hl7 : left ≤ 7) :
    Calls Tryz.prog 97 #[.int .u8 c, .int .i64 left, .bool true] w fun e w' => e = .returned (.bool (okB left true c)) ∧ w' = w := by
  by_cases hc : 128 ≤ c
  · have e : okB left true c = false := by unfold okB; simp; omega
    rw [e]
    go_enter Tryz.func97, Tryz.ntmps97
    go_wp2
    go_ret
    exact ⟨rfl, rfl⟩
  · by_cases hz : c / 2 ^ (left - 1) = 0
    · have e : okB left true c = true := by unfold okB; rw [decide_eq_true (by omega)]; simp [hz]
      rw [e]
      clear e
      have hz' : (c / 2 ^ (left - 1) == 0) = true := by simpa using hz
      clear hz
      go_enter Tryz.func97, Tryz.ntmps97
      go_wp2
      go_ret
      exact ⟨rfl, rfl⟩
    · have e : okB left true c = (c / 2 ^ (left - 1) == 127 / 2 ^ (left - 1)) := by unfold okB; rw [decide_eq_true (by omega)]; simp [hz]; rfl
      rw [e]
      clear e
      have hz' : (c / 2 ^ (left - 1) == 0) = false := by simpa using hz
      clear hz
      go_enter Tryz.func97, Tryz.ntmps97
      go_wp2
      go_ret
      exact ⟨rfl, rfl⟩

theorem wraps_u64 (n : Int) (h0 : 0 ≤ n) (h1 : n < 2 ^ 64) : IntKind.u64.wrap n = n := by rw [IntKind.wrap_u64]; omega
theorem and1 (x : Int) (h0 : 0 ≤ x) (h1 : x ≤ 18446744073709551615) : bits .and .u64 x 1 = x % 2 := bits_mask .u64 64 (by decide) wraps_u64 1 (by decide) x h0 (by omega)
theorem div_le (n : Int) (k : Nat) (h0 : 0 ≤ n) : 0 ≤ n / 2 ^ k ∧ n / 2 ^ k ≤ n := by
  have hp : (0 : Int) < 2 ^ k := Int.pow_pos (by decide)
  exact ⟨Int.ediv_nonneg h0 (by omega), Int.ediv_le_self _ h0⟩
theorem bits_or_comm (k : IntKind) (x y : Int) : bits .or k x y = bits .or k y x := by
  show k.wrap (((BitVec.ofInt k.bits x ||| BitVec.ofInt k.bits y).toNat : Nat) : Int) = k.wrap (((BitVec.ofInt k.bits y ||| BitVec.ofInt k.bits x).toNat : Nat) : Int)
  rw [BitVec.or_comm]
theorem ret_int {k : IntKind} {a b : Int} (h : a = b) : Ending.returned (.int k a) = .returned (.int k b) := by rw [h]
theorem signOr (n : Int) (width : Nat) (h0 : 0 ≤ n) (hw7 : width ≤ 63) (hn : n < 2 ^ width) :
    bits .or .u64 n (IntKind.u64.wrap (18446744073709551615 * 2 ^ width)) = n + (18446744073709551616 - 2 ^ width) := by
  have hp : (0 : Int) < 2 ^ width := Int.pow_pos (by decide)
  have hq : (2 : Int) ^ width * 2 ^ (64 - width) = 18446744073709551616 := by
    rw [← Int.pow_add, show width + (64 - width) = 64 from by omega]; rfl
  have hle : (2 : Int) ^ width ≤ 9223372036854775808 := by
    have h2 : (2 : Int) ≤ 2 ^ (64 - width) := by
      rw [show 64 - width = (63 - width) + 1 from by omega, Int.pow_succ]
      have : (0 : Int) < 2 ^ (63 - width) := Int.pow_pos (by decide)
      omega
    have h3 := Int.mul_le_mul_of_nonneg_left h2 (Int.le_of_lt hp)
    rw [hq] at h3
    omega
  have hm : (18446744073709551616 - (2 : Int) ^ width) % 2 ^ width = 0 := by
    rw [← hq, Int.sub_emod, Int.mul_emod_right, Int.emod_self]; simp
  rw [IntKind.wrap_u64, show (18446744073709551615 * (2 : Int) ^ width) % 18446744073709551616 = 18446744073709551616 - 2 ^ width from by omega, bits_or_comm,
    bits_join .u64 64 (by decide) wraps_u64 width _ n (by omega) hm (by omega) h0 hn (by omega)]
  omega
set_option maxHeartbeats 400000 in
theorem withSign_u (n : Int) (width : Nat) (w : World) :
    Calls Tryz.prog 98 #[.int .u64 n, .int .i64 width, .bool false] w fun e w' => e = .returned (.int .u64 n) ∧ w' = w := by
  go_enter Tryz.func98, Tryz.ntmps98
  go_wp2
  go_ret
  exact ⟨rfl, rfl⟩
set_option maxRecDepth 100000 in
set_option maxHeartbeats 400000 in
theorem withSign_s (n : Int) (width : Nat) (w : World) (h0 : 0 ≤ n) (h1 : n ≤ 18446744073709551615) (hw : 7 ≤ width) (hw7 : width ≤ 63) (hn : n < 2 ^ width) :
    Calls Tryz.prog 98 #[.int .u64 n, .int .i64 width, .bool true] w fun e w' => e = .returned (.int .u64 (ws n width true)) ∧ w' = w := by
  obtain ⟨d0, d1⟩ := div_le n (width - 1) h0
  have ha := and1 (n / 2 ^ (width - 1)) d0 (by omega)
  by_cases hb : n / 2 ^ (width - 1) % 2 = 1
  · have hb' : (n / 2 ^ (width - 1) % 2 == 1) = true := by simpa using hb
    have HN : Hid (n < 2 ^ width) := hn
    have HB : Hid (n / 2 ^ (width - 1) % 2 = 1) := hb
    clear hn hb
    go_enter Tryz.func98, Tryz.ntmps98
    go_wp2
    go_ret
    refine ⟨ret_int ?_, rfl⟩
    rw [signOr n width h0 hw7 HN.out, ws, if_pos ⟨rfl, HB.out, by omega⟩]
  · have hb' : (n / 2 ^ (width - 1) % 2 == 1) = false := by simpa using hb
    have e : ws n width true = n := by unfold ws; simp [hb]
    rw [e]
    clear hn hb e
    go_enter Tryz.func98, Tryz.ntmps98
    go_wp2
    go_ret
    exact ⟨rfl, rfl⟩
set_option maxRecDepth 100000 in
set_option maxHeartbeats 400000 in
theorem withSign_70 (n : Int) (w : World) (h0 : 0 ≤ n) (h1 : n ≤ 18446744073709551615) :
    Calls Tryz.prog 98 #[.int .u64 n, .int .i64 70, .bool true] w fun e w' => e = .returned (.int .u64 n) ∧ w' = w := by
  have hz : (bits .and .u64 (n / 18446744073709551616) 1 == 1) = false := by
    rw [show n / 18446744073709551616 = 0 from by omega]; decide
  go_enter Tryz.func98, Tryz.ntmps98
  go_wp2
  go_ret
  exact ⟨rfl, rfl⟩
end Go.Proofs.YtchehejjdinifaaGreatDoor
