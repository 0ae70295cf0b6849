/-
  The contracts of all readers, of the program and of the document, at whatever places; no statement is proved here.
-/
import Derived.Test.YtchehejjdinifaaGreatDoorSmall
namespace Go.Proofs.YtchehejjdinifaaGreatDoor
open Go.RowKit
set_option linter.unusedVariables false

theorem orStep (X c : Int) (k : Nat) (h0 : 0 ≤ X) (hX : X < 2 ^ (7 * k)) (hk : k ≤ 9) : bits .or .u64 X (IntKind.u64.wrap (c % 128 * 2 ^ (7 * k))) = addAt X c k := by
  have hp := pow_pos7 k
  have hq : (2 : Int) ^ (7 * k) * 2 ^ (64 - 7 * k) = 18446744073709551616 := by
    rw [← Int.pow_add, show 7 * k + (64 - 7 * k) = 64 from by omega]; rfl
  have h1 : (1 : Int) ≤ 2 ^ (64 - 7 * k) := by
    have : (0 : Int) < 2 ^ (64 - 7 * k) := Int.pow_pos (by decide)
    omega
  have h3 := Int.mul_le_mul_of_nonneg_left h1 (Int.le_of_lt hp)
  rw [hq, Int.mul_one] at h3
  have hm : (c % 128 * 2 ^ (7 * k)) % 18446744073709551616 % 2 ^ (7 * k) = 0 := by
    rw [Int.emod_emod_of_dvd _ ⟨_, hq.symm⟩, Int.mul_emod_left]
  rw [IntKind.wrap_u64, bits_or_comm, bits_join .u64 64 (by decide) wraps_u64 (7 * k) _ X (by omega) hm (by omega) h0 hX (by omega), addAt]
  omega

theorem ret_3 {k1 k2 k3 : IntKind} {a b c a' b' c' : Int} (h1 : a = a') (h2 : b = b') (h3 : c = c') :
    Ending.returned (.tuple #[.int k1 a, .int k2 b, .int k3 c]) = .returned (.tuple #[.int k1 a', .int k2 b', .int k3 c']) := by rw [h1, h2, h3]

set_option maxRecDepth 100000 in
set_option maxHeartbeats 1000000 in
theorem readU32_in (b off cap : Nat) (l : List Int) (a e : Nat) (w : World) (hlen : l.length ≤ 140737488351232) (hae : a ≤ e) (he : e ≤ l.length)
    (hc : ∀ j, j < l.length → w.cell? ⟨b, off + j, none⟩ = some (.int .u8 (l.getD j 0))) (hr : ∀ j, 0 ≤ l.getD j 0 ∧ l.getD j 0 ≤ 255) :
    Calls Tryz.prog 78 #[.slice (some ⟨b, off, none⟩) l.length cap, .int .i64 a, .int .i64 e, .int .i64 32] w fun en w' =>
      ∃ n p q, scan 4 (okB 4 false) false (seg l a e) 0 0 = (n, p, q) ∧ en = .returned (.tuple #[.int .u32 (n % 4294967296), .int .i64 (a + p), .int .i64 q]) ∧ w' = w := by
  have hst := St.start (m := 4) (ok := okB 4 false) (sg := false) (l := l) (a := a) (e := e)
  have hsg : decide (bits .xor .u32 IntKind.u32.max 0 < 0) = false := by decide
  go_enter Tryz.func78, Tryz.ntmps78
  go_wp2_with fail
  refine (inside_yes _ _ _ _ _ _ (by omega) (by omega) (by omega)).mono ?_
  rintro en w' ⟨rfl, rfl⟩
  go_wp2_with fail
  go_loop [1, 13, 12, 14, 15] (fun at_ sh n _ _ => ∃ (k j : Nat) (X : Int), k ≤ 4 ∧ j ≤ e ∧ at_ = .int .i64 j ∧ sh = .int .i64 (7 * k : Nat) ∧ n = .int .u64 X ∧ 0 ≤ X ∧ X < 2 ^ (7 * k) ∧ a + k = j ∧ St 4 (okB 4 false) false l a e k X)
    (fun at_ _ _ _ _ => e - (intOf at_).toNat)
  case atStart => exact ⟨0, a, 0, by omega, by omega, rfl, rfl, rfl, by omega, by decide, rfl, hst⟩
  case round =>
    obtain ⟨k, j, X, hk, hj, rfl, rfl, rfl, hX0, hX1, hakj, hS⟩ := hrel
    have HX : Hid (X < 2 ^ (7 * k)) := hX1
    have HJ : Hid (a + k = j) := hakj
    clear hst hX1 hakj
    by_cases hlt : j < e
    · obtain ⟨c, hcc⟩ : ∃ c, c = l.getD j 0 := ⟨_, rfl⟩
      have hcell := hc j (by omega)
      obtain ⟨hr0, hr1⟩ := hr j
      rw [← hcc] at hcell hr0 hr1
      have HC : Hid (c = l.getD (a + k) 0) := by rw [HJ.out]; exact hcc
      have hand := and127 c hr0 (by omega)
      have hor := orStep X c k hX0 HX.out (by omega)
      have hA0 := addAt_lo (c := c) k hX0
      have hA1 := addAt_64 (c := c) hX0 HX.out (by omega)
      have HK : Hid (a + k < e) := by have := HJ.out; show a + k < e; omega
      clear hcc hc hr
      by_cases hk4 : 4 ≤ k
      · cases ho : okB 4 false c with
        | false =>
          go_wp2_with fail
          rw [show (32 - 7 * (k : Int)) = ((4 : Nat) : Int) from by omega]
          refine (mayEnd_u c 4 _ hr0 hr1 (by omega) (by omega)).mono ?_
          rintro en w1 ⟨rfl, rfl⟩
          go_wp2_with fail
          go_ret3
          exact ⟨_, _, _, hS.form HK.out he HC.out (by omega) ho, ret_3 rfl (by have := HJ.out; omega) rfl, rfl⟩
        | true =>
          have h128 := okB_lt ho
          go_wp2_with fail
          rw [show (32 - 7 * (k : Int)) = ((4 : Nat) : Int) from by omega]
          refine (mayEnd_u c 4 _ hr0 hr1 (by omega) (by omega)).mono ?_
          rintro en w1 ⟨rfl, rfl⟩
          go_wp2_with fail
          rw [show (7 * (k : Int) + 7) = ((7 * k + 7 : Nat) : Int) from by omega]
          refine (withSign_u _ _ _).mono ?_
          rintro en w1 ⟨rfl, rfl⟩
          go_wp2_with fail
          go_ret3
          exact ⟨_, _, _, hS.done HK.out he HC.out (fun _ => ho) h128, ret_3 (congrArg (fun z => z % 4294967296) (by simp [ws])) (by have := HJ.out; omega) rfl, rfl⟩
      · by_cases h128 : c < 128
        · go_wp2_with fail
          rw [show (7 * (k : Int) + 7) = ((7 * k + 7 : Nat) : Int) from by omega]
          refine (withSign_u _ _ _).mono ?_
          rintro en w1 ⟨rfl, rfl⟩
          go_wp2_with fail
          go_ret3
          exact ⟨_, _, _, hS.done HK.out he HC.out (fun h => absurd h (by omega)) h128, ret_3 (congrArg (fun z => z % 4294967296) (by simp [ws])) (by have := HJ.out; omega) rfl, rfl⟩
        · go_wp2_with fail
          go_round
          case rel => exact ⟨k + 1, j + 1, addAt X c k, by omega, by omega, by go_num, by go_num, rfl, hA0, addAt_hi HX.out (by omega), by have := HJ.out; omega, hS.next HK.out he HC.out (fun h => absurd h (by omega)) h128⟩
          case measure => simp [intOf]; omega
    · go_wp2_with fail
      go_ret3
      exact ⟨_, _, _, hS.short (by have := HJ.out; omega), ret_3 rfl (by have := HJ.out; omega) rfl, rfl⟩

set_option maxRecDepth 100000 in
set_option maxHeartbeats 1000000 in
theorem readU64_in (b off cap : Nat) (l : List Int) (a e : Nat) (w : World) (hlen : l.length ≤ 140737488351232) (hae : a ≤ e) (he : e ≤ l.length)
    (hc : ∀ j, j < l.length → w.cell? ⟨b, off + j, none⟩ = some (.int .u8 (l.getD j 0))) (hr : ∀ j, 0 ≤ l.getD j 0 ∧ l.getD j 0 ≤ 255) :
    Calls Tryz.prog 113 #[.slice (some ⟨b, off, none⟩) l.length cap, .int .i64 a, .int .i64 e, .int .i64 64] w fun en w' =>
      ∃ n p q, scan 9 (okB 1 false) false (seg l a e) 0 0 = (n, p, q) ∧ en = .returned (.tuple #[.int .u64 (n), .int .i64 (a + p), .int .i64 q]) ∧ w' = w := by
  have hst := St.start (m := 9) (ok := okB 1 false) (sg := false) (l := l) (a := a) (e := e)
  have hsg : decide (bits .xor .u64 IntKind.u64.max 0 < 0) = false := by decide
  go_enter Tryz.func113, Tryz.ntmps113
  go_wp2_with fail
  refine (inside_yes _ _ _ _ _ _ (by omega) (by omega) (by omega)).mono ?_
  rintro en w' ⟨rfl, rfl⟩
  go_wp2_with fail
  go_loop [1, 13, 12, 14, 15] (fun at_ sh n _ _ => ∃ (k j : Nat) (X : Int), k ≤ 9 ∧ j ≤ e ∧ at_ = .int .i64 j ∧ sh = .int .i64 (7 * k : Nat) ∧ n = .int .u64 X ∧ 0 ≤ X ∧ X < 2 ^ (7 * k) ∧ a + k = j ∧ St 9 (okB 1 false) false l a e k X)
    (fun at_ _ _ _ _ => e - (intOf at_).toNat)
  case atStart => exact ⟨0, a, 0, by omega, by omega, rfl, rfl, rfl, by omega, by decide, rfl, hst⟩
  case round =>
    obtain ⟨k, j, X, hk, hj, rfl, rfl, rfl, hX0, hX1, hakj, hS⟩ := hrel
    have HX : Hid (X < 2 ^ (7 * k)) := hX1
    have HJ : Hid (a + k = j) := hakj
    clear hst hX1 hakj
    by_cases hlt : j < e
    · obtain ⟨c, hcc⟩ : ∃ c, c = l.getD j 0 := ⟨_, rfl⟩
      have hcell := hc j (by omega)
      obtain ⟨hr0, hr1⟩ := hr j
      rw [← hcc] at hcell hr0 hr1
      have HC : Hid (c = l.getD (a + k) 0) := by rw [HJ.out]; exact hcc
      have hand := and127 c hr0 (by omega)
      have hor := orStep X c k hX0 HX.out (by omega)
      have hA0 := addAt_lo (c := c) k hX0
      have hA1 := addAt_64 (c := c) hX0 HX.out (by omega)
      have HK : Hid (a + k < e) := by have := HJ.out; show a + k < e; omega
      clear hcc hc hr
      by_cases hk4 : 9 ≤ k
      · cases ho : okB 1 false c with
        | false =>
          go_wp2_with fail
          rw [show (64 - 7 * (k : Int)) = ((1 : Nat) : Int) from by omega]
          refine (mayEnd_u c 1 _ hr0 hr1 (by omega) (by omega)).mono ?_
          rintro en w1 ⟨rfl, rfl⟩
          go_wp2_with fail
          go_ret3
          exact ⟨_, _, _, hS.form HK.out he HC.out (by omega) ho, ret_3 rfl (by have := HJ.out; omega) rfl, rfl⟩
        | true =>
          have h128 := okB_lt ho
          go_wp2_with fail
          rw [show (64 - 7 * (k : Int)) = ((1 : Nat) : Int) from by omega]
          refine (mayEnd_u c 1 _ hr0 hr1 (by omega) (by omega)).mono ?_
          rintro en w1 ⟨rfl, rfl⟩
          go_wp2_with fail
          rw [show (7 * (k : Int) + 7) = ((7 * k + 7 : Nat) : Int) from by omega]
          refine (withSign_u _ _ _).mono ?_
          rintro en w1 ⟨rfl, rfl⟩
          go_wp2_with fail
          go_ret3
          exact ⟨_, _, _, hS.done HK.out he HC.out (fun _ => ho) h128, ret_3 (by simp [ws]) (by have := HJ.out; omega) rfl, rfl⟩
      · by_cases h128 : c < 128
        · go_wp2_with fail
          rw [show (7 * (k : Int) + 7) = ((7 * k + 7 : Nat) : Int) from by omega]
          refine (withSign_u _ _ _).mono ?_
          rintro en w1 ⟨rfl, rfl⟩
          go_wp2_with fail
          go_ret3
          exact ⟨_, _, _, hS.done HK.out he HC.out (fun h => absurd h (by omega)) h128, ret_3 (by simp [ws]) (by have := HJ.out; omega) rfl, rfl⟩
        · go_wp2_with fail
          go_round
          case rel => exact ⟨k + 1, j + 1, addAt X c k, by omega, by omega, by go_num, by go_num, rfl, hA0, addAt_hi HX.out (by omega), by have := HJ.out; omega, hS.next HK.out he HC.out (fun h => absurd h (by omega)) h128⟩
          case measure => simp [intOf]; omega
    · go_wp2_with fail
      go_ret3
      exact ⟨_, _, _, hS.short (by have := HJ.out; omega), ret_3 rfl (by have := HJ.out; omega) rfl, rfl⟩

end Go.Proofs.YtchehejjdinifaaGreatDoor

namespace Go.Proofs.YtchehejjdinifaaGreatDoor
open Go.RowKit
set_option linter.unusedVariables false

set_option maxRecDepth 100000 in
set_option maxHeartbeats 1000000 in
theorem readS33_in (b off cap : Nat) (l : List Int) (a e : Nat) (w : World) (hlen : l.length ≤ 140737488351232) (hae : a ≤ e) (he : e ≤ l.length)
    (hc : ∀ j, j < l.length → w.cell? ⟨b, off + j, none⟩ = some (.int .u8 (l.getD j 0))) (hr : ∀ j, 0 ≤ l.getD j 0 ∧ l.getD j 0 ≤ 255) :
    Calls Tryz.prog 118 #[.slice (some ⟨b, off, none⟩) l.length cap, .int .i64 a, .int .i64 e, .int .i64 33] w fun en w' =>
      ∃ n p q, scan 4 (okB 5 true) true (seg l a e) 0 0 = (n, p, q) ∧ en = .returned (.tuple #[.int .i64 (wrap64 (n)), .int .i64 (a + p), .int .i64 q]) ∧ w' = w := by
  have hst := St.start (m := 4) (ok := okB 5 true) (sg := true) (l := l) (a := a) (e := e)
  skip
  go_enter Tryz.func118, Tryz.ntmps118
  go_wp2_with fail
  refine (inside_yes _ _ _ _ _ _ (by omega) (by omega) (by omega)).mono ?_
  rintro en w' ⟨rfl, rfl⟩
  go_wp2_with fail
  go_loop [1, 13, 12, 14, 15] (fun at_ sh n _ _ => ∃ (k j : Nat) (X : Int), k ≤ 4 ∧ j ≤ e ∧ at_ = .int .i64 j ∧ sh = .int .i64 (7 * k : Nat) ∧ n = .int .u64 X ∧ 0 ≤ X ∧ X < 2 ^ (7 * k) ∧ a + k = j ∧ St 4 (okB 5 true) true l a e k X)
    (fun at_ _ _ _ _ => e - (intOf at_).toNat)
  case atStart => exact ⟨0, a, 0, by omega, by omega, rfl, rfl, rfl, by omega, by decide, rfl, hst⟩
  case round =>
    obtain ⟨k, j, X, hk, hj, rfl, rfl, rfl, hX0, hX1, hakj, hS⟩ := hrel
    have HX : Hid (X < 2 ^ (7 * k)) := hX1
    have HJ : Hid (a + k = j) := hakj
    clear hst hX1 hakj
    by_cases hlt : j < e
    · obtain ⟨c, hcc⟩ : ∃ c, c = l.getD j 0 := ⟨_, rfl⟩
      have hcell := hc j (by omega)
      obtain ⟨hr0, hr1⟩ := hr j
      rw [← hcc] at hcell hr0 hr1
      have HC : Hid (c = l.getD (a + k) 0) := by rw [HJ.out]; exact hcc
      have hand := and127 c hr0 (by omega)
      have hor := orStep X c k hX0 HX.out (by omega)
      have hA0 := addAt_lo (c := c) k hX0
      have hA1 := addAt_64 (c := c) hX0 HX.out (by omega)
      have HK : Hid (a + k < e) := by have := HJ.out; show a + k < e; omega
      clear hcc hc hr
      by_cases hk4 : 4 ≤ k
      · cases ho : okB 5 true c with
        | false =>
          go_wp2_with fail
          rw [show (33 - 7 * (k : Int)) = ((5 : Nat) : Int) from by omega]
          refine (mayEnd_s c 5 _ hr0 hr1 (by omega) (by omega)).mono ?_
          rintro en w1 ⟨rfl, rfl⟩
          go_wp2_with fail
          go_ret3
          exact ⟨_, _, _, hS.form HK.out he HC.out (by omega) ho, ret_3 (by simp [wrap64]) (by have := HJ.out; omega) rfl, rfl⟩
        | true =>
          have h128 := okB_lt ho
          go_wp2_with fail
          rw [show (33 - 7 * (k : Int)) = ((5 : Nat) : Int) from by omega]
          refine (mayEnd_s c 5 _ hr0 hr1 (by omega) (by omega)).mono ?_
          rintro en w1 ⟨rfl, rfl⟩
          go_wp2_with fail
          rw [show (7 * (k : Int) + 7) = ((7 * k + 7 : Nat) : Int) from by omega]
          refine (withSign_s _ _ _ hA0 (by omega) (by omega) (by omega) (addAt_hi HX.out (by omega))).mono ?_
          rintro en w1 ⟨rfl, rfl⟩
          go_wp2_with fail
          go_ret3
          exact ⟨_, _, _, hS.done HK.out he HC.out (fun _ => ho) h128, ret_3 (rfl) (by have := HJ.out; omega) rfl, rfl⟩
      · by_cases h128 : c < 128
        · go_wp2_with fail
          rw [show (7 * (k : Int) + 7) = ((7 * k + 7 : Nat) : Int) from by omega]
          refine (withSign_s _ _ _ hA0 (by omega) (by omega) (by omega) (addAt_hi HX.out (by omega))).mono ?_
          rintro en w1 ⟨rfl, rfl⟩
          go_wp2_with fail
          go_ret3
          exact ⟨_, _, _, hS.done HK.out he HC.out (fun h => absurd h (by omega)) h128, ret_3 (rfl) (by have := HJ.out; omega) rfl, rfl⟩
        · go_wp2_with fail
          go_round
          case rel => exact ⟨k + 1, j + 1, addAt X c k, by omega, by omega, by go_num, by go_num, rfl, hA0, addAt_hi HX.out (by omega), by have := HJ.out; omega, hS.next HK.out he HC.out (fun h => absurd h (by omega)) h128⟩
          case measure => simp [intOf]; omega
    · go_wp2_with fail
      go_ret3
      exact ⟨_, _, _, hS.short (by have := HJ.out; omega), ret_3 (by simp [wrap64]) (by have := HJ.out; omega) rfl, rfl⟩

set_option maxRecDepth 100000 in
set_option maxHeartbeats 1000000 in
theorem readS64_in (b off cap : Nat) (l : List Int) (a e : Nat) (w : World) (hlen : l.length ≤ 140737488351232) (hae : a ≤ e) (he : e ≤ l.length)
    (hc : ∀ j, j < l.length → w.cell? ⟨b, off + j, none⟩ = some (.int .u8 (l.getD j 0))) (hr : ∀ j, 0 ≤ l.getD j 0 ∧ l.getD j 0 ≤ 255) :
    Calls Tryz.prog 118 #[.slice (some ⟨b, off, none⟩) l.length cap, .int .i64 a, .int .i64 e, .int .i64 64] w fun en w' =>
      ∃ n p q, scan 9 (okB 1 true) true (seg l a e) 0 0 = (n, p, q) ∧ en = .returned (.tuple #[.int .i64 (wrap64 (n)), .int .i64 (a + p), .int .i64 q]) ∧ w' = w := by
  have hst := St.start (m := 9) (ok := okB 1 true) (sg := true) (l := l) (a := a) (e := e)
  skip
  go_enter Tryz.func118, Tryz.ntmps118
  go_wp2_with fail
  refine (inside_yes _ _ _ _ _ _ (by omega) (by omega) (by omega)).mono ?_
  rintro en w' ⟨rfl, rfl⟩
  go_wp2_with fail
  go_loop [1, 13, 12, 14, 15] (fun at_ sh n _ _ => ∃ (k j : Nat) (X : Int), k ≤ 9 ∧ j ≤ e ∧ at_ = .int .i64 j ∧ sh = .int .i64 (7 * k : Nat) ∧ n = .int .u64 X ∧ 0 ≤ X ∧ X < 2 ^ (7 * k) ∧ a + k = j ∧ St 9 (okB 1 true) true l a e k X)
    (fun at_ _ _ _ _ => e - (intOf at_).toNat)
  case atStart => exact ⟨0, a, 0, by omega, by omega, rfl, rfl, rfl, by omega, by decide, rfl, hst⟩
  case round =>
    obtain ⟨k, j, X, hk, hj, rfl, rfl, rfl, hX0, hX1, hakj, hS⟩ := hrel
    have HX : Hid (X < 2 ^ (7 * k)) := hX1
    have HJ : Hid (a + k = j) := hakj
    clear hst hX1 hakj
    by_cases hlt : j < e
    · obtain ⟨c, hcc⟩ : ∃ c, c = l.getD j 0 := ⟨_, rfl⟩
      have hcell := hc j (by omega)
      obtain ⟨hr0, hr1⟩ := hr j
      rw [← hcc] at hcell hr0 hr1
      have HC : Hid (c = l.getD (a + k) 0) := by rw [HJ.out]; exact hcc
      have hand := and127 c hr0 (by omega)
      have hor := orStep X c k hX0 HX.out (by omega)
      have hA0 := addAt_lo (c := c) k hX0
      have hA1 := addAt_64 (c := c) hX0 HX.out (by omega)
      have HK : Hid (a + k < e) := by have := HJ.out; show a + k < e; omega
      clear hcc hc hr
      by_cases hk4 : 9 ≤ k
      · cases ho : okB 1 true c with
        | false =>
          go_wp2_with fail
          rw [show (64 - 7 * (k : Int)) = ((1 : Nat) : Int) from by omega]
          refine (mayEnd_s c 1 _ hr0 hr1 (by omega) (by omega)).mono ?_
          rintro en w1 ⟨rfl, rfl⟩
          go_wp2_with fail
          go_ret3
          exact ⟨_, _, _, hS.form HK.out he HC.out (by omega) ho, ret_3 (by simp [wrap64]) (by have := HJ.out; omega) rfl, rfl⟩
        | true =>
          have h128 := okB_lt ho
          go_wp2_with fail
          rw [show (64 - 7 * (k : Int)) = ((1 : Nat) : Int) from by omega]
          refine (mayEnd_s c 1 _ hr0 hr1 (by omega) (by omega)).mono ?_
          rintro en w1 ⟨rfl, rfl⟩
          go_wp2_with fail
          rw [show (7 * (k : Int) + 7) = 70 from by omega]
          refine (withSign_70 _ _ hA0 (by omega)).mono ?_
          rintro en w1 ⟨rfl, rfl⟩
          go_wp2_with fail
          go_ret3
          exact ⟨_, _, _, hS.done HK.out he HC.out (fun _ => ho) h128, ret_3 (congrArg (fun z => wrap64 (z)) (by rw [ws, if_neg (by omega)])) (by have := HJ.out; omega) rfl, rfl⟩
      · by_cases h128 : c < 128
        · go_wp2_with fail
          rw [show (7 * (k : Int) + 7) = ((7 * k + 7 : Nat) : Int) from by omega]
          refine (withSign_s _ _ _ hA0 (by omega) (by omega) (by omega) (addAt_hi HX.out (by omega))).mono ?_
          rintro en w1 ⟨rfl, rfl⟩
          go_wp2_with fail
          go_ret3
          exact ⟨_, _, _, hS.done HK.out he HC.out (fun h => absurd h (by omega)) h128, ret_3 (rfl) (by have := HJ.out; omega) rfl, rfl⟩
        · go_wp2_with fail
          go_round
          case rel => exact ⟨k + 1, j + 1, addAt X c k, by omega, by omega, by go_num, by go_num, rfl, hA0, addAt_hi HX.out (by omega), by have := HJ.out; omega, hS.next HK.out he HC.out (fun h => absurd h (by omega)) h128⟩
          case measure => simp [intOf]; omega
    · go_wp2_with fail
      go_ret3
      exact ⟨_, _, _, hS.short (by have := HJ.out; omega), ret_3 (by simp [wrap64]) (by have := HJ.out; omega) rfl, rfl⟩

end Go.Proofs.YtchehejjdinifaaGreatDoor

namespace Go.Proofs.YtchehejjdinifaaGreatDoor
open Go.RowKit
set_option linter.unusedVariables false

theorem k8 {k : Nat} (h : k ≤ 8) : k = 0 ∨ k = 1 ∨ k = 2 ∨ k = 3 ∨ k = 4 ∨ k = 5 ∨ k = 6 ∨ k = 7 ∨ k = 8 := by omega
theorem wsRef_yes {X c : Int} {k : Nat} (hk : k ≤ 8) (h0 : 0 ≤ X) (hX : X < 2 ^ (7 * k)) (hc : 64 ≤ c) (hc' : c < 128) :
    ws (addAt X c k) (7 * k + 7) true = IntKind.u64.wrap (addAt X c k - IntKind.u64.wrap (2 ^ (7 * k + 7))) := by
  rw [IntKind.wrap_u64, IntKind.wrap_u64, ws, addAt]
  rcases k8 hk with rfl | rfl | rfl | rfl | rfl | rfl | rfl | rfl | rfl <;> simp at hX ⊢ <;> (rw [if_pos (by omega)]; omega)
theorem wsRef_no {X c : Int} {k : Nat} (h0 : 0 ≤ X) (hX : X < 2 ^ (7 * k)) (hc0 : 0 ≤ c) (hc : c < 64) :
    ws (addAt X c k) (7 * k + 7) true = addAt X c k := by
  by_cases hk : k ≤ 8
  · rw [ws, addAt]
    rcases k8 hk with rfl | rfl | rfl | rfl | rfl | rfl | rfl | rfl | rfl <;> simp at hX ⊢ <;> omega
  · rw [ws, if_neg (by omega)]
theorem ws9 {n : Int} {k : Nat} (hk : 9 ≤ k) : ws n (7 * k + 7) true = n := by rw [ws, if_neg (by omega)]
theorem wsU {n : Int} {k : Nat} : ws n k false = n := by simp [ws]
theorem addStep (X c : Int) (k : Nat) (h0 : 0 ≤ X) (hX : X < 2 ^ (7 * k)) (hk : k ≤ 9) : IntKind.u64.wrap (X + IntKind.u64.wrap (c % 128 * 2 ^ (7 * k))) = addAt X c k := by
  have := addAt_64 (c := c) h0 hX hk
  have h1 := addAt_lo (c := c) k h0
  unfold addAt at *
  rw [IntKind.wrap_u64, IntKind.wrap_u64]; omega

end Go.Proofs.YtchehejjdinifaaGreatDoor

namespace Go.Proofs.YtchehejjdinifaaGreatDoor
open Go.RowKit
set_option linter.unusedVariables false

/- Bytes are bytes. -/
def Byt (l : List Int) : Prop := ∀ j, 0 ≤ l.getD j 0 ∧ l.getD j 0 ≤ 255
theorem split_in {x y : Int} {n : Nat} (h : 0 ≤ x ∧ x ≤ y ∧ y ≤ n) : ∃ a e : Nat, x = a ∧ y = e ∧ a ≤ e ∧ e ≤ n := by
  obtain ⟨h0, h1, h2⟩ := h
  exact ⟨x.toNat, y.toNat, by omega, by omega, by omega, by omega⟩
theorem loop_pair {α β γ : Type} {r : α × β × γ} {a : α} {b : β} {c : γ} (h : r = (a, b, c)) : r.1 = a ∧ r.2.1 = b ∧ r.2.2 = c := by subst h; exact ⟨rfl, rfl, rfl⟩

set_option maxRecDepth 100000 in
theorem readU32_no (ad : Option Addr) (len cap : Nat) (x y : Int) (w : World) (h : ¬ (0 ≤ x ∧ x ≤ y ∧ y ≤ len)) :
    Calls Tryz.prog 78 #[.slice ad len cap, .int .i64 x, .int .i64 y, .int .i64 32] w fun en w' =>
      en = .returned (.tuple #[.int .u32 0, .int .i64 0, .int .i64 1]) ∧ w' = w := by
  have c1 := inside_no ad len cap x y w h
  clear h
  go_enter Tryz.func78, Tryz.ntmps78
  go_wp2_with fail
  refine c1.mono ?_
  rintro en w' ⟨rfl, rfl⟩
  clear c1
  go_wp2_with fail
  go_ret3
  exact ⟨rfl, rfl⟩
set_option maxRecDepth 100000 in
theorem readU32_none (ad : Option Addr) (cap : Nat) (w : World) :
    Calls Tryz.prog 78 #[.slice ad 0 cap, .int .i64 0, .int .i64 0, .int .i64 32] w fun en w' =>
      en = .returned (.tuple #[.int .u32 0, .int .i64 0, .int .i64 3]) ∧ w' = w := by
  have hsg : decide (bits .xor .u32 IntKind.u32.max 0 < 0) = false := by decide
  go_enter Tryz.func78, Tryz.ntmps78
  go_wp2_with fail
  refine (inside_yes ad 0 cap 0 0 _ (by omega) (by omega) (by omega)).mono ?_
  rintro en w' ⟨rfl, rfl⟩
  go_wp2_with fail
  refine wp_loop_rounds 1 ?_
  rw [rounds_succ]
  go_wp2
  go_ret3
  exact ⟨rfl, rfl⟩
theorem readU32_any (v : Value) (l : List Int) (x y : Int) (w : World) (hR : Reads w v l) (hb : Byt l) (hlen : l.length ≤ 140737488351232) :
    Calls Tryz.prog 78 #[v, .int .i64 x, .int .i64 y, .int .i64 32] w fun en w' => en = .returned (.tuple #[.int .u32 ((rd 32 false l x y).1 % 4294967296), .int .i64 (rd 32 false l x y).2.1, .int .i64 (rd 32 false l x y).2.2]) ∧ w' = w := by
  obtain ⟨ad, cap, rfl, hlc, hm, _, h⟩ := hR
  by_cases hin : 0 ≤ x ∧ x ≤ y ∧ y ≤ (l.length : Int)
  · obtain ⟨a, e, rfl, rfl, hae, he⟩ := split_in hin
    rcases h with rfl | ⟨b, off, rfl, hc⟩
    · simp only [List.length_nil] at he
      obtain rfl : e = 0 := by omega
      obtain rfl : a = 0 := by omega
      refine (readU32_none ad cap w).mono ?_
      rintro en w' ⟨rfl, rfl⟩
      have hrd : rd 32 false [] ((0 : Nat) : Int) ((0 : Nat) : Int) = (0, ((0 : Nat) : Int) + 0, 3) := rd_in (by omega) (by simp) rfl
      obtain ⟨h1, h2, h3⟩ := loop_pair hrd
      exact ⟨ret_3 (by rw [h1]; exact rfl) (by rw [h2]; rfl) (by rw [h3]), rfl⟩
    · refine (readU32_in b off cap l a e w hlen hae he hc hb).mono ?_
      rintro en w' ⟨n, p, q, hs, rfl, rfl⟩
      have hrd : rd 32 false l (a : Int) (e : Int) = (n, (a : Int) + p, q) := rd_in hae he hs
      obtain ⟨h1, h2, h3⟩ := loop_pair hrd
      exact ⟨ret_3 (by rw [h1]) (by rw [h2]) (by rw [h3]), rfl⟩
  · refine (readU32_no ad l.length cap x y w hin).mono ?_
    rintro en w' ⟨rfl, rfl⟩
    obtain ⟨h1, h2, h3⟩ := loop_pair (rd_out (b := 32) (sg := false) hin)
    exact ⟨ret_3 (by rw [h1]; exact rfl) (by rw [h2]) (by rw [h3]), rfl⟩
set_option maxRecDepth 100000 in
theorem u32_any (v : Value) (l : List Int) (x y : Int) (w : World) (hR : Reads w v l) (hb : Byt l) (hlen : l.length ≤ 140737488351232) :
    Calls Tryz.prog 46 #[v, .int .i64 x, .int .i64 y] w fun en w' => en = .returned (.tuple #[.int .u32 ((rd 32 false l x y).1 % 4294967296), .int .i64 (rd 32 false l x y).2.1, .int .i64 (rd 32 false l x y).2.2]) ∧ w' = w := by
  have c1 := readU32_any v l x y w hR hb hlen
  obtain ⟨ad, cap, rfl⟩ := hR.len
  clear hR hb
  generalize rd 32 false l x y = r at *
  go_enter Tryz.func46, Tryz.ntmps46
  go_wp2_with fail
  refine c1.mono ?_
  rintro en w' ⟨rfl, rfl⟩
  clear c1
  go_wp2_with fail
  go_ret3
  exact ⟨rfl, rfl⟩

set_option maxRecDepth 100000 in
theorem readU64_no (ad : Option Addr) (len cap : Nat) (x y : Int) (w : World) (h : ¬ (0 ≤ x ∧ x ≤ y ∧ y ≤ len)) :
    Calls Tryz.prog 113 #[.slice ad len cap, .int .i64 x, .int .i64 y, .int .i64 64] w fun en w' =>
      en = .returned (.tuple #[.int .u64 0, .int .i64 0, .int .i64 1]) ∧ w' = w := by
  have c1 := inside_no ad len cap x y w h
  clear h
  go_enter Tryz.func113, Tryz.ntmps113
  go_wp2_with fail
  refine c1.mono ?_
  rintro en w' ⟨rfl, rfl⟩
  clear c1
  go_wp2_with fail
  go_ret3
  exact ⟨rfl, rfl⟩
set_option maxRecDepth 100000 in
theorem readU64_none (ad : Option Addr) (cap : Nat) (w : World) :
    Calls Tryz.prog 113 #[.slice ad 0 cap, .int .i64 0, .int .i64 0, .int .i64 64] w fun en w' =>
      en = .returned (.tuple #[.int .u64 0, .int .i64 0, .int .i64 3]) ∧ w' = w := by
  have hsg : decide (bits .xor .u64 IntKind.u64.max 0 < 0) = false := by decide
  go_enter Tryz.func113, Tryz.ntmps113
  go_wp2_with fail
  refine (inside_yes ad 0 cap 0 0 _ (by omega) (by omega) (by omega)).mono ?_
  rintro en w' ⟨rfl, rfl⟩
  go_wp2_with fail
  refine wp_loop_rounds 1 ?_
  rw [rounds_succ]
  go_wp2
  go_ret3
  exact ⟨rfl, rfl⟩
theorem readU64_any (v : Value) (l : List Int) (x y : Int) (w : World) (hR : Reads w v l) (hb : Byt l) (hlen : l.length ≤ 140737488351232) :
    Calls Tryz.prog 113 #[v, .int .i64 x, .int .i64 y, .int .i64 64] w fun en w' => en = .returned (.tuple #[.int .u64 ((rd 64 false l x y).1), .int .i64 (rd 64 false l x y).2.1, .int .i64 (rd 64 false l x y).2.2]) ∧ w' = w := by
  obtain ⟨ad, cap, rfl, hlc, hm, _, h⟩ := hR
  by_cases hin : 0 ≤ x ∧ x ≤ y ∧ y ≤ (l.length : Int)
  · obtain ⟨a, e, rfl, rfl, hae, he⟩ := split_in hin
    rcases h with rfl | ⟨b, off, rfl, hc⟩
    · simp only [List.length_nil] at he
      obtain rfl : e = 0 := by omega
      obtain rfl : a = 0 := by omega
      refine (readU64_none ad cap w).mono ?_
      rintro en w' ⟨rfl, rfl⟩
      have hrd : rd 64 false [] ((0 : Nat) : Int) ((0 : Nat) : Int) = (0, ((0 : Nat) : Int) + 0, 3) := rd_in (by omega) (by simp) rfl
      obtain ⟨h1, h2, h3⟩ := loop_pair hrd
      exact ⟨ret_3 (by rw [h1]) (by rw [h2]; rfl) (by rw [h3]), rfl⟩
    · refine (readU64_in b off cap l a e w hlen hae he hc hb).mono ?_
      rintro en w' ⟨n, p, q, hs, rfl, rfl⟩
      have hrd : rd 64 false l (a : Int) (e : Int) = (n, (a : Int) + p, q) := rd_in hae he hs
      obtain ⟨h1, h2, h3⟩ := loop_pair hrd
      exact ⟨ret_3 (by rw [h1]) (by rw [h2]) (by rw [h3]), rfl⟩
  · refine (readU64_no ad l.length cap x y w hin).mono ?_
    rintro en w' ⟨rfl, rfl⟩
    obtain ⟨h1, h2, h3⟩ := loop_pair (rd_out (b := 64) (sg := false) hin)
    exact ⟨ret_3 (by rw [h1]) (by rw [h2]) (by rw [h3]), rfl⟩
set_option maxRecDepth 100000 in
theorem u64_any (v : Value) (l : List Int) (x y : Int) (w : World) (hR : Reads w v l) (hb : Byt l) (hlen : l.length ≤ 140737488351232) :
    Calls Tryz.prog 107 #[v, .int .i64 x, .int .i64 y] w fun en w' => en = .returned (.tuple #[.int .u64 ((rd 64 false l x y).1), .int .i64 (rd 64 false l x y).2.1, .int .i64 (rd 64 false l x y).2.2]) ∧ w' = w := by
  have c1 := readU64_any v l x y w hR hb hlen
  obtain ⟨ad, cap, rfl⟩ := hR.len
  clear hR hb
  generalize rd 64 false l x y = r at *
  go_enter Tryz.func107, Tryz.ntmps107
  go_wp2_with fail
  refine c1.mono ?_
  rintro en w' ⟨rfl, rfl⟩
  clear c1
  go_wp2_with fail
  go_ret3
  exact ⟨rfl, rfl⟩

set_option maxRecDepth 100000 in
theorem readS33_no (ad : Option Addr) (len cap : Nat) (x y : Int) (w : World) (h : ¬ (0 ≤ x ∧ x ≤ y ∧ y ≤ len)) :
    Calls Tryz.prog 118 #[.slice ad len cap, .int .i64 x, .int .i64 y, .int .i64 33] w fun en w' =>
      en = .returned (.tuple #[.int .i64 0, .int .i64 0, .int .i64 1]) ∧ w' = w := by
  have c1 := inside_no ad len cap x y w h
  clear h
  go_enter Tryz.func118, Tryz.ntmps118
  go_wp2_with fail
  refine c1.mono ?_
  rintro en w' ⟨rfl, rfl⟩
  clear c1
  go_wp2_with fail
  go_ret3
  exact ⟨rfl, rfl⟩
set_option maxRecDepth 100000 in
theorem readS33_none (ad : Option Addr) (cap : Nat) (w : World) :
    Calls Tryz.prog 118 #[.slice ad 0 cap, .int .i64 0, .int .i64 0, .int .i64 33] w fun en w' =>
      en = .returned (.tuple #[.int .i64 0, .int .i64 0, .int .i64 3]) ∧ w' = w := by
  go_enter Tryz.func118, Tryz.ntmps118
  go_wp2_with fail
  refine (inside_yes ad 0 cap 0 0 _ (by omega) (by omega) (by omega)).mono ?_
  rintro en w' ⟨rfl, rfl⟩
  go_wp2_with fail
  refine wp_loop_rounds 1 ?_
  rw [rounds_succ]
  go_wp2
  go_ret3
  exact ⟨rfl, rfl⟩
theorem readS33_any (v : Value) (l : List Int) (x y : Int) (w : World) (hR : Reads w v l) (hb : Byt l) (hlen : l.length ≤ 140737488351232) :
    Calls Tryz.prog 118 #[v, .int .i64 x, .int .i64 y, .int .i64 33] w fun en w' => en = .returned (.tuple #[.int .i64 (wrap64 (rd 33 true l x y).1), .int .i64 (rd 33 true l x y).2.1, .int .i64 (rd 33 true l x y).2.2]) ∧ w' = w := by
  obtain ⟨ad, cap, rfl, hlc, hm, _, h⟩ := hR
  by_cases hin : 0 ≤ x ∧ x ≤ y ∧ y ≤ (l.length : Int)
  · obtain ⟨a, e, rfl, rfl, hae, he⟩ := split_in hin
    rcases h with rfl | ⟨b, off, rfl, hc⟩
    · simp only [List.length_nil] at he
      obtain rfl : e = 0 := by omega
      obtain rfl : a = 0 := by omega
      refine (readS33_none ad cap w).mono ?_
      rintro en w' ⟨rfl, rfl⟩
      have hrd : rd 33 true [] ((0 : Nat) : Int) ((0 : Nat) : Int) = (0, ((0 : Nat) : Int) + 0, 3) := rd_in (by omega) (by simp) rfl
      obtain ⟨h1, h2, h3⟩ := loop_pair hrd
      exact ⟨ret_3 (by rw [h1]; exact (by simp [wrap64])) (by rw [h2]; rfl) (by rw [h3]), rfl⟩
    · refine (readS33_in b off cap l a e w hlen hae he hc hb).mono ?_
      rintro en w' ⟨n, p, q, hs, rfl, rfl⟩
      have hrd : rd 33 true l (a : Int) (e : Int) = (n, (a : Int) + p, q) := rd_in hae he hs
      obtain ⟨h1, h2, h3⟩ := loop_pair hrd
      exact ⟨ret_3 (by rw [h1]) (by rw [h2]) (by rw [h3]), rfl⟩
  · refine (readS33_no ad l.length cap x y w hin).mono ?_
    rintro en w' ⟨rfl, rfl⟩
    obtain ⟨h1, h2, h3⟩ := loop_pair (rd_out (b := 33) (sg := true) hin)
    exact ⟨ret_3 (by rw [h1]; exact (by simp [wrap64])) (by rw [h2]) (by rw [h3]), rfl⟩
set_option maxRecDepth 100000 in
theorem s33_any (v : Value) (l : List Int) (x y : Int) (w : World) (hR : Reads w v l) (hb : Byt l) (hlen : l.length ≤ 140737488351232) :
    Calls Tryz.prog 112 #[v, .int .i64 x, .int .i64 y] w fun en w' => en = .returned (.tuple #[.int .i64 (wrap64 (rd 33 true l x y).1), .int .i64 (rd 33 true l x y).2.1, .int .i64 (rd 33 true l x y).2.2]) ∧ w' = w := by
  have c1 := readS33_any v l x y w hR hb hlen
  obtain ⟨ad, cap, rfl⟩ := hR.len
  clear hR hb
  generalize rd 33 true l x y = r at *
  go_enter Tryz.func112, Tryz.ntmps112
  go_wp2_with fail
  refine c1.mono ?_
  rintro en w' ⟨rfl, rfl⟩
  clear c1
  go_wp2_with fail
  go_ret3
  exact ⟨rfl, rfl⟩

set_option maxRecDepth 100000 in
theorem readS64_no (ad : Option Addr) (len cap : Nat) (x y : Int) (w : World) (h : ¬ (0 ≤ x ∧ x ≤ y ∧ y ≤ len)) :
    Calls Tryz.prog 118 #[.slice ad len cap, .int .i64 x, .int .i64 y, .int .i64 64] w fun en w' =>
      en = .returned (.tuple #[.int .i64 0, .int .i64 0, .int .i64 1]) ∧ w' = w := by
  have c1 := inside_no ad len cap x y w h
  clear h
  go_enter Tryz.func118, Tryz.ntmps118
  go_wp2_with fail
  refine c1.mono ?_
  rintro en w' ⟨rfl, rfl⟩
  clear c1
  go_wp2_with fail
  go_ret3
  exact ⟨rfl, rfl⟩
set_option maxRecDepth 100000 in
theorem readS64_none (ad : Option Addr) (cap : Nat) (w : World) :
    Calls Tryz.prog 118 #[.slice ad 0 cap, .int .i64 0, .int .i64 0, .int .i64 64] w fun en w' =>
      en = .returned (.tuple #[.int .i64 0, .int .i64 0, .int .i64 3]) ∧ w' = w := by
  go_enter Tryz.func118, Tryz.ntmps118
  go_wp2_with fail
  refine (inside_yes ad 0 cap 0 0 _ (by omega) (by omega) (by omega)).mono ?_
  rintro en w' ⟨rfl, rfl⟩
  go_wp2_with fail
  refine wp_loop_rounds 1 ?_
  rw [rounds_succ]
  go_wp2
  go_ret3
  exact ⟨rfl, rfl⟩
theorem readS64_any (v : Value) (l : List Int) (x y : Int) (w : World) (hR : Reads w v l) (hb : Byt l) (hlen : l.length ≤ 140737488351232) :
    Calls Tryz.prog 118 #[v, .int .i64 x, .int .i64 y, .int .i64 64] w fun en w' => en = .returned (.tuple #[.int .i64 (wrap64 (rd 64 true l x y).1), .int .i64 (rd 64 true l x y).2.1, .int .i64 (rd 64 true l x y).2.2]) ∧ w' = w := by
  obtain ⟨ad, cap, rfl, hlc, hm, _, h⟩ := hR
  by_cases hin : 0 ≤ x ∧ x ≤ y ∧ y ≤ (l.length : Int)
  · obtain ⟨a, e, rfl, rfl, hae, he⟩ := split_in hin
    rcases h with rfl | ⟨b, off, rfl, hc⟩
    · simp only [List.length_nil] at he
      obtain rfl : e = 0 := by omega
      obtain rfl : a = 0 := by omega
      refine (readS64_none ad cap w).mono ?_
      rintro en w' ⟨rfl, rfl⟩
      have hrd : rd 64 true [] ((0 : Nat) : Int) ((0 : Nat) : Int) = (0, ((0 : Nat) : Int) + 0, 3) := rd_in (by omega) (by simp) rfl
      obtain ⟨h1, h2, h3⟩ := loop_pair hrd
      exact ⟨ret_3 (by rw [h1]; exact (by simp [wrap64])) (by rw [h2]; rfl) (by rw [h3]), rfl⟩
    · refine (readS64_in b off cap l a e w hlen hae he hc hb).mono ?_
      rintro en w' ⟨n, p, q, hs, rfl, rfl⟩
      have hrd : rd 64 true l (a : Int) (e : Int) = (n, (a : Int) + p, q) := rd_in hae he hs
      obtain ⟨h1, h2, h3⟩ := loop_pair hrd
      exact ⟨ret_3 (by rw [h1]) (by rw [h2]) (by rw [h3]), rfl⟩
  · refine (readS64_no ad l.length cap x y w hin).mono ?_
    rintro en w' ⟨rfl, rfl⟩
    obtain ⟨h1, h2, h3⟩ := loop_pair (rd_out (b := 64) (sg := true) hin)
    exact ⟨ret_3 (by rw [h1]; exact (by simp [wrap64])) (by rw [h2]) (by rw [h3]), rfl⟩
end Go.Proofs.YtchehejjdinifaaGreatDoor
