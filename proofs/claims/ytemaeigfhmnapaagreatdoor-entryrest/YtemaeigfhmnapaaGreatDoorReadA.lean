/-
  The walks of the readers of unsigned numbers, within bounds; no statement is proved here.
-/
import Derived.Test.YtemaeigfhmnapaaGreatDoorSmall
namespace Go.Proofs.YtemaeigfhmnapaaGreatDoor
open Go.RowKit
set_option linter.unusedVariables false

theorem orStep (X c : Int) (k : Nat) (h0 : 0 ≤ X) (hX : X < 2 ^ (7 * k)) (hk : k ≤ 9) : bits .or .u64 X (IntKind.u64.wrap (c % 128 * 2 ^ (7 * k))) = addAt X c k := by
  have hp := pow_pos7 k
  have hq : (2 : Int) ^ (7 * k) * 2 ^ (64 - 7 * k) = 18446744073709551616 := by
    rw [← Int.pow_add, show 7 * k + (64 - 7 * k) = 64 from by omega]; rfl
  have h1 : (1 : Int) ≤ 2 ^ (64 - 7 * k) := by
    have : (0 : Int) < 2 ^ (64 - 7 * k) := Int.pow_pos (by decide)
    omega
  have h3 := Int.mul_le_mul_of_nonneg_left h1 (Int.le_of_lt hp)
  rw [hq, Int.mul_one] at h3
  have hm : (c % 128 * 2 ^ (7 * k)) % 18446744073709551616 % 2 ^ (7 * k) = 0 := by
    rw [Int.emod_emod_of_dvd _ ⟨_, hq.symm⟩, Int.mul_emod_left]
  rw [IntKind.wrap_u64, bits_or_comm, bits_join .u64 64 (by decide) wraps_u64 (7 * k) _ X (by omega) hm (by omega) h0 hX (by omega), addAt]
  omega

theorem ret_3 {k1 k2 k3 : IntKind} {a b c a' b' c' : Int} (h1 : a = a') (h2 : b = b') (h3 : c = c') :
    Ending.returned (.tuple #[.int k1 a, .int k2 b, .int k3 c]) = .returned (.tuple #[.int k1 a', .int k2 b', .int k3 c']) := by rw [h1, h2, h3]

set_option maxRecDepth 100000 in
set_option maxHeartbeats 1000000 in
theorem readU32_in (b off cap : Nat) (l : List Int) (a e : Nat) (w : World) (hlen : l.length ≤ 140737488351232) (hae : a ≤ e) (he : e ≤ l.length)
    (hc : ∀ j, j < l.length → w.cell? ⟨b, off + j, none⟩ = some (.int .u8 (l.getD j 0))) (hr : ∀ j, 0 ≤ l.getD j 0 ∧ l.getD j 0 ≤ 255) :
    Calls Tryz.prog 76 #[.slice (some ⟨b, off, none⟩) l.length cap, .int .i64 a, .int .i64 e, .int .i64 32] w fun en w' =>
      ∃ n p q, scan 4 (okB 4 false) false (seg l a e) 0 0 = (n, p, q) ∧ en = .returned (.tuple #[.int .u32 (n % 4294967296), .int .i64 (a + p), .int .i64 q]) ∧ w' = w := by
  have hst := St.start (m := 4) (ok := okB 4 false) (sg := false) (l := l) (a := a) (e := e)
  have hsg : decide (bits .xor .u32 IntKind.u32.max 0 < 0) = false := by decide
  go_enter Tryz.func76, Tryz.ntmps76
  go_wp2_with fail
  refine (inside_yes _ _ _ _ _ _ (by omega) (by omega) (by omega)).mono ?_
  rintro en w' ⟨rfl, rfl⟩
  go_wp2_with fail
  go_loop [1, 13, 12, 14, 15] (fun at_ sh n _ _ => ∃ (k j : Nat) (X : Int), k ≤ 4 ∧ j ≤ e ∧ at_ = .int .i64 j ∧ sh = .int .i64 (7 * k : Nat) ∧ n = .int .u64 X ∧ 0 ≤ X ∧ X < 2 ^ (7 * k) ∧ a + k = j ∧ St 4 (okB 4 false) false l a e k X)
    (fun at_ _ _ _ _ => e - (intOf at_).toNat)
  case atStart => exact ⟨0, a, 0, by omega, by omega, rfl, rfl, rfl, by omega, by decide, rfl, hst⟩
  case round =>
    obtain ⟨k, j, X, hk, hj, rfl, rfl, rfl, hX0, hX1, hakj, hS⟩ := hrel
    have HX : Hid (X < 2 ^ (7 * k)) := hX1
    have HJ : Hid (a + k = j) := hakj
    clear hst hX1 hakj
    by_cases hlt : j < e
    · obtain ⟨c, hcc⟩ : ∃ c, c = l.getD j 0 := ⟨_, rfl⟩
      have hcell := hc j (by omega)
      obtain ⟨hr0, hr1⟩ := hr j
      rw [← hcc] at hcell hr0 hr1
      have HC : Hid (c = l.getD (a + k) 0) := by rw [HJ.out]; exact hcc
      have hand := and127 c hr0 (by omega)
      have hor := orStep X c k hX0 HX.out (by omega)
      have hA0 := addAt_lo (c := c) k hX0
      have hA1 := addAt_64 (c := c) hX0 HX.out (by omega)
      have HK : Hid (a + k < e) := by have := HJ.out; show a + k < e; omega
      clear hcc hc hr
      by_cases hk4 : 4 ≤ k
      · cases ho : okB 4 false c with
        | false =>
          go_wp2_with fail
          rw [show (32 - 7 * (k : Int)) = ((4 : Nat) : Int) from by omega]
          refine (mayEnd_u c 4 _ hr0 hr1 (by omega) (by omega)).mono ?_
          rintro en w1 ⟨rfl, rfl⟩
          go_wp2_with fail
          go_ret3
          exact ⟨_, _, _, hS.form HK.out he HC.out (by omega) ho, ret_3 rfl (by have := HJ.out; omega) rfl, rfl⟩
        | true =>
          have h128 := okB_lt ho
          go_wp2_with fail
          rw [show (32 - 7 * (k : Int)) = ((4 : Nat) : Int) from by omega]
          refine (mayEnd_u c 4 _ hr0 hr1 (by omega) (by omega)).mono ?_
          rintro en w1 ⟨rfl, rfl⟩
          go_wp2_with fail
          rw [show (7 * (k : Int) + 7) = ((7 * k + 7 : Nat) : Int) from by omega]
          refine (withSign_u _ _ _).mono ?_
          rintro en w1 ⟨rfl, rfl⟩
          go_wp2_with fail
          go_ret3
          exact ⟨_, _, _, hS.done HK.out he HC.out (fun _ => ho) h128, ret_3 (congrArg (fun z => z % 4294967296) (by simp [ws])) (by have := HJ.out; omega) rfl, rfl⟩
      · by_cases h128 : c < 128
        · go_wp2_with fail
          rw [show (7 * (k : Int) + 7) = ((7 * k + 7 : Nat) : Int) from by omega]
          refine (withSign_u _ _ _).mono ?_
          rintro en w1 ⟨rfl, rfl⟩
          go_wp2_with fail
          go_ret3
          exact ⟨_, _, _, hS.done HK.out he HC.out (fun h => absurd h (by omega)) h128, ret_3 (congrArg (fun z => z % 4294967296) (by simp [ws])) (by have := HJ.out; omega) rfl, rfl⟩
        · go_wp2_with fail
          go_round
          case rel => exact ⟨k + 1, j + 1, addAt X c k, by omega, by omega, by go_num, by go_num, rfl, hA0, addAt_hi HX.out (by omega), by have := HJ.out; omega, hS.next HK.out he HC.out (fun h => absurd h (by omega)) h128⟩
          case measure => simp [intOf]; omega
    · go_wp2_with fail
      go_ret3
      exact ⟨_, _, _, hS.short (by have := HJ.out; omega), ret_3 rfl (by have := HJ.out; omega) rfl, rfl⟩

set_option maxRecDepth 100000 in
set_option maxHeartbeats 1000000 in
theorem readU64_in (b off cap : Nat) (l : List Int) (a e : Nat) (w : World) (hlen : l.length ≤ 140737488351232) (hae : a ≤ e) (he : e ≤ l.length)
    (hc : ∀ j, j < l.length → w.cell? ⟨b, off + j, none⟩ = some (.int .u8 (l.getD j 0))) (hr : ∀ j, 0 ≤ l.getD j 0 ∧ l.getD j 0 ≤ 255) :
    Calls Tryz.prog 82 #[.slice (some ⟨b, off, none⟩) l.length cap, .int .i64 a, .int .i64 e, .int .i64 64] w fun en w' =>
      ∃ n p q, scan 9 (okB 1 false) false (seg l a e) 0 0 = (n, p, q) ∧ en = .returned (.tuple #[.int .u64 (n), .int .i64 (a + p), .int .i64 q]) ∧ w' = w := by
  have hst := St.start (m := 9) (ok := okB 1 false) (sg := false) (l := l) (a := a) (e := e)
  have hsg : decide (bits .xor .u64 IntKind.u64.max 0 < 0) = false := by decide
  go_enter Tryz.func82, Tryz.ntmps82
  go_wp2_with fail
  refine (inside_yes _ _ _ _ _ _ (by omega) (by omega) (by omega)).mono ?_
  rintro en w' ⟨rfl, rfl⟩
  go_wp2_with fail
  go_loop [1, 13, 12, 14, 15] (fun at_ sh n _ _ => ∃ (k j : Nat) (X : Int), k ≤ 9 ∧ j ≤ e ∧ at_ = .int .i64 j ∧ sh = .int .i64 (7 * k : Nat) ∧ n = .int .u64 X ∧ 0 ≤ X ∧ X < 2 ^ (7 * k) ∧ a + k = j ∧ St 9 (okB 1 false) false l a e k X)
    (fun at_ _ _ _ _ => e - (intOf at_).toNat)
  case atStart => exact ⟨0, a, 0, by omega, by omega, rfl, rfl, rfl, by omega, by decide, rfl, hst⟩
  case round =>
    obtain ⟨k, j, X, hk, hj, rfl, rfl, rfl, hX0, hX1, hakj, hS⟩ := hrel
    have HX : Hid (X < 2 ^ (7 * k)) := hX1
    have HJ : Hid (a + k = j) := hakj
    clear hst hX1 hakj
    by_cases hlt : j < e
    · obtain ⟨c, hcc⟩ : ∃ c, c = l.getD j 0 := ⟨_, rfl⟩
      have hcell := hc j (by omega)
      obtain ⟨hr0, hr1⟩ := hr j
      rw [← hcc] at hcell hr0 hr1
      have HC : Hid (c = l.getD (a + k) 0) := by rw [HJ.out]; exact hcc
      have hand := and127 c hr0 (by omega)
      have hor := orStep X c k hX0 HX.out (by omega)
      have hA0 := addAt_lo (c := c) k hX0
      have hA1 := addAt_64 (c := c) hX0 HX.out (by omega)
      have HK : Hid (a + k < e) := by have := HJ.out; show a + k < e; omega
      clear hcc hc hr
      by_cases hk4 : 9 ≤ k
      · cases ho : okB 1 false c with
        | false =>
          go_wp2_with fail
          rw [show (64 - 7 * (k : Int)) = ((1 : Nat) : Int) from by omega]
          refine (mayEnd_u c 1 _ hr0 hr1 (by omega) (by omega)).mono ?_
          rintro en w1 ⟨rfl, rfl⟩
          go_wp2_with fail
          go_ret3
          exact ⟨_, _, _, hS.form HK.out he HC.out (by omega) ho, ret_3 rfl (by have := HJ.out; omega) rfl, rfl⟩
        | true =>
          have h128 := okB_lt ho
          go_wp2_with fail
          rw [show (64 - 7 * (k : Int)) = ((1 : Nat) : Int) from by omega]
          refine (mayEnd_u c 1 _ hr0 hr1 (by omega) (by omega)).mono ?_
          rintro en w1 ⟨rfl, rfl⟩
          go_wp2_with fail
          rw [show (7 * (k : Int) + 7) = ((7 * k + 7 : Nat) : Int) from by omega]
          refine (withSign_u _ _ _).mono ?_
          rintro en w1 ⟨rfl, rfl⟩
          go_wp2_with fail
          go_ret3
          exact ⟨_, _, _, hS.done HK.out he HC.out (fun _ => ho) h128, ret_3 (by simp [ws]) (by have := HJ.out; omega) rfl, rfl⟩
      · by_cases h128 : c < 128
        · go_wp2_with fail
          rw [show (7 * (k : Int) + 7) = ((7 * k + 7 : Nat) : Int) from by omega]
          refine (withSign_u _ _ _).mono ?_
          rintro en w1 ⟨rfl, rfl⟩
          go_wp2_with fail
          go_ret3
          exact ⟨_, _, _, hS.done HK.out he HC.out (fun h => absurd h (by omega)) h128, ret_3 (by simp [ws]) (by have := HJ.out; omega) rfl, rfl⟩
        · go_wp2_with fail
          go_round
          case rel => exact ⟨k + 1, j + 1, addAt X c k, by omega, by omega, by go_num, by go_num, rfl, hA0, addAt_hi HX.out (by omega), by have := HJ.out; omega, hS.next HK.out he HC.out (fun h => absurd h (by omega)) h128⟩
          case measure => simp [intOf]; omega
    · go_wp2_with fail
      go_ret3
      exact ⟨_, _, _, hS.short (by have := HJ.out; omega), ret_3 rfl (by have := HJ.out; omega) rfl, rfl⟩

end Go.Proofs.YtemaeigfhmnapaaGreatDoor
