/-
  The walks of the readers of floats' bits and of the document's Fixed; no statement is proved here.
-/
import Derived.Test.YtpkccnoipbgnmaaReadA
import Derived.Test.YtpkccnoipbgnmaaFix
namespace Go.Proofs.Ytpkccnoipbgnmaa
open Go.RowKit
set_option linter.unusedVariables false

theorem mul8 (c : Int) (k : Nat) (h0 : 0 ≤ c) (h1 : c ≤ 255) : 0 ≤ c * 2 ^ (8 * k) ∧ c * 2 ^ (8 * k) + 2 ^ (8 * k) ≤ 2 ^ (8 * (k + 1)) := by
  have hp : (0 : Int) < 2 ^ (8 * k) := Int.pow_pos (by decide)
  have hm := Int.mul_le_mul_of_nonneg_right h1 (Int.le_of_lt hp)
  have hn := Int.mul_nonneg h0 (Int.le_of_lt hp)
  rw [pow8]; omega
theorem k7 {k : Nat} (h : k ≤ 7) : k = 0 ∨ k = 1 ∨ k = 2 ∨ k = 3 ∨ k = 4 ∨ k = 5 ∨ k = 6 ∨ k = 7 := by omega
theorem pow8_64 {k : Nat} (h : k ≤ 7) : (2 : Int) ^ (8 * (k + 1)) ≤ 18446744073709551616 := by
  rcases k7 h with rfl | rfl | rfl | rfl | rfl | rfl | rfl | rfl <;> decide
theorem pow8_32 {k : Nat} (h : k ≤ 3) : (2 : Int) ^ (8 * (k + 1)) ≤ 4294967296 := by
  rcases k7 (k := k) (by omega) with rfl | rfl | rfl | rfl | rfl | rfl | rfl | rfl <;> first | decide | omega
theorem wraps_u32 (n : Int) (h0 : 0 ≤ n) (h1 : n < 2 ^ 32) : IntKind.u32.wrap n = n := by rw [IntKind.wrap_u32']; omega
theorem orFix64 (X c : Int) (k : Nat) (hk : k ≤ 7) (h0 : 0 ≤ X) (hX : X < 2 ^ (8 * k)) (hc0 : 0 ≤ c) (hc1 : c ≤ 255) : bits .or .u64 X (IntKind.u64.wrap (c * 2 ^ (8 * k))) = X + c * 2 ^ (8 * k) := by
  obtain ⟨m0, m1⟩ := mul8 c k hc0 hc1
  have hp := pow8_64 hk
  rw [wraps_u64 _ m0 (by omega), bits_or_comm, bits_join .u64 64 (by decide) wraps_u64 (8 * k) _ X m0 (Int.mul_emod_left _ _) (by omega) h0 hX (by omega)]
  omega
theorem orFix32 (X c : Int) (k : Nat) (hk : k ≤ 3) (h0 : 0 ≤ X) (hX : X < 2 ^ (8 * k)) (hc0 : 0 ≤ c) (hc1 : c ≤ 255) : bits .or .u32 X (c * 2 ^ (8 * k) % 4294967296) = X + c * 2 ^ (8 * k) := by
  obtain ⟨m0, m1⟩ := mul8 c k hc0 hc1
  have hp := pow8_32 hk
  rw [Int.emod_eq_of_lt m0 (by omega), bits_or_comm, bits_join .u32 32 (by decide) wraps_u32 (8 * k) _ X m0 (Int.mul_emod_left _ _) (by omega) h0 hX (by omega)]
  omega

set_option maxRecDepth 100000 in
set_option maxHeartbeats 1000000 in
theorem bits32_in (b off cap : Nat) (l : List Int) (a e : Nat) (w : World) (hlen : l.length ≤ 140737488351232) (hlc : l.length ≤ cap) (hm : cap ≤ maxLen) (hae : a + 4 ≤ e) (he : e ≤ l.length)
    (hc : ∀ j, j < l.length → w.cell? ⟨b, off + j, none⟩ = some (.int .u8 (l.getD j 0))) (hr : ∀ j, 0 ≤ l.getD j 0 ∧ l.getD j 0 ≤ 255) :
    Calls Try.prog 68 #[.slice (some ⟨b, off, none⟩) l.length cap, .int .i64 a, .int .i64 e, .int .i64 4] w fun en w' =>
      en = .returned (.tuple #[.int .u32 (gv l a 4), .int .i64 ((a : Int) + 4), .int .i64 0]) ∧ w' = w := by
  unfold maxLen at hm
  have hd : decide ((e : Int) - (a : Int) < 4) = false := decide_eq_false (by omega)
  go_enter Try.func68, Try.ntmps68
  go_wp2_with fail
  refine (inside_yes _ _ _ _ _ _ (by omega) (by omega) (by omega)).mono ?_
  rintro en w' ⟨rfl, rfl⟩
  go_wp2_with fail
  go_loop [11, 12, 13, 33] (fun n _ _ i => ∃ k : Nat, k ≤ 4 ∧ i = .int .i64 k ∧ n = .int .u32 (gv l a k)) (fun _ _ _ i => 4 - (intOf i).toNat)
  case atStart => exact ⟨0, by omega, rfl, rfl⟩
  case round =>
    obtain ⟨k, hk, rfl, rfl⟩ := hrel
    by_cases hlt : k < 4
    · obtain ⟨g0, g1⟩ := gv_bd l hr a k
      obtain ⟨c, hcc⟩ : ∃ c, c = l.getD (a + k) 0 := ⟨_, rfl⟩
      have hcell := hc (a + k) (by omega)
      rw [show off + (a + k) = off + a + k from by omega] at hcell
      obtain ⟨hr0, hr1⟩ := hr (a + k)
      have HG : Hid (gv l a (k + 1) = gv l a k + c * 2 ^ (8 * k)) := by rw [hcc]; exact gv_snoc l a k
      rw [← hcc] at hcell hr0 hr1
      have hor := orFix32 (gv l a k) c k (by omega) g0 g1 hr0 hr1
      clear hcc hc hr g1
      generalize gv l a k = X at *
      go_wp2_with fail
      go_round
      case rel => exact ⟨k + 1, by omega, by go_num, by rw [HG.out]⟩
      case measure => simp [intOf]; omega
    · have : k = 4 := by omega
      subst this
      clear hc hr
      go_wp2_with fail
      go_ret3
      exact ⟨rfl, rfl⟩

set_option maxRecDepth 100000 in
set_option maxHeartbeats 1000000 in
theorem bits32_short (ad : Option Addr) (len cap : Nat) (a e : Nat) (w : World) (hlen : len ≤ 140737488351232) (hae : a ≤ e) (he : e ≤ len) (hs : e < a + 4) :
    Calls Try.prog 68 #[.slice ad len cap, .int .i64 a, .int .i64 e, .int .i64 4] w fun en w' =>
      en = .returned (.tuple #[.int .u32 0, .int .i64 e, .int .i64 3]) ∧ w' = w := by
  go_enter Try.func68, Try.ntmps68
  go_wp2_with fail
  refine (inside_yes _ _ _ _ _ _ (by omega) (by omega) (by omega)).mono ?_
  rintro en w' ⟨rfl, rfl⟩
  go_wp2_with fail
  go_ret3
  exact ⟨rfl, rfl⟩

set_option maxRecDepth 100000 in
theorem bits32_no (ad : Option Addr) (len cap : Nat) (x y : Int) (w : World) (h : ¬ (0 ≤ x ∧ x ≤ y ∧ y ≤ len)) :
    Calls Try.prog 68 #[.slice ad len cap, .int .i64 x, .int .i64 y, .int .i64 4] w fun en w' =>
      en = .returned (.tuple #[.int .u32 0, .int .i64 0, .int .i64 1]) ∧ w' = w := by
  have c1 := inside_no ad len cap x y w h
  clear h
  go_enter Try.func68, Try.ntmps68
  go_wp2_with fail
  refine c1.mono ?_
  rintro en w' ⟨rfl, rfl⟩
  clear c1
  go_wp2_with fail
  go_ret3
  exact ⟨rfl, rfl⟩

set_option maxRecDepth 100000 in
set_option maxHeartbeats 1000000 in
theorem bits64_in (b off cap : Nat) (l : List Int) (a e : Nat) (w : World) (hlen : l.length ≤ 140737488351232) (hlc : l.length ≤ cap) (hm : cap ≤ maxLen) (hae : a + 8 ≤ e) (he : e ≤ l.length)
    (hc : ∀ j, j < l.length → w.cell? ⟨b, off + j, none⟩ = some (.int .u8 (l.getD j 0))) (hr : ∀ j, 0 ≤ l.getD j 0 ∧ l.getD j 0 ≤ 255) :
    Calls Try.prog 69 #[.slice (some ⟨b, off, none⟩) l.length cap, .int .i64 a, .int .i64 e, .int .i64 8] w fun en w' =>
      en = .returned (.tuple #[.int .u64 (gv l a 8), .int .i64 ((a : Int) + 8), .int .i64 0]) ∧ w' = w := by
  unfold maxLen at hm
  have hd : decide ((e : Int) - (a : Int) < 8) = false := decide_eq_false (by omega)
  go_enter Try.func69, Try.ntmps69
  go_wp2_with fail
  refine (inside_yes _ _ _ _ _ _ (by omega) (by omega) (by omega)).mono ?_
  rintro en w' ⟨rfl, rfl⟩
  go_wp2_with fail
  go_loop [11, 12, 13, 33] (fun n _ _ i => ∃ k : Nat, k ≤ 8 ∧ i = .int .i64 k ∧ n = .int .u64 (gv l a k)) (fun _ _ _ i => 8 - (intOf i).toNat)
  case atStart => exact ⟨0, by omega, rfl, rfl⟩
  case round =>
    obtain ⟨k, hk, rfl, rfl⟩ := hrel
    by_cases hlt : k < 8
    · obtain ⟨g0, g1⟩ := gv_bd l hr a k
      obtain ⟨c, hcc⟩ : ∃ c, c = l.getD (a + k) 0 := ⟨_, rfl⟩
      have hcell := hc (a + k) (by omega)
      rw [show off + (a + k) = off + a + k from by omega] at hcell
      obtain ⟨hr0, hr1⟩ := hr (a + k)
      have HG : Hid (gv l a (k + 1) = gv l a k + c * 2 ^ (8 * k)) := by rw [hcc]; exact gv_snoc l a k
      rw [← hcc] at hcell hr0 hr1
      have hor := orFix64 (gv l a k) c k (by omega) g0 g1 hr0 hr1
      clear hcc hc hr g1
      generalize gv l a k = X at *
      go_wp2_with fail
      go_round
      case rel => exact ⟨k + 1, by omega, by go_num, by rw [HG.out]⟩
      case measure => simp [intOf]; omega
    · have : k = 8 := by omega
      subst this
      clear hc hr
      go_wp2_with fail
      go_ret3
      exact ⟨rfl, rfl⟩

set_option maxRecDepth 100000 in
set_option maxHeartbeats 1000000 in
theorem bits64_short (ad : Option Addr) (len cap : Nat) (a e : Nat) (w : World) (hlen : len ≤ 140737488351232) (hae : a ≤ e) (he : e ≤ len) (hs : e < a + 8) :
    Calls Try.prog 69 #[.slice ad len cap, .int .i64 a, .int .i64 e, .int .i64 8] w fun en w' =>
      en = .returned (.tuple #[.int .u64 0, .int .i64 e, .int .i64 3]) ∧ w' = w := by
  go_enter Try.func69, Try.ntmps69
  go_wp2_with fail
  refine (inside_yes _ _ _ _ _ _ (by omega) (by omega) (by omega)).mono ?_
  rintro en w' ⟨rfl, rfl⟩
  go_wp2_with fail
  go_ret3
  exact ⟨rfl, rfl⟩

set_option maxRecDepth 100000 in
theorem bits64_no (ad : Option Addr) (len cap : Nat) (x y : Int) (w : World) (h : ¬ (0 ≤ x ∧ x ≤ y ∧ y ≤ len)) :
    Calls Try.prog 69 #[.slice ad len cap, .int .i64 x, .int .i64 y, .int .i64 8] w fun en w' =>
      en = .returned (.tuple #[.int .u64 0, .int .i64 0, .int .i64 1]) ∧ w' = w := by
  have c1 := inside_no ad len cap x y w h
  clear h
  go_enter Try.func69, Try.ntmps69
  go_wp2_with fail
  refine c1.mono ?_
  rintro en w' ⟨rfl, rfl⟩
  clear c1
  go_wp2_with fail
  go_ret3
  exact ⟨rfl, rfl⟩

set_option maxRecDepth 100000 in
set_option maxHeartbeats 1000000 in
theorem fixed_in (s : Nat) (b off cap : Nat) (l : List Int) (a e : Nat) (w : World) (hs1 : 1 ≤ s) (hs8 : s ≤ 8) (hlen : l.length ≤ 140737488351232) (hae : a + s ≤ e) (he : e ≤ l.length)
    (hc : ∀ j, j < l.length → w.cell? ⟨b, off + j, none⟩ = some (.int .u8 (l.getD j 0))) (hr : ∀ j, 0 ≤ l.getD j 0 ∧ l.getD j 0 ≤ 255) :
    Calls Try.prog 43 #[.slice (some ⟨b, off, none⟩) l.length cap, .int .i64 a, .int .i64 e, .int .i64 s] w fun en w' =>
      en = .returned (.tuple #[.int .u64 (gv l a s), .int .i64 ((a : Int) + s), .int .i64 0]) ∧ w' = w := by
  have hd : decide ((e : Int) - (a : Int) < s) = false := decide_eq_false (by omega)
  go_enter Try.func43, Try.ntmps43
  go_wp2_with fail
  refine (reads_yes _ _ _ _ _ _ (by omega) (by omega) (by omega)).mono ?_
  rintro en w' ⟨rfl, rfl⟩
  go_wp2_with fail
  go_loop [11, 12] (fun n i => ∃ k : Nat, k ≤ s ∧ i = .int .i64 ((s : Int) - 1 - k) ∧ n = .int .u64 (gv l (a + (s - k)) k)) (fun _ i => (intOf i + 1).toNat)
  case atStart => exact ⟨0, by omega, by simp, rfl⟩
  case round =>
    obtain ⟨k, hk, rfl, rfl⟩ := hrel
    by_cases hlt : k < s
    · obtain ⟨g0, g1⟩ := gv_bd l hr (a + (s - k)) k
      have g2 : gv l (a + (s - k)) k * 256 ≤ 18446744073709551360 := by
        have h1 := pow8_64 (k := k) (by omega)
        rw [pow8] at h1
        omega
      obtain ⟨c, hcc⟩ : ∃ c, c = l.getD (a + (s - (k + 1))) 0 := ⟨_, rfl⟩
      have hcell := hc (a + (s - (k + 1))) (by omega)
      obtain ⟨hr0, hr1⟩ := hr (a + (s - (k + 1)))
      have HG : Hid (gv l (a + (s - (k + 1))) (k + 1) = 256 * gv l (a + (s - k)) k + c) := by
        show _ = _
        rw [gv, hcc, show a + (s - (k + 1)) + 1 = a + (s - k) from by omega]; omega
      rw [← hcc, show a + (s - (k + 1)) = a + (s - 1 - k) from by omega] at hcell
      rw [← hcc] at hr0 hr1
      clear hcc hc hr g1
      generalize gv l (a + (s - k)) k = X at *
      go_wp2_with fail
      go_round
      case rel => exact ⟨k + 1, by omega, by go_num, by rw [HG.out]⟩
      case measure => simp [intOf]; omega
    · have : k = s := by omega
      subst this
      clear hc hr
      go_wp2_with fail
      go_ret3
      exact ⟨ret_3 (by simp) rfl rfl, rfl⟩

set_option maxRecDepth 100000 in
set_option maxHeartbeats 1000000 in
theorem fixed_short (s : Nat) (ad : Option Addr) (len cap : Nat) (a e : Nat) (w : World) (hs8 : s ≤ 8) (hlen : len ≤ 140737488351232) (hae : a ≤ e) (he : e ≤ len) (hs : e < a + s) :
    Calls Try.prog 43 #[.slice ad len cap, .int .i64 a, .int .i64 e, .int .i64 s] w fun en w' =>
      en = .returned (.tuple #[.int .u64 0, .int .i64 e, .int .i64 3]) ∧ w' = w := by
  go_enter Try.func43, Try.ntmps43
  go_wp2_with fail
  refine (reads_yes _ _ _ _ _ _ (by omega) (by omega) (by omega)).mono ?_
  rintro en w' ⟨rfl, rfl⟩
  go_wp2_with fail
  go_ret3
  exact ⟨rfl, rfl⟩

set_option maxRecDepth 100000 in
theorem fixed_no (s : Nat) (ad : Option Addr) (len cap : Nat) (x y : Int) (w : World) (h : ¬ (0 ≤ x ∧ x ≤ y ∧ y ≤ len)) :
    Calls Try.prog 43 #[.slice ad len cap, .int .i64 x, .int .i64 y, .int .i64 s] w fun en w' =>
      en = .returned (.tuple #[.int .u64 0, .int .i64 0, .int .i64 1]) ∧ w' = w := by
  have c1 := reads_no ad len cap x y w h
  clear h
  go_enter Try.func43, Try.ntmps43
  go_wp2_with fail
  refine c1.mono ?_
  rintro en w' ⟨rfl, rfl⟩
  clear c1
  go_wp2_with fail
  go_ret3
  exact ⟨rfl, rfl⟩

end Go.Proofs.Ytpkccnoipbgnmaa
