/-
  The walk of the document's shifted; no statement is proved here.
-/
import Derived.Test.YtolllelejdnjlaaRefS
import Derived.Test.YtolllelejdnjlaaRefN
import Derived.Test.YtolllelejdnjlaaBitM
namespace Go.Proofs.Ytolllelejdnjlaa
open Go.RowKit
set_option linter.unusedVariables false
set_option linter.unusedSimpArgs false

theorem wrap_on (n k : Nat) (hn : n < 2 ^ k) (hk : (2 : Nat) ^ k ≤ 9223372036854775808) : IntKind.u64.wrap ((n : Int) + IntKind.u64.wrap (2 ^ k)) = ((n + 2 ^ k : Nat) : Int) := by
  have e : (2 : Int) ^ k = ((2 ^ k : Nat) : Int) := by simp
  rw [IntKind.wrap_u64, IntKind.wrap_u64, e]
  omega
set_option maxRecDepth 100000 in
set_option maxHeartbeats 1000000 in
theorem shd_25 (s : ByteArray) (a c N : Nat) (w : World) (hN0 : 0 < N) (hN : N ≤ 64) (hc : c < N) (q25 : (s.toList == [115, 104, 108]) = true)
    (B : Hid (∀ (i : Int) (w : World), 0 ≤ i → i < 64 → Calls Try.prog 41 #[.int .u64 (a : Int), .int .i64 i] w fun e w' => e = .returned (.bool (a.testBit i.toNat)) ∧ w' = w)) :
    Calls Try.prog 32 #[.string s, .int .u64 (a : Int), .int .i64 (c : Int), .int .i64 (N : Int)] w fun e w' => e = .returned (.int .u64 ((sb (fun i => decide (c ≤ i) && a.testBit (i - c)) N : Nat) : Int)) ∧ w' = w := by
  obtain ⟨f, hf⟩ : ∃ f : Nat → Bool, f = fun i => decide (c ≤ i) && a.testBit (i - c) := ⟨_, rfl⟩
  have HF : Hid (∀ i, f i = (decide (c ≤ i) && a.testBit (i - c))) := fun i => by rw [hf]
  rw [← hf]
  clear hf
  go_enter Try.func32, Try.ntmps32
  go_wp2_with fail
  go_loop [9, 10] (fun n_ i_ => ∃ k : Nat, i_ = .int .i64 k ∧ k ≤ N ∧ n_ = .int .u64 ((sb f k : Nat) : Int)) (fun _ i_ => N - (intOf i_).toNat)
  case atStart => exact ⟨0, rfl, by omega, rfl⟩
  case round =>
    obtain ⟨k, rfl, hk, rfl⟩ := hrel
    by_cases hlt : k < N
    · by_cases hck : c ≤ k
      · have HJ : Hid (f k = a.testBit (k - c)) := by show f k = a.testBit (k - c); rw [HF.out k, decide_eq_true hck]; rfl
        have BJ : Hid (∀ w : World, Calls Try.prog 41 #[.int .u64 (a : Int), .int .i64 ((k : Int) - (c : Int))] w fun e w' => e = .returned (.bool (f k)) ∧ w' = w) := fun w => by
          have := B.out ((k : Int) - (c : Int)) w (by omega) (by omega)
          rw [show ((k : Int) - (c : Int)).toNat = k - c from by omega, ← HJ.out] at this
          exact this
        have HS : Hid (sb f (k + 1) = sb f k + (if f k then 2 ^ k else 0)) := rfl
        have hlt1 := sb_lt f k
        have hpw : (2 : Nat) ^ k ≤ 9223372036854775808 := Nat.pow_le_pow_right (n := 2) (by decide) (show k ≤ 63 from by omega)
        generalize sb f k = n at *
        go_wp2_with fail
        refine (BJ.out _).mono ?_
        rintro e w1 ⟨rfl, hw1⟩
        obtain rfl := hw1.symm
        cases hfk : f k
        · go_wp2
          go_light
          exact ⟨⟨k + 1, by simp, by omega, by rw [HS.out, hfk]; simp⟩, by simp [intOf]; omega⟩
        · go_wp2
          go_light
          exact ⟨⟨k + 1, by simp, by omega, by rw [HS.out, hfk, wrap_on n k hlt1 hpw]; simp⟩, by simp [intOf]; omega⟩
      · have HFK : Hid (f k = false) := by show f k = false; rw [HF.out k, decide_eq_false hck]; rfl
        have HS : Hid (sb f (k + 1) = sb f k + (if f k then 2 ^ k else 0)) := rfl
        have hlt1 := sb_lt f k
        have hpw : (2 : Nat) ^ k ≤ 9223372036854775808 := Nat.pow_le_pow_right (n := 2) (by decide) (show k ≤ 63 from by omega)
        generalize sb f k = n at *
        go_wp2
        go_light
        exact ⟨⟨k + 1, by simp, by omega, by rw [HS.out, HFK.out]; simp⟩, by simp [intOf]; omega⟩
    · have HE : Hid (k = N) := by show k = N; omega
      go_wp2
      go_ret
      go_light
      exact ⟨by rw [HE.out]; rfl, rfl⟩
set_option maxRecDepth 100000 in
set_option maxHeartbeats 1000000 in
theorem shd_27 (s : ByteArray) (a c N : Nat) (w : World) (hN0 : 0 < N) (hN : N ≤ 64) (hc : c < N) (q25 : (s.toList == [115, 104, 108]) = false) (q27 : (s.toList == [115, 104, 114, 95, 117]) = true)
    (B : Hid (∀ (i : Int) (w : World), 0 ≤ i → i < 64 → Calls Try.prog 41 #[.int .u64 (a : Int), .int .i64 i] w fun e w' => e = .returned (.bool (a.testBit i.toNat)) ∧ w' = w)) :
    Calls Try.prog 32 #[.string s, .int .u64 (a : Int), .int .i64 (c : Int), .int .i64 (N : Int)] w fun e w' => e = .returned (.int .u64 ((sb (fun i => decide (i + c < N) && a.testBit (i + c)) N : Nat) : Int)) ∧ w' = w := by
  obtain ⟨f, hf⟩ : ∃ f : Nat → Bool, f = fun i => decide (i + c < N) && a.testBit (i + c) := ⟨_, rfl⟩
  have HF : Hid (∀ i, f i = (decide (i + c < N) && a.testBit (i + c))) := fun i => by rw [hf]
  rw [← hf]
  clear hf
  go_enter Try.func32, Try.ntmps32
  go_wp2_with fail
  go_loop [9, 10] (fun n_ i_ => ∃ k : Nat, i_ = .int .i64 k ∧ k ≤ N ∧ n_ = .int .u64 ((sb f k : Nat) : Int)) (fun _ i_ => N - (intOf i_).toNat)
  case atStart => exact ⟨0, rfl, by omega, rfl⟩
  case round =>
    obtain ⟨k, rfl, hk, rfl⟩ := hrel
    by_cases hlt : k < N
    · by_cases hck : k + c < N
      · have HJ : Hid (f k = a.testBit (k + c)) := by show f k = a.testBit (k + c); rw [HF.out k, decide_eq_true hck]; rfl
        have BJ : Hid (∀ w : World, Calls Try.prog 41 #[.int .u64 (a : Int), .int .i64 ((k : Int) + (c : Int))] w fun e w' => e = .returned (.bool (f k)) ∧ w' = w) := fun w => by
          have := B.out ((k : Int) + (c : Int)) w (by omega) (by omega)
          rw [show ((k : Int) + (c : Int)).toNat = k + c from by omega, ← HJ.out] at this
          exact this
        have HS : Hid (sb f (k + 1) = sb f k + (if f k then 2 ^ k else 0)) := rfl
        have hlt1 := sb_lt f k
        have hpw : (2 : Nat) ^ k ≤ 9223372036854775808 := Nat.pow_le_pow_right (n := 2) (by decide) (show k ≤ 63 from by omega)
        generalize sb f k = n at *
        go_wp2_with fail
        refine (BJ.out _).mono ?_
        rintro e w1 ⟨rfl, hw1⟩
        obtain rfl := hw1.symm
        cases hfk : f k
        · go_wp2
          go_light
          exact ⟨⟨k + 1, by simp, by omega, by rw [HS.out, hfk]; simp⟩, by simp [intOf]; omega⟩
        · go_wp2
          go_light
          exact ⟨⟨k + 1, by simp, by omega, by rw [HS.out, hfk, wrap_on n k hlt1 hpw]; simp⟩, by simp [intOf]; omega⟩
      · have HFK : Hid (f k = false) := by show f k = false; rw [HF.out k, decide_eq_false hck]; rfl
        have HS : Hid (sb f (k + 1) = sb f k + (if f k then 2 ^ k else 0)) := rfl
        have hlt1 := sb_lt f k
        have hpw : (2 : Nat) ^ k ≤ 9223372036854775808 := Nat.pow_le_pow_right (n := 2) (by decide) (show k ≤ 63 from by omega)
        generalize sb f k = n at *
        go_wp2
        go_light
        exact ⟨⟨k + 1, by simp, by omega, by rw [HS.out, HFK.out]; simp⟩, by simp [intOf]; omega⟩
    · have HE : Hid (k = N) := by show k = N; omega
      go_wp2
      go_ret
      go_light
      exact ⟨by rw [HE.out]; rfl, rfl⟩
set_option maxRecDepth 100000 in
set_option maxHeartbeats 1000000 in
theorem shd_26 (s : ByteArray) (a c N : Nat) (w : World) (hN0 : 0 < N) (hN : N ≤ 64) (hc : c < N) (q25 : (s.toList == [115, 104, 108]) = false) (q27 : (s.toList == [115, 104, 114, 95, 117]) = false) (q26 : (s.toList == [115, 104, 114, 95, 115]) = true)
    (B : Hid (∀ (i : Int) (w : World), 0 ≤ i → i < 64 → Calls Try.prog 41 #[.int .u64 (a : Int), .int .i64 i] w fun e w' => e = .returned (.bool (a.testBit i.toNat)) ∧ w' = w)) :
    Calls Try.prog 32 #[.string s, .int .u64 (a : Int), .int .i64 (c : Int), .int .i64 (N : Int)] w fun e w' => e = .returned (.int .u64 ((sb (fun i => a.testBit (if N ≤ i + c then N - 1 else i + c)) N : Nat) : Int)) ∧ w' = w := by
  obtain ⟨f, hf⟩ : ∃ f : Nat → Bool, f = fun i => a.testBit (if N ≤ i + c then N - 1 else i + c) := ⟨_, rfl⟩
  have HF : Hid (∀ i, f i = (a.testBit (if N ≤ i + c then N - 1 else i + c))) := fun i => by rw [hf]
  rw [← hf]
  clear hf
  go_enter Try.func32, Try.ntmps32
  go_wp2_with fail
  go_loop [9, 10] (fun n_ i_ => ∃ k : Nat, i_ = .int .i64 k ∧ k ≤ N ∧ n_ = .int .u64 ((sb f k : Nat) : Int)) (fun _ i_ => N - (intOf i_).toNat)
  case atStart => exact ⟨0, rfl, by omega, rfl⟩
  case round =>
    obtain ⟨k, rfl, hk, rfl⟩ := hrel
    by_cases hlt : k < N
    · by_cases hck : N ≤ k + c
      · have HJ : Hid (f k = a.testBit (N - 1)) := by show f k = a.testBit (N - 1); rw [HF.out k, if_pos hck]
        have BJ : Hid (∀ w : World, Calls Try.prog 41 #[.int .u64 (a : Int), .int .i64 ((N : Int) - 1)] w fun e w' => e = .returned (.bool (f k)) ∧ w' = w) := fun w => by
          have := B.out ((N : Int) - 1) w (by omega) (by omega)
          rw [show ((N : Int) - 1).toNat = N - 1 from by omega, ← HJ.out] at this
          exact this
        have HS : Hid (sb f (k + 1) = sb f k + (if f k then 2 ^ k else 0)) := rfl
        have hlt1 := sb_lt f k
        have hpw : (2 : Nat) ^ k ≤ 9223372036854775808 := Nat.pow_le_pow_right (n := 2) (by decide) (show k ≤ 63 from by omega)
        generalize sb f k = n at *
        go_wp2_with fail
        refine (BJ.out _).mono ?_
        rintro e w1 ⟨rfl, hw1⟩
        obtain rfl := hw1.symm
        cases hfk : f k
        · go_wp2
          go_light
          exact ⟨⟨k + 1, by simp, by omega, by rw [HS.out, hfk]; simp⟩, by simp [intOf]; omega⟩
        · go_wp2
          go_light
          exact ⟨⟨k + 1, by simp, by omega, by rw [HS.out, hfk, wrap_on n k hlt1 hpw]; simp⟩, by simp [intOf]; omega⟩
      · have HJ : Hid (f k = a.testBit (k + c)) := by show f k = a.testBit (k + c); rw [HF.out k, if_neg hck]
        have BJ : Hid (∀ w : World, Calls Try.prog 41 #[.int .u64 (a : Int), .int .i64 ((k : Int) + (c : Int))] w fun e w' => e = .returned (.bool (f k)) ∧ w' = w) := fun w => by
          have := B.out ((k : Int) + (c : Int)) w (by omega) (by omega)
          rw [show ((k : Int) + (c : Int)).toNat = k + c from by omega, ← HJ.out] at this
          exact this
        have HS : Hid (sb f (k + 1) = sb f k + (if f k then 2 ^ k else 0)) := rfl
        have hlt1 := sb_lt f k
        have hpw : (2 : Nat) ^ k ≤ 9223372036854775808 := Nat.pow_le_pow_right (n := 2) (by decide) (show k ≤ 63 from by omega)
        generalize sb f k = n at *
        go_wp2_with fail
        refine (BJ.out _).mono ?_
        rintro e w1 ⟨rfl, hw1⟩
        obtain rfl := hw1.symm
        cases hfk : f k
        · go_wp2
          go_light
          exact ⟨⟨k + 1, by simp, by omega, by rw [HS.out, hfk]; simp⟩, by simp [intOf]; omega⟩
        · go_wp2
          go_light
          exact ⟨⟨k + 1, by simp, by omega, by rw [HS.out, hfk, wrap_on n k hlt1 hpw]; simp⟩, by simp [intOf]; omega⟩
    · have HE : Hid (k = N) := by show k = N; omega
      go_wp2
      go_ret
      go_light
      exact ⟨by rw [HE.out]; rfl, rfl⟩
set_option maxRecDepth 100000 in
set_option maxHeartbeats 1000000 in
theorem shd_28 (s : ByteArray) (a c N : Nat) (w : World) (hN0 : 0 < N) (hN : N ≤ 64) (hc : c < N) (q25 : (s.toList == [115, 104, 108]) = false) (q27 : (s.toList == [115, 104, 114, 95, 117]) = false) (q26 : (s.toList == [115, 104, 114, 95, 115]) = false) (q28 : (s.toList == [114, 111, 116, 108]) = true)
    (B : Hid (∀ (i : Int) (w : World), 0 ≤ i → i < 64 → Calls Try.prog 41 #[.int .u64 (a : Int), .int .i64 i] w fun e w' => e = .returned (.bool (a.testBit i.toNat)) ∧ w' = w)) :
    Calls Try.prog 32 #[.string s, .int .u64 (a : Int), .int .i64 (c : Int), .int .i64 (N : Int)] w fun e w' => e = .returned (.int .u64 ((sb (fun i => a.testBit ((i + N - c) % N)) N : Nat) : Int)) ∧ w' = w := by
  obtain ⟨f, hf⟩ : ∃ f : Nat → Bool, f = fun i => a.testBit ((i + N - c) % N) := ⟨_, rfl⟩
  have HF : Hid (∀ i, f i = (a.testBit ((i + N - c) % N))) := fun i => by rw [hf]
  rw [← hf]
  clear hf
  go_enter Try.func32, Try.ntmps32
  go_wp2_with fail
  go_loop [9, 10] (fun n_ i_ => ∃ k : Nat, i_ = .int .i64 k ∧ k ≤ N ∧ n_ = .int .u64 ((sb f k : Nat) : Int)) (fun _ i_ => N - (intOf i_).toNat)
  case atStart => exact ⟨0, rfl, by omega, rfl⟩
  case round =>
    obtain ⟨k, rfl, hk, rfl⟩ := hrel
    by_cases hlt : k < N
    · have hm : ((k : Int) - c + N).tmod N = (((k + N - c) % N : Nat) : Int) := by
        rw [Int.tmod_eq_emod_of_nonneg (by omega), show (k : Int) - c + N = ((k + N - c : Nat) : Int) from by omega]; simp
      have hmod : (k + N - c) % N < N := Nat.mod_lt _ hN0
      obtain ⟨j, hj⟩ : ∃ j : Nat, j = (k + N - c) % N := ⟨_, rfl⟩
      rw [← hj] at hm hmod
      have HJ : Hid (f k = a.testBit j) := by show f k = a.testBit j; rw [HF.out k, hj]
      clear hj
      have BJ : Hid (∀ w : World, Calls Try.prog 41 #[.int .u64 (a : Int), .int .i64 ((j : Int))] w fun e w' => e = .returned (.bool (f k)) ∧ w' = w) := fun w => by
        have := B.out ((j : Int)) w (by omega) (by omega)
        rw [show ((j : Int)).toNat = j from by omega, ← HJ.out] at this
        exact this
      have HS : Hid (sb f (k + 1) = sb f k + (if f k then 2 ^ k else 0)) := rfl
      have hlt1 := sb_lt f k
      have hpw : (2 : Nat) ^ k ≤ 9223372036854775808 := Nat.pow_le_pow_right (n := 2) (by decide) (show k ≤ 63 from by omega)
      generalize sb f k = n at *
      go_wp2_with fail
      refine (BJ.out _).mono ?_
      rintro e w1 ⟨rfl, hw1⟩
      obtain rfl := hw1.symm
      cases hfk : f k
      · go_wp2
        go_light
        exact ⟨⟨k + 1, by simp, by omega, by rw [HS.out, hfk]; simp⟩, by simp [intOf]; omega⟩
      · go_wp2
        go_light
        exact ⟨⟨k + 1, by simp, by omega, by rw [HS.out, hfk, wrap_on n k hlt1 hpw]; simp⟩, by simp [intOf]; omega⟩
    · have HE : Hid (k = N) := by show k = N; omega
      go_wp2
      go_ret
      go_light
      exact ⟨by rw [HE.out]; rfl, rfl⟩
set_option maxRecDepth 100000 in
set_option maxHeartbeats 1000000 in
theorem shd_29 (s : ByteArray) (a c N : Nat) (w : World) (hN0 : 0 < N) (hN : N ≤ 64) (hc : c < N) (q25 : (s.toList == [115, 104, 108]) = false) (q27 : (s.toList == [115, 104, 114, 95, 117]) = false) (q26 : (s.toList == [115, 104, 114, 95, 115]) = false) (q28 : (s.toList == [114, 111, 116, 108]) = false)
    (B : Hid (∀ (i : Int) (w : World), 0 ≤ i → i < 64 → Calls Try.prog 41 #[.int .u64 (a : Int), .int .i64 i] w fun e w' => e = .returned (.bool (a.testBit i.toNat)) ∧ w' = w)) :
    Calls Try.prog 32 #[.string s, .int .u64 (a : Int), .int .i64 (c : Int), .int .i64 (N : Int)] w fun e w' => e = .returned (.int .u64 ((sb (fun i => a.testBit ((i + c) % N)) N : Nat) : Int)) ∧ w' = w := by
  obtain ⟨f, hf⟩ : ∃ f : Nat → Bool, f = fun i => a.testBit ((i + c) % N) := ⟨_, rfl⟩
  have HF : Hid (∀ i, f i = (a.testBit ((i + c) % N))) := fun i => by rw [hf]
  rw [← hf]
  clear hf
  go_enter Try.func32, Try.ntmps32
  go_wp2_with fail
  go_loop [9, 10] (fun n_ i_ => ∃ k : Nat, i_ = .int .i64 k ∧ k ≤ N ∧ n_ = .int .u64 ((sb f k : Nat) : Int)) (fun _ i_ => N - (intOf i_).toNat)
  case atStart => exact ⟨0, rfl, by omega, rfl⟩
  case round =>
    obtain ⟨k, rfl, hk, rfl⟩ := hrel
    by_cases hlt : k < N
    · have hm : ((k : Int) + c).tmod N = (((k + c) % N : Nat) : Int) := by
        rw [Int.tmod_eq_emod_of_nonneg (by omega)]; simp
      have hmod : (k + c) % N < N := Nat.mod_lt _ hN0
      obtain ⟨j, hj⟩ : ∃ j : Nat, j = (k + c) % N := ⟨_, rfl⟩
      rw [← hj] at hm hmod
      have HJ : Hid (f k = a.testBit j) := by show f k = a.testBit j; rw [HF.out k, hj]
      clear hj
      have BJ : Hid (∀ w : World, Calls Try.prog 41 #[.int .u64 (a : Int), .int .i64 ((j : Int))] w fun e w' => e = .returned (.bool (f k)) ∧ w' = w) := fun w => by
        have := B.out ((j : Int)) w (by omega) (by omega)
        rw [show ((j : Int)).toNat = j from by omega, ← HJ.out] at this
        exact this
      have HS : Hid (sb f (k + 1) = sb f k + (if f k then 2 ^ k else 0)) := rfl
      have hlt1 := sb_lt f k
      have hpw : (2 : Nat) ^ k ≤ 9223372036854775808 := Nat.pow_le_pow_right (n := 2) (by decide) (show k ≤ 63 from by omega)
      generalize sb f k = n at *
      go_wp2_with fail
      refine (BJ.out _).mono ?_
      rintro e w1 ⟨rfl, hw1⟩
      obtain rfl := hw1.symm
      cases hfk : f k
      · go_wp2
        go_light
        exact ⟨⟨k + 1, by simp, by omega, by rw [HS.out, hfk]; simp⟩, by simp [intOf]; omega⟩
      · go_wp2
        go_light
        exact ⟨⟨k + 1, by simp, by omega, by rw [HS.out, hfk, wrap_on n k hlt1 hpw]; simp⟩, by simp [intOf]; omega⟩
    · have HE : Hid (k = N) := by show k = N; omega
      go_wp2
      go_ret
      go_light
      exact ⟨by rw [HE.out]; rfl, rfl⟩
end Go.Proofs.Ytolllelejdnjlaa
