/-
  The walk of the document's counted; no statement is proved here.
-/
import Derived.Test.YtolllelejdnjlaaDoorRefS
import Derived.Test.YtolllelejdnjlaaDoorCntM
namespace Go.Proofs.YtolllelejdnjlaaDoor
open Go.RowKit
set_option linter.unusedVariables false
set_option linter.unusedSimpArgs false

set_option maxRecDepth 100000 in
set_option maxHeartbeats 1000000 in
theorem cnt_clz (s : ByteArray) (a L N : Nat) (w : World) (hN : N ≤ 64) (hL : L ≤ N) (q12 : (s.toList == [99, 108, 122]) = true)
    (no : Hid (∀ k, k < L → a.testBit (N - 1 - k) = false)) (yes : Hid (L < N → a.testBit (N - 1 - L) = true))
    (B : Hid (∀ (i : Int) (w : World), 0 ≤ i → i < 64 → Calls Tryd.prog 32 #[.int .u64 (a : Int), .int .i64 i] w fun e w' => e = .returned (.bool (a.testBit i.toNat)) ∧ w' = w)) :
    Calls Tryd.prog 21 #[.string s, .int .u64 (a : Int), .int .i64 (N : Int)] w fun e w' => e = .returned (.int .u64 (L : Int)) ∧ w' = w := by
  go_enter Tryd.func21, Tryd.ntmps21
  go_wp2_with fail
  go_loop [7] (fun n_ => ∃ k : Nat, n_ = .int .i64 k ∧ k ≤ L) (fun n_ => L - (intOf n_).toNat)
  case atStart => exact ⟨0, rfl, by omega⟩
  case round =>
    obtain ⟨k, rfl, hk⟩ := hrel
    by_cases hlt : k < L
    · have BJ : Hid (∀ w : World, Calls Tryd.prog 32 #[.int .u64 (a : Int), .int .i64 ((N : Int) - 1 - (k : Int))] w fun e w' => e = .returned (.bool false) ∧ w' = w) := fun w => by
        have := B.out ((N : Int) - 1 - (k : Int)) w (by omega) (by omega)
        rw [show ((N : Int) - 1 - (k : Int)).toNat = N - 1 - k from by omega, no.out k hlt] at this
        exact this
      go_wp2_with fail
      refine (BJ.out _).mono ?_
      rintro e w1 ⟨rfl, hw⟩
      obtain rfl := hw.symm
      go_wp2
      go_light
      exact ⟨⟨k + 1, by simp, by omega⟩, by simp [intOf]; omega⟩
    · have hkL : k = L := by omega
      subst hkL
      by_cases hLN : k < N
      · have BJ : Hid (∀ w : World, Calls Tryd.prog 32 #[.int .u64 (a : Int), .int .i64 ((N : Int) - 1 - (k : Int))] w fun e w' => e = .returned (.bool true) ∧ w' = w) := fun w => by
          have := B.out ((N : Int) - 1 - (k : Int)) w (by omega) (by omega)
          rw [show ((N : Int) - 1 - (k : Int)).toNat = N - 1 - k from by omega, yes.out hLN] at this
          exact this
        go_wp2_with fail
        refine (BJ.out _).mono ?_
        rintro e w1 ⟨rfl, hw⟩
        obtain rfl := hw.symm
        go_wp2
        go_ret
        go_light
        exact ⟨by first | rfl | simp, rfl⟩
      · go_wp2
        go_ret
        go_light
        exact ⟨by first | rfl | simp, rfl⟩
set_option maxRecDepth 100000 in
set_option maxHeartbeats 1000000 in
theorem cnt_ctz (s : ByteArray) (a L N : Nat) (w : World) (hN : N ≤ 64) (hL : L ≤ N) (q12 : (s.toList == [99, 108, 122]) = false) (q13 : (s.toList == [99, 116, 122]) = true)
    (no : Hid (∀ k, k < L → a.testBit (k) = false)) (yes : Hid (L < N → a.testBit (L) = true))
    (B : Hid (∀ (i : Int) (w : World), 0 ≤ i → i < 64 → Calls Tryd.prog 32 #[.int .u64 (a : Int), .int .i64 i] w fun e w' => e = .returned (.bool (a.testBit i.toNat)) ∧ w' = w)) :
    Calls Tryd.prog 21 #[.string s, .int .u64 (a : Int), .int .i64 (N : Int)] w fun e w' => e = .returned (.int .u64 (L : Int)) ∧ w' = w := by
  go_enter Tryd.func21, Tryd.ntmps21
  go_wp2_with fail
  go_loop [7] (fun n_ => ∃ k : Nat, n_ = .int .i64 k ∧ k ≤ L) (fun n_ => L - (intOf n_).toNat)
  case atStart => exact ⟨0, rfl, by omega⟩
  case round =>
    obtain ⟨k, rfl, hk⟩ := hrel
    by_cases hlt : k < L
    · have BJ : Hid (∀ w : World, Calls Tryd.prog 32 #[.int .u64 (a : Int), .int .i64 ((k : Int))] w fun e w' => e = .returned (.bool false) ∧ w' = w) := fun w => by
        have := B.out ((k : Int)) w (by omega) (by omega)
        rw [show ((k : Int)).toNat = k from by omega, no.out k hlt] at this
        exact this
      go_wp2_with fail
      refine (BJ.out _).mono ?_
      rintro e w1 ⟨rfl, hw⟩
      obtain rfl := hw.symm
      go_wp2
      go_light
      exact ⟨⟨k + 1, by simp, by omega⟩, by simp [intOf]; omega⟩
    · have hkL : k = L := by omega
      subst hkL
      by_cases hLN : k < N
      · have BJ : Hid (∀ w : World, Calls Tryd.prog 32 #[.int .u64 (a : Int), .int .i64 ((k : Int))] w fun e w' => e = .returned (.bool true) ∧ w' = w) := fun w => by
          have := B.out ((k : Int)) w (by omega) (by omega)
          rw [show ((k : Int)).toNat = k from by omega, yes.out hLN] at this
          exact this
        go_wp2_with fail
        refine (BJ.out _).mono ?_
        rintro e w1 ⟨rfl, hw⟩
        obtain rfl := hw.symm
        go_wp2
        go_ret
        go_light
        exact ⟨by first | rfl | simp, rfl⟩
      · go_wp2
        go_ret
        go_light
        exact ⟨by first | rfl | simp, rfl⟩
set_option maxRecDepth 100000 in
set_option maxHeartbeats 1000000 in
theorem cnt_pop (s : ByteArray) (a N : Nat) (w : World) (hN : N ≤ 64) (q12 : (s.toList == [99, 108, 122]) = false) (q13 : (s.toList == [99, 116, 122]) = false)
    (B : Hid (∀ (i : Int) (w : World), 0 ≤ i → i < 64 → Calls Tryd.prog 32 #[.int .u64 (a : Int), .int .i64 i] w fun e w' => e = .returned (.bool (a.testBit i.toNat)) ∧ w' = w)) :
    Calls Tryd.prog 21 #[.string s, .int .u64 (a : Int), .int .i64 (N : Int)] w fun e w' => e = .returned (.int .u64 ((pc a N : Nat) : Int)) ∧ w' = w := by
  go_enter Tryd.func21, Tryd.ntmps21
  go_wp2_with fail
  go_loop [7, 8] (fun n_ i_ => ∃ k : Nat, i_ = .int .i64 k ∧ k ≤ N ∧ n_ = .int .i64 ((pc a k : Nat) : Int)) (fun _ i_ => N - (intOf i_).toNat)
  case atStart => exact ⟨0, rfl, by omega, rfl⟩
  case round =>
    obtain ⟨k, rfl, hk, rfl⟩ := hrel
    have hp := pc_le a k
    by_cases hlt : k < N
    · have BJ : Hid (∀ w : World, Calls Tryd.prog 32 #[.int .u64 (a : Int), .int .i64 (k : Int)] w fun e w' => e = .returned (.bool (a.testBit k)) ∧ w' = w) := fun w => by
        have := B.out (k : Int) w (by omega) (by omega)
        rwa [Int.toNat_natCast] at this
      have HS : Hid (pc a (k + 1) = pc a k + (if a.testBit k then 1 else 0)) := rfl
      generalize pc a k = n at *
      go_wp2_with fail
      refine (BJ.out _).mono ?_
      rintro e w1 ⟨rfl, hw⟩
      obtain rfl := hw.symm
      cases hb : a.testBit k
      · go_wp2
        go_light
        exact ⟨⟨k + 1, by simp, by omega, by rw [HS.out, hb]; simp⟩, by simp [intOf]; omega⟩
      · go_wp2
        go_light
        exact ⟨⟨k + 1, by simp, by omega, by rw [HS.out, hb]; simp⟩, by simp [intOf]; omega⟩
    · have HE : Hid (k = N) := by show k = N; omega
      go_wp2
      go_ret
      go_light
      exact ⟨by rw [HE.out]; first | rfl | simp, rfl⟩
end Go.Proofs.YtolllelejdnjlaaDoor
