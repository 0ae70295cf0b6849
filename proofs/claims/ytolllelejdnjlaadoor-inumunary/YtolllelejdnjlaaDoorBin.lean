/-
  The walk of binary; no statement is proved here.
-/
import Derived.Test.YtolllelejdnjlaaDoorCmp
import Derived.Test.YtolllelejdnjlaaDoorAri
import Derived.Test.YtolllelejdnjlaaDoorShf
namespace Go.Proofs.YtolllelejdnjlaaDoor
open Go.RowKit
set_option linter.unusedVariables false
set_option linter.unusedSimpArgs false

/- The answers of binary. -/
def bnx (k t a b : Int) : Int :=
  if k ≤ 11 then (if cmp t k a b then 1 else 0) else if 25 ≤ k then shx k a (b % wd t) (sg t a) (wd t) else arx k a b (sg t a) (sg t b)
set_option maxRecDepth 100000 in
set_option maxHeartbeats 1000000 in
theorem bin_cmp (k t g a b : Int) (w : World) (hk0 : 2 ≤ k) (hk1 : k ≤ 11) (ht : t = 1 ∨ t = 2) (h0 : 0 ≤ a) (h1 : a < 18446744073709551616) (h2 : 0 ≤ b) (h3 : b < 18446744073709551616) :
    Calls Tryd.prog 31 #[.agg #[.int .i64 k, .int .i64 t, .int .i64 g], .int .u64 a, .int .u64 b] w fun e w' => e = .returned (.int .u64 (if cmp t k a b then 1 else 0)) ∧ Grew w w' := by
  have A : Hid (∀ w : World, Calls Tryd.prog 34 #[.agg #[.int .i64 k, .int .i64 t, .int .i64 g], .int .u64 a, .int .u64 b] w fun e w' => e = .returned (.bool (cmp t k a b)) ∧ Grew w w') := fun w => compare_any k t g a b w hk0 hk1 ht h0 h1 h2 h3
  generalize cmp t k a b = C at *
  obtain ⟨r, hr⟩ : ∃ r : Int, r = if C then 1 else 0 := ⟨_, rfl⟩
  rw [← hr]
  have B : Hid (∀ w : World, Calls Tryd.prog 22 #[.bool C] w fun e w' => e = .returned (.int .u64 r) ∧ w' = w) := fun w => by rw [hr]; exact truth_any C w
  clear hr ht h0 h1 h2 h3
  go_enter Tryd.func31, Tryd.ntmps31
  go_wp2_with fail
  refine (A.out _).mono ?_
  rintro e w1 ⟨rfl, g1⟩
  have G1 : Hid (Grew w w1) := ((Grew.refl w).alloc _).trans g1
  clear g1
  go_wp2_with fail
  refine (B.out _).mono ?_
  rintro e w2 ⟨rfl, rfl⟩
  go_wp2_with fail
  go_ret
  exact ⟨rfl, G1.out⟩
set_option maxRecDepth 100000 in
set_option maxHeartbeats 1000000 in
theorem bin_ari (k t g a b r : Int) (w : World) (hk0 : 12 ≤ k) (hk1 : k ≤ 24)
    (A : Hid (∀ w : World, Calls Tryd.prog 36 #[.agg #[.int .i64 k, .int .i64 t, .int .i64 g], .int .u64 a, .int .u64 b] w fun e w' => e = .returned (.int .u64 r) ∧ Grew w w')) :
    Calls Tryd.prog 31 #[.agg #[.int .i64 k, .int .i64 t, .int .i64 g], .int .u64 a, .int .u64 b] w fun e w' => e = .returned (.int .u64 r) ∧ Grew w w' := by
  go_enter Tryd.func31, Tryd.ntmps31
  go_wp2_with fail
  refine (A.out _).mono ?_
  rintro e w1 ⟨rfl, g1⟩
  have G1 : Hid (Grew w w1) := ((Grew.refl w).alloc _).trans g1
  clear g1
  go_wp2_with fail
  go_ret
  exact ⟨rfl, G1.out⟩
set_option maxRecDepth 100000 in
set_option maxHeartbeats 1000000 in
theorem bin_shf (k t g a b r u : Int) (w : World) (hk0 : 25 ≤ k) (hk1 : k ≤ 35) (h2 : 0 ≤ b) (h3 : b < 18446744073709551616) (hu : u = 32 ∨ u = 64)
    (W : Hid (∀ w : World, Calls Tryd.prog 24 #[.agg #[.int .i64 k, .int .i64 t, .int .i64 g]] w fun e w' => e = .returned (.int .i64 u) ∧ w' = w.alloc (.cells #[.int .i64 k, .int .i64 t, .int .i64 g] 36)))
    (A : Hid (∀ w : World, Calls Tryd.prog 35 #[.agg #[.int .i64 k, .int .i64 t, .int .i64 g], .int .u64 a, .int .i64 (b % u)] w fun e w' => e = .returned (.int .u64 r) ∧ Grew w w')) :
    Calls Tryd.prog 31 #[.agg #[.int .i64 k, .int .i64 t, .int .i64 g], .int .u64 a, .int .u64 b] w fun e w' => e = .returned (.int .u64 r) ∧ Grew w w' := by
  rcases hu with rfl | rfl
  · have e32 : IntKind.u64.wrap 32 = 32 := by decide
    obtain ⟨c, hc⟩ : ∃ c, c = b % 32 := ⟨_, rfl⟩
    rw [← hc] at A
    have hc2 : b.tmod 32 = b % 32 := Int.tmod_eq_emod_of_nonneg h2
    have hc3 : IntKind.i64.wrap (b % 32) = c := by rw [IntKind.wrap_i64, hc]; omega
    clear hc h3
    go_enter Tryd.func31, Tryd.ntmps31
    go_wp2_with fail
    first
    | go_region_with (first
      | (go_at_call 24; refine (W.out _).mono ?_; rintro e w' ⟨rfl, rfl⟩)
      | (go_at_call 35; refine (A.out _).mono ?_; rintro e w1 ⟨rfl, g1⟩))
    | fail
    all_goals go_wp2
    all_goals go_ret
    all_goals go_light
    all_goals
      refine ⟨rfl, Grew.trans ?_ g1⟩
      repeat (first | exact Grew.refl _ | refine Grew.drew ?_ | refine Grew.alloc ?_ _ | refine Grew.set ?_ (by simp) _)
  · have e32 : IntKind.u64.wrap 64 = 64 := by decide
    obtain ⟨c, hc⟩ : ∃ c, c = b % 64 := ⟨_, rfl⟩
    rw [← hc] at A
    have hc2 : b.tmod 64 = b % 64 := Int.tmod_eq_emod_of_nonneg h2
    have hc3 : IntKind.i64.wrap (b % 64) = c := by rw [IntKind.wrap_i64, hc]; omega
    clear hc h3
    go_enter Tryd.func31, Tryd.ntmps31
    go_wp2_with fail
    first
    | go_region_with (first
      | (go_at_call 24; refine (W.out _).mono ?_; rintro e w' ⟨rfl, rfl⟩)
      | (go_at_call 35; refine (A.out _).mono ?_; rintro e w1 ⟨rfl, g1⟩))
    | fail
    all_goals go_wp2
    all_goals go_ret
    all_goals go_light
    all_goals
      refine ⟨rfl, Grew.trans ?_ g1⟩
      repeat (first | exact Grew.refl _ | refine Grew.drew ?_ | refine Grew.alloc ?_ _ | refine Grew.set ?_ (by simp) _)
theorem binary_any (k t g a b : Int) (w : World) (hk0 : 2 ≤ k) (hk1 : k ≤ 29) (hk2 : k ≤ 11 ∨ 15 ≤ k) (ht : t = 1 ∨ t = 2) (h0 : 0 ≤ a) (h1 : a < 18446744073709551616) (h2 : 0 ≤ b) (h3 : b < (if t = 1 then 4294967296 else 18446744073709551616)) (hb : 18 ≤ k → k ≤ 21 → b ≠ 0) :
    Calls Tryd.prog 31 #[.agg #[.int .i64 k, .int .i64 t, .int .i64 g], .int .u64 a, .int .u64 b] w fun e w' => e = .returned (.int .u64 (bnx k t a b)) ∧ Grew w w' := by
  have h4 : b < 18446744073709551616 := by split at h3 <;> omega
  unfold bnx
  by_cases c1 : k ≤ 11
  · rw [if_pos c1]
    exact bin_cmp k t g a b w hk0 c1 ht h0 h1 h2 h4
  · rw [if_neg c1]
    by_cases c2 : 25 ≤ k
    · rw [if_pos c2]
      have hw := wd_le t
      have hm := Int.emod_nonneg b (show wd t ≠ 0 from by omega)
      have hm2 := Int.emod_lt_of_pos b (show 0 < wd t from by omega)
      exact bin_shf k t g a b _ (wd t) w c2 (by omega) h2 h4 hw (fun w => width_x k t g w ht) (fun w => shift_any k t g a (b % wd t) w c2 hk1 ht h0 h1 hm hm2)
    · rw [if_neg c2]
      exact bin_ari k t g a b _ w (by omega) (by omega) (fun w => arithmetic_any k t g a b w (by omega) (by omega) ht h0 h1 h2 h3 hb)
end Go.Proofs.YtolllelejdnjlaaDoor
