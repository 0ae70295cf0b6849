/-
  The walk of compare; no statement is proved here.
-/
import Derived.Test.YtolllelejdnjlaaDoorSmall
namespace Go.Proofs.YtolllelejdnjlaaDoor
open Go.RowKit
set_option linter.unusedVariables false
set_option linter.unusedSimpArgs false

set_option maxRecDepth 100000 in
set_option maxHeartbeats 1000000 in
theorem compare_any (k t g a b : Int) (w : World) (hk0 : 2 ≤ k) (hk1 : k ≤ 11) (ht : t = 1 ∨ t = 2) (h0 : 0 ≤ a) (h1 : a < 18446744073709551616) (h2 : 0 ≤ b) (h3 : b < 18446744073709551616) :
    Calls Tryd.prog 34 #[.agg #[.int .i64 k, .int .i64 t, .int .i64 g], .int .u64 a, .int .u64 b] w fun e w' => e = .returned (.bool (cmp t k a b)) ∧ Grew w w' := by
  have A : Hid (∀ w : World, Calls Tryd.prog 27 #[.agg #[.int .i64 k, .int .i64 t, .int .i64 g], .int .u64 a] w fun e w' => e = .returned (.int .i64 (sg t a)) ∧ w' = w.alloc (.cells #[.int .i64 k, .int .i64 t, .int .i64 g] 36)) := fun w => signed_x k t g a w ht h0 h1
  have B : Hid (∀ w : World, Calls Tryd.prog 27 #[.agg #[.int .i64 k, .int .i64 t, .int .i64 g], .int .u64 b] w fun e w' => e = .returned (.int .i64 (sg t b)) ∧ w' = w.alloc (.cells #[.int .i64 k, .int .i64 t, .int .i64 g] 36)) := fun w => signed_x k t g b w ht h2 h3
  clear ht h0 h1 h2 h3
  have HK : Hid (k = 2 ∨ k = 3 ∨ k = 4 ∨ k = 5 ∨ k = 6 ∨ k = 7 ∨ k = 8 ∨ k = 9 ∨ k = 10 ∨ k = 11) := by show _ ∨ _; omega
  clear hk0 hk1
  unfold cmp
  generalize sg t a = x at *
  generalize sg t b = y at *
  obtain ⟨C, hC⟩ : ∃ C, C = cmpx k a b x y := ⟨_, rfl⟩
  rw [← hC]
  have HC : Hid (C = cmpx k a b x y) := hC
  clear hC
  go_enter Tryd.func34, Tryd.ntmps34
  go_wp2_with fail
  first
  | go_region_with (first
    | (go_at_call_of 27 (Value.int IntKind.u64 a); refine (A.out _).mono ?_; rintro e w' ⟨rfl, rfl⟩)
    | (go_at_call_of 27 (Value.int IntKind.u64 b); refine (B.out _).mono ?_; rintro e w' ⟨rfl, rfl⟩))
  | fail
  all_goals
    rcases HK.out with rfl | rfl | rfl | rfl | rfl | rfl | rfl | rfl | rfl | rfl <;>
    · go_wp2
      go_ret
      go_light
      refine ⟨by rw [HC.out]; rfl, ?_⟩
      repeat (first | exact Grew.refl _ | refine Grew.drew ?_ | refine Grew.alloc ?_ _ | refine Grew.set ?_ (by simp) _)
end Go.Proofs.YtolllelejdnjlaaDoor
