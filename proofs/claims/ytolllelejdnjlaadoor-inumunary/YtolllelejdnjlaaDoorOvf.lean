/-
  The walk of overflows; no statement is proved here.
-/
import Derived.Test.YtolllelejdnjlaaDoorSmall
import Derived.Laws.BitsLemmas
namespace Go.Proofs.YtolllelejdnjlaaDoor
open Go.RowKit
set_option linter.unusedVariables false
set_option linter.unusedSimpArgs false

set_option maxRecDepth 100000 in
set_option maxHeartbeats 1000000 in
theorem ovf_1true (k g a b m x y : Int) (w : World) (hm : IntKind.i64.wrap (-2147483648) = m) (hd : (x == m) = true) (e31 : IntKind.i64.wrap 31 = 31)
  (A : Hid (∀ w : World, Calls Tryd.prog 27 #[.agg #[.int .i64 k, .int .i64 1, .int .i64 g], .int .u64 a] w fun e w' => e = .returned (.int .i64 x) ∧ w' = w.alloc (.cells #[.int .i64 k, .int .i64 1, .int .i64 g] 36)))
  (B : Hid (∀ w : World, Calls Tryd.prog 27 #[.agg #[.int .i64 k, .int .i64 1, .int .i64 g], .int .u64 b] w fun e w' => e = .returned (.int .i64 y) ∧ w' = w.alloc (.cells #[.int .i64 k, .int .i64 1, .int .i64 g] 36)))
  (C : Hid (∀ w : World, Calls Tryd.prog 24 #[.agg #[.int .i64 k, .int .i64 1, .int .i64 g]] w fun e w' => e = .returned (.int .i64 32) ∧ w' = w.alloc (.cells #[.int .i64 k, .int .i64 1, .int .i64 g] 36))) :
    Calls Tryd.prog 30 #[.agg #[.int .i64 k, .int .i64 1, .int .i64 g], .int .u64 a, .int .u64 b] w fun e w' => e = .returned (.bool (y == -1)) ∧ Grew w w' := by
  go_enter Tryd.func30, Tryd.ntmps30
  go_wp2_with fail
  first
  | go_region_with (first
    | (go_at_call 24; refine (C.out _).mono ?_; rintro e w' ⟨rfl, rfl⟩)
    | (go_at_call_of 27 (Value.int IntKind.u64 a); refine (A.out _).mono ?_; rintro e w' ⟨rfl, rfl⟩)
    | (go_at_call_of 27 (Value.int IntKind.u64 b); refine (B.out _).mono ?_; rintro e w' ⟨rfl, rfl⟩))
  | fail
  all_goals go_wp2
  all_goals go_ret
  all_goals go_light
  all_goals
    refine ⟨rfl, ?_⟩
    repeat (first | exact Grew.refl _ | refine Grew.drew ?_ | refine Grew.alloc ?_ _ | refine Grew.set ?_ (by simp) _)
set_option maxRecDepth 100000 in
set_option maxHeartbeats 1000000 in
theorem ovf_1false (k g a b m x y : Int) (w : World) (hm : IntKind.i64.wrap (-2147483648) = m) (hd : (x == m) = false) (e31 : IntKind.i64.wrap 31 = 31)
  (A : Hid (∀ w : World, Calls Tryd.prog 27 #[.agg #[.int .i64 k, .int .i64 1, .int .i64 g], .int .u64 a] w fun e w' => e = .returned (.int .i64 x) ∧ w' = w.alloc (.cells #[.int .i64 k, .int .i64 1, .int .i64 g] 36)))
  (B : Hid (∀ w : World, Calls Tryd.prog 27 #[.agg #[.int .i64 k, .int .i64 1, .int .i64 g], .int .u64 b] w fun e w' => e = .returned (.int .i64 y) ∧ w' = w.alloc (.cells #[.int .i64 k, .int .i64 1, .int .i64 g] 36)))
  (C : Hid (∀ w : World, Calls Tryd.prog 24 #[.agg #[.int .i64 k, .int .i64 1, .int .i64 g]] w fun e w' => e = .returned (.int .i64 32) ∧ w' = w.alloc (.cells #[.int .i64 k, .int .i64 1, .int .i64 g] 36))) :
    Calls Tryd.prog 30 #[.agg #[.int .i64 k, .int .i64 1, .int .i64 g], .int .u64 a, .int .u64 b] w fun e w' => e = .returned (.bool false) ∧ Grew w w' := by
  go_enter Tryd.func30, Tryd.ntmps30
  go_wp2_with fail
  first
  | go_region_with (first
    | (go_at_call 24; refine (C.out _).mono ?_; rintro e w' ⟨rfl, rfl⟩)
    | (go_at_call_of 27 (Value.int IntKind.u64 a); refine (A.out _).mono ?_; rintro e w' ⟨rfl, rfl⟩)
    | (go_at_call_of 27 (Value.int IntKind.u64 b); refine (B.out _).mono ?_; rintro e w' ⟨rfl, rfl⟩))
  | fail
  all_goals go_wp2
  all_goals go_ret
  all_goals go_light
  all_goals
    refine ⟨rfl, ?_⟩
    repeat (first | exact Grew.refl _ | refine Grew.drew ?_ | refine Grew.alloc ?_ _ | refine Grew.set ?_ (by simp) _)
set_option maxRecDepth 100000 in
set_option maxHeartbeats 1000000 in
theorem ovf_2true (k g a b m x y : Int) (w : World) (hm : IntKind.i64.wrap (-9223372036854775808) = m) (hd : (x == m) = true) (e31 : IntKind.i64.wrap 63 = 63)
  (A : Hid (∀ w : World, Calls Tryd.prog 27 #[.agg #[.int .i64 k, .int .i64 2, .int .i64 g], .int .u64 a] w fun e w' => e = .returned (.int .i64 x) ∧ w' = w.alloc (.cells #[.int .i64 k, .int .i64 2, .int .i64 g] 36)))
  (B : Hid (∀ w : World, Calls Tryd.prog 27 #[.agg #[.int .i64 k, .int .i64 2, .int .i64 g], .int .u64 b] w fun e w' => e = .returned (.int .i64 y) ∧ w' = w.alloc (.cells #[.int .i64 k, .int .i64 2, .int .i64 g] 36)))
  (C : Hid (∀ w : World, Calls Tryd.prog 24 #[.agg #[.int .i64 k, .int .i64 2, .int .i64 g]] w fun e w' => e = .returned (.int .i64 64) ∧ w' = w.alloc (.cells #[.int .i64 k, .int .i64 2, .int .i64 g] 36))) :
    Calls Tryd.prog 30 #[.agg #[.int .i64 k, .int .i64 2, .int .i64 g], .int .u64 a, .int .u64 b] w fun e w' => e = .returned (.bool (y == -1)) ∧ Grew w w' := by
  go_enter Tryd.func30, Tryd.ntmps30
  go_wp2_with fail
  first
  | go_region_with (first
    | (go_at_call 24; refine (C.out _).mono ?_; rintro e w' ⟨rfl, rfl⟩)
    | (go_at_call_of 27 (Value.int IntKind.u64 a); refine (A.out _).mono ?_; rintro e w' ⟨rfl, rfl⟩)
    | (go_at_call_of 27 (Value.int IntKind.u64 b); refine (B.out _).mono ?_; rintro e w' ⟨rfl, rfl⟩))
  | fail
  all_goals go_wp2
  all_goals go_ret
  all_goals go_light
  all_goals
    refine ⟨rfl, ?_⟩
    repeat (first | exact Grew.refl _ | refine Grew.drew ?_ | refine Grew.alloc ?_ _ | refine Grew.set ?_ (by simp) _)
set_option maxRecDepth 100000 in
set_option maxHeartbeats 1000000 in
theorem ovf_2false (k g a b m x y : Int) (w : World) (hm : IntKind.i64.wrap (-9223372036854775808) = m) (hd : (x == m) = false) (e31 : IntKind.i64.wrap 63 = 63)
  (A : Hid (∀ w : World, Calls Tryd.prog 27 #[.agg #[.int .i64 k, .int .i64 2, .int .i64 g], .int .u64 a] w fun e w' => e = .returned (.int .i64 x) ∧ w' = w.alloc (.cells #[.int .i64 k, .int .i64 2, .int .i64 g] 36)))
  (B : Hid (∀ w : World, Calls Tryd.prog 27 #[.agg #[.int .i64 k, .int .i64 2, .int .i64 g], .int .u64 b] w fun e w' => e = .returned (.int .i64 y) ∧ w' = w.alloc (.cells #[.int .i64 k, .int .i64 2, .int .i64 g] 36)))
  (C : Hid (∀ w : World, Calls Tryd.prog 24 #[.agg #[.int .i64 k, .int .i64 2, .int .i64 g]] w fun e w' => e = .returned (.int .i64 64) ∧ w' = w.alloc (.cells #[.int .i64 k, .int .i64 2, .int .i64 g] 36))) :
    Calls Tryd.prog 30 #[.agg #[.int .i64 k, .int .i64 2, .int .i64 g], .int .u64 a, .int .u64 b] w fun e w' => e = .returned (.bool false) ∧ Grew w w' := by
  go_enter Tryd.func30, Tryd.ntmps30
  go_wp2_with fail
  first
  | go_region_with (first
    | (go_at_call 24; refine (C.out _).mono ?_; rintro e w' ⟨rfl, rfl⟩)
    | (go_at_call_of 27 (Value.int IntKind.u64 a); refine (A.out _).mono ?_; rintro e w' ⟨rfl, rfl⟩)
    | (go_at_call_of 27 (Value.int IntKind.u64 b); refine (B.out _).mono ?_; rintro e w' ⟨rfl, rfl⟩))
  | fail
  all_goals go_wp2
  all_goals go_ret
  all_goals go_light
  all_goals
    refine ⟨rfl, ?_⟩
    repeat (first | exact Grew.refl _ | refine Grew.drew ?_ | refine Grew.alloc ?_ _ | refine Grew.set ?_ (by simp) _)
def least (t : Int) : Int := if t = 1 then -2147483648 else -9223372036854775808
theorem overflows_any (k t g a b : Int) (w : World) (ht : t = 1 ∨ t = 2) (h0 : 0 ≤ a) (h1 : a < 18446744073709551616) (h2 : 0 ≤ b) (h3 : b < 18446744073709551616) :
    Calls Tryd.prog 30 #[.agg #[.int .i64 k, .int .i64 t, .int .i64 g], .int .u64 a, .int .u64 b] w fun e w' => e = .returned (.bool (decide (sg t a = least t ∧ sg t b = -1))) ∧ Grew w w' := by
  rcases ht with rfl | rfl
  · by_cases h : sg 1 a = least 1
    · refine (ovf_1true k g a b (least 1) (sg 1 a) (sg 1 b) w (by rw [IntKind.wrap_i64]; decide) (beq_iff_eq.2 h) (by decide) (fun w => signed_x k 1 g a w (by decide) h0 h1) (fun w => signed_x k 1 g b w (by decide) h2 h3) (fun w => width_x k 1 g w (by decide))).mono ?_
      rintro e w' ⟨rfl, hg⟩
      refine ⟨?_, hg⟩
      by_cases h' : sg 1 b = -1 <;> simp [h, h']
    · refine (ovf_1false k g a b (least 1) (sg 1 a) (sg 1 b) w (by rw [IntKind.wrap_i64]; decide) (beq_eq_false_iff_ne.2 h) (by decide) (fun w => signed_x k 1 g a w (by decide) h0 h1) (fun w => signed_x k 1 g b w (by decide) h2 h3) (fun w => width_x k 1 g w (by decide))).mono ?_
      rintro e w' ⟨rfl, hg⟩
      refine ⟨?_, hg⟩
      simp [h]
  · by_cases h : sg 2 a = least 2
    · refine (ovf_2true k g a b (least 2) (sg 2 a) (sg 2 b) w (by rw [IntKind.wrap_i64]; decide) (beq_iff_eq.2 h) (by decide) (fun w => signed_x k 2 g a w (by decide) h0 h1) (fun w => signed_x k 2 g b w (by decide) h2 h3) (fun w => width_x k 2 g w (by decide))).mono ?_
      rintro e w' ⟨rfl, hg⟩
      refine ⟨?_, hg⟩
      by_cases h' : sg 2 b = -1 <;> simp [h, h']
    · refine (ovf_2false k g a b (least 2) (sg 2 a) (sg 2 b) w (by rw [IntKind.wrap_i64]; decide) (beq_eq_false_iff_ne.2 h) (by decide) (fun w => signed_x k 2 g a w (by decide) h0 h1) (fun w => signed_x k 2 g b w (by decide) h2 h3) (fun w => width_x k 2 g w (by decide))).mono ?_
      rintro e w' ⟨rfl, hg⟩
      refine ⟨?_, hg⟩
      simp [h]
end Go.Proofs.YtolllelejdnjlaaDoor
