/-
  The walk of shift; no statement is proved here.
-/
import Derived.Test.YtolllelejdnjlaaDoorSmall
import Derived.Laws.Bits64
import Derived.Laws.Bits64b
import Derived.Laws.BitsLemmas
namespace Go.Proofs.YtolllelejdnjlaaDoor
open Go.RowKit
set_option linter.unusedVariables false
set_option linter.unusedSimpArgs false

set_option maxRecDepth 100000 in
set_option maxHeartbeats 1000000 in
theorem shf_25 (t g a c : Int) (w : World) (h0 : 0 ≤ c) (h1 : c < 64) :
    Calls Tryd.prog 35 #[.agg #[.int .i64 25, .int .i64 t, .int .i64 g], .int .u64 a, .int .i64 c] w fun e w' => e = .returned (.int .u64 (IntKind.u64.wrap (a * 2 ^ c.toNat))) ∧ Grew w w' := by
  go_enter Tryd.func35, Tryd.ntmps35
  go_wp2
  go_ret
  go_light
  exact ⟨rfl, (Grew.refl _).alloc _⟩
set_option maxRecDepth 100000 in
set_option maxHeartbeats 1000000 in
theorem shf_27 (t g a c : Int) (w : World) (h0 : 0 ≤ c) (h1 : c < 64) :
    Calls Tryd.prog 35 #[.agg #[.int .i64 27, .int .i64 t, .int .i64 g], .int .u64 a, .int .i64 c] w fun e w' => e = .returned (.int .u64 (a / 2 ^ c.toNat)) ∧ Grew w w' := by
  go_enter Tryd.func35, Tryd.ntmps35
  go_wp2
  go_ret
  go_light
  exact ⟨rfl, (Grew.refl _).alloc _⟩
set_option maxRecDepth 100000 in
set_option maxHeartbeats 1000000 in
theorem shf_26x (t g a c x : Int) (w : World) (h0 : 0 ≤ c) (h1 : c < 64)
  (A : Hid (∀ w : World, Calls Tryd.prog 27 #[.agg #[.int .i64 26, .int .i64 t, .int .i64 g], .int .u64 a] w fun e w' => e = .returned (.int .i64 x) ∧ w' = w.alloc (.cells #[.int .i64 26, .int .i64 t, .int .i64 g] 36))) :
    Calls Tryd.prog 35 #[.agg #[.int .i64 26, .int .i64 t, .int .i64 g], .int .u64 a, .int .i64 c] w fun e w' => e = .returned (.int .u64 (IntKind.u64.wrap (x / 2 ^ c.toNat))) ∧ Grew w w' := by
  go_enter Tryd.func35, Tryd.ntmps35
  go_wp2_with (go_at_call 27; refine (A.out _).mono ?_; rintro e w' ⟨rfl, rfl⟩)
  go_ret
  go_light
  exact ⟨rfl, ((Grew.refl _).alloc _).alloc _⟩
set_option maxRecDepth 100000 in
set_option maxHeartbeats 1000000 in
theorem shf_28x (t g a c d x : Int) (w : World) (h0 : 0 ≤ c) (h1 : c < 64) (hd0 : 0 ≤ d) (hd1 : d ≤ 64) (hd : IntKind.i64.wrap (x - c) = d)
  (A : Hid (∀ w : World, Calls Tryd.prog 24 #[.agg #[.int .i64 28, .int .i64 t, .int .i64 g]] w fun e w' => e = .returned (.int .i64 x) ∧ w' = w.alloc (.cells #[.int .i64 28, .int .i64 t, .int .i64 g] 36))) :
    Calls Tryd.prog 35 #[.agg #[.int .i64 28, .int .i64 t, .int .i64 g], .int .u64 a, .int .i64 c] w fun e w' => e = .returned (.int .u64 (bits .or .u64 (IntKind.u64.wrap (a * 2 ^ c.toNat)) (a / 2 ^ d.toNat))) ∧ Grew w w' := by
  go_enter Tryd.func35, Tryd.ntmps35
  go_wp2_with fail
  first
  | go_region_with (go_at_call 24; refine (A.out _).mono ?_; rintro e w' ⟨rfl, rfl⟩)
  | fail
  all_goals go_wp2
  all_goals go_ret
  all_goals go_light
  all_goals
    refine ⟨rfl, ?_⟩
    repeat (first | exact Grew.refl _ | refine Grew.drew ?_ | refine Grew.alloc ?_ _ | refine Grew.set ?_ (by simp) _)
set_option maxRecDepth 100000 in
set_option maxHeartbeats 1000000 in
theorem shf_29x (t g a c d x : Int) (w : World) (h0 : 0 ≤ c) (h1 : c < 64) (hd0 : 0 ≤ d) (hd1 : d ≤ 64) (hd : IntKind.i64.wrap (x - c) = d)
  (A : Hid (∀ w : World, Calls Tryd.prog 24 #[.agg #[.int .i64 29, .int .i64 t, .int .i64 g]] w fun e w' => e = .returned (.int .i64 x) ∧ w' = w.alloc (.cells #[.int .i64 29, .int .i64 t, .int .i64 g] 36))) :
    Calls Tryd.prog 35 #[.agg #[.int .i64 29, .int .i64 t, .int .i64 g], .int .u64 a, .int .i64 c] w fun e w' => e = .returned (.int .u64 (bits .or .u64 (a / 2 ^ c.toNat) (IntKind.u64.wrap (a * 2 ^ d.toNat)))) ∧ Grew w w' := by
  go_enter Tryd.func35, Tryd.ntmps35
  go_wp2_with fail
  first
  | go_region_with (go_at_call 24; refine (A.out _).mono ?_; rintro e w' ⟨rfl, rfl⟩)
  | fail
  all_goals go_wp2
  all_goals go_ret
  all_goals go_light
  all_goals
    refine ⟨rfl, ?_⟩
    repeat (first | exact Grew.refl _ | refine Grew.drew ?_ | refine Grew.alloc ?_ _ | refine Grew.set ?_ (by simp) _)
/- The answers of shift: the count c is below the width u. -/
def shx (k a c x u : Int) : Int :=
  if k = 25 then IntKind.u64.wrap (a * 2 ^ c.toNat) else if k = 26 then IntKind.u64.wrap (x / 2 ^ c.toNat) else if k = 27 then a / 2 ^ c.toNat
  else if k = 28 then bits .or .u64 (IntKind.u64.wrap (a * 2 ^ c.toNat)) (a / 2 ^ (u - c).toNat)
  else bits .or .u64 (a / 2 ^ c.toNat) (IntKind.u64.wrap (a * 2 ^ (u - c).toNat))
theorem wd_le (t : Int) : wd t = 32 ∨ wd t = 64 := by unfold wd; split <;> simp
theorem shift_any (k t g a c : Int) (w : World) (hk0 : 25 ≤ k) (hk1 : k ≤ 29) (ht : t = 1 ∨ t = 2) (h0 : 0 ≤ a) (h1 : a < 18446744073709551616) (h2 : 0 ≤ c) (h3 : c < wd t) :
    Calls Tryd.prog 35 #[.agg #[.int .i64 k, .int .i64 t, .int .i64 g], .int .u64 a, .int .i64 c] w fun e w' => e = .returned (.int .u64 (shx k a c (sg t a) (wd t))) ∧ Grew w w' := by
  have hw := wd_le t
  have hx : IntKind.i64.wrap (wd t - c) = wd t - c := by rw [IntKind.wrap_i64]; omega
  have hh : k = 25 ∨ k = 26 ∨ k = 27 ∨ k = 28 ∨ k = 29 := by omega
  rcases hh with rfl | rfl | rfl | rfl | rfl
  · exact shf_25 t g a c w h2 (by omega)
  · exact shf_26x t g a c (sg t a) w h2 (by omega) (fun w => signed_x 26 t g a w ht h0 h1)
  · exact shf_27 t g a c w h2 (by omega)
  · exact shf_28x t g a c (wd t - c) (wd t) w h2 (by omega) (by omega) (by omega) hx (fun w => width_x 28 t g w ht)
  · exact shf_29x t g a c (wd t - c) (wd t) w h2 (by omega) (by omega) (by omega) hx (fun w => width_x 29 t g w ht)
end Go.Proofs.YtolllelejdnjlaaDoor
