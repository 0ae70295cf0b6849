/-
  The walk of arithmetic; no statement is proved here.
-/
import Derived.Test.YtolllelejdnjlaaDoorSmall
import Derived.Laws.Bits64
import Derived.Laws.Bits64b
import Derived.Laws.BitsLemmas
namespace Go.Proofs.YtolllelejdnjlaaDoor
open Go.RowKit
set_option linter.unusedVariables false
set_option linter.unusedSimpArgs false

set_option maxRecDepth 100000 in
set_option maxHeartbeats 1000000 in
theorem ari_15 (t g a b : Int) (w : World) :
    Calls Tryd.prog 36 #[.agg #[.int .i64 15, .int .i64 t, .int .i64 g], .int .u64 a, .int .u64 b] w fun e w' => e = .returned (.int .u64 ((a + b) % 18446744073709551616)) ∧ Grew w w' := by
  rw [← IntKind.wrap_u64]
  go_enter Tryd.func36, Tryd.ntmps36
  go_wp2
  go_ret
  go_light
  exact ⟨rfl, (Grew.refl _).alloc _⟩
set_option maxRecDepth 100000 in
set_option maxHeartbeats 1000000 in
theorem ari_16 (t g a b : Int) (w : World) :
    Calls Tryd.prog 36 #[.agg #[.int .i64 16, .int .i64 t, .int .i64 g], .int .u64 a, .int .u64 b] w fun e w' => e = .returned (.int .u64 ((a - b) % 18446744073709551616)) ∧ Grew w w' := by
  rw [← IntKind.wrap_u64]
  go_enter Tryd.func36, Tryd.ntmps36
  go_wp2
  go_ret
  go_light
  exact ⟨rfl, (Grew.refl _).alloc _⟩
set_option maxRecDepth 100000 in
set_option maxHeartbeats 1000000 in
theorem ari_17 (t g a b : Int) (w : World) :
    Calls Tryd.prog 36 #[.agg #[.int .i64 17, .int .i64 t, .int .i64 g], .int .u64 a, .int .u64 b] w fun e w' => e = .returned (.int .u64 (a * b % 18446744073709551616)) ∧ Grew w w' := by
  rw [← IntKind.wrap_u64]
  go_enter Tryd.func36, Tryd.ntmps36
  go_wp2
  go_ret
  go_light
  exact ⟨rfl, (Grew.refl _).alloc _⟩
set_option maxRecDepth 100000 in
set_option maxHeartbeats 1000000 in
theorem ari_22 (t g a b : Int) (w : World) :
    Calls Tryd.prog 36 #[.agg #[.int .i64 22, .int .i64 t, .int .i64 g], .int .u64 a, .int .u64 b] w fun e w' => e = .returned (.int .u64 (bits .and .u64 a b)) ∧ Grew w w' := by
  skip
  go_enter Tryd.func36, Tryd.ntmps36
  go_wp2
  go_ret
  go_light
  exact ⟨rfl, (Grew.refl _).alloc _⟩
set_option maxRecDepth 100000 in
set_option maxHeartbeats 1000000 in
theorem ari_23 (t g a b : Int) (w : World) :
    Calls Tryd.prog 36 #[.agg #[.int .i64 23, .int .i64 t, .int .i64 g], .int .u64 a, .int .u64 b] w fun e w' => e = .returned (.int .u64 (bits .or .u64 a b)) ∧ Grew w w' := by
  skip
  go_enter Tryd.func36, Tryd.ntmps36
  go_wp2
  go_ret
  go_light
  exact ⟨rfl, (Grew.refl _).alloc _⟩
set_option maxRecDepth 100000 in
set_option maxHeartbeats 1000000 in
theorem ari_24 (t g a b : Int) (w : World) :
    Calls Tryd.prog 36 #[.agg #[.int .i64 24, .int .i64 t, .int .i64 g], .int .u64 a, .int .u64 b] w fun e w' => e = .returned (.int .u64 (bits .xor .u64 a b)) ∧ Grew w w' := by
  skip
  go_enter Tryd.func36, Tryd.ntmps36
  go_wp2
  go_ret
  go_light
  exact ⟨rfl, (Grew.refl _).alloc _⟩
set_option maxRecDepth 100000 in
set_option maxHeartbeats 1000000 in
theorem ari_19 (t g a b : Int) (w : World) (h0 : 0 ≤ a) (h1 : a < 18446744073709551616) (h2 : 0 < b) (h3 : b < 18446744073709551616) :
    Calls Tryd.prog 36 #[.agg #[.int .i64 19, .int .i64 t, .int .i64 g], .int .u64 a, .int .u64 b] w fun e w' => e = .returned (.int .u64 (a / b)) ∧ Grew w w' := by
  have hb : (b == 0) = false := beq_eq_false_iff_ne.2 (by omega)
  go_enter Tryd.func36, Tryd.ntmps36
  go_wp2
  go_ret
  go_light
  exact ⟨rfl, (Grew.refl _).alloc _⟩
set_option maxRecDepth 100000 in
set_option maxHeartbeats 1000000 in
theorem ari_21 (t g a b : Int) (w : World) (h0 : 0 ≤ a) (h1 : a < 18446744073709551616) (h2 : 0 < b) (h3 : b < 18446744073709551616) :
    Calls Tryd.prog 36 #[.agg #[.int .i64 21, .int .i64 t, .int .i64 g], .int .u64 a, .int .u64 b] w fun e w' => e = .returned (.int .u64 (a % b)) ∧ Grew w w' := by
  have hb : (b == 0) = false := beq_eq_false_iff_ne.2 (by omega)
  go_enter Tryd.func36, Tryd.ntmps36
  go_wp2
  go_ret
  go_light
  exact ⟨rfl, (Grew.refl _).alloc _⟩
set_option maxRecDepth 100000 in
set_option maxHeartbeats 1000000 in
theorem ari_18x (t g a b x y : Int) (w : World)
  (A : Hid (∀ w : World, Calls Tryd.prog 27 #[.agg #[.int .i64 18, .int .i64 t, .int .i64 g], .int .u64 a] w fun e w' => e = .returned (.int .i64 x) ∧ w' = w.alloc (.cells #[.int .i64 18, .int .i64 t, .int .i64 g] 36)))
  (B : Hid (∀ w : World, Calls Tryd.prog 27 #[.agg #[.int .i64 18, .int .i64 t, .int .i64 g], .int .u64 b] w fun e w' => e = .returned (.int .i64 y) ∧ w' = w.alloc (.cells #[.int .i64 18, .int .i64 t, .int .i64 g] 36)))
  (hy : (y == 0) = false) (hy2 : ¬ y = 0) :
    Calls Tryd.prog 36 #[.agg #[.int .i64 18, .int .i64 t, .int .i64 g], .int .u64 a, .int .u64 b] w fun e w' => e = .returned (.int .u64 (IntKind.u64.wrap (IntKind.i64.wrap (x.tdiv y)))) ∧ Grew w w' := by
  go_enter Tryd.func36, Tryd.ntmps36
  go_wp2_with fail
  first
  | go_region_with (first
    | (go_at_call_of 27 (Value.int IntKind.u64 a); refine (A.out _).mono ?_; rintro e w' ⟨rfl, rfl⟩)
    | (go_at_call_of 27 (Value.int IntKind.u64 b); refine (B.out _).mono ?_; rintro e w' ⟨rfl, rfl⟩))
  | fail
  all_goals go_wp2
  all_goals go_ret
  all_goals go_light
  all_goals
    refine ⟨rfl, ?_⟩
    repeat (first | exact Grew.refl _ | refine Grew.drew ?_ | refine Grew.alloc ?_ _ | refine Grew.set ?_ (by simp) _)
theorem ari_18 (t g a b : Int) (w : World) (ht : t = 1 ∨ t = 2) (h0 : 0 ≤ a) (h1 : a < 18446744073709551616) (h2 : 0 ≤ b) (h3 : b < 18446744073709551616) (hy : sg t b ≠ 0) :
    Calls Tryd.prog 36 #[.agg #[.int .i64 18, .int .i64 t, .int .i64 g], .int .u64 a, .int .u64 b] w fun e w' => e = .returned (.int .u64 ((sg t a).tdiv (sg t b) % 18446744073709551616)) ∧ Grew w w' := by
  have e : (sg t a).tdiv (sg t b) % 18446744073709551616 = IntKind.u64.wrap (IntKind.i64.wrap ((sg t a).tdiv (sg t b))) := by
    rw [IntKind.wrap_u64, IntKind.wrap_i64]; omega
  rw [e]
  exact ari_18x t g a b (sg t a) (sg t b) w (fun w => signed_x 18 t g a w ht h0 h1) (fun w => signed_x 18 t g b w ht h2 h3) (beq_eq_false_iff_ne.2 hy) hy
set_option maxRecDepth 100000 in
set_option maxHeartbeats 1000000 in
theorem ari_20x (t g a b x y : Int) (w : World)
  (A : Hid (∀ w : World, Calls Tryd.prog 27 #[.agg #[.int .i64 20, .int .i64 t, .int .i64 g], .int .u64 a] w fun e w' => e = .returned (.int .i64 x) ∧ w' = w.alloc (.cells #[.int .i64 20, .int .i64 t, .int .i64 g] 36)))
  (B : Hid (∀ w : World, Calls Tryd.prog 27 #[.agg #[.int .i64 20, .int .i64 t, .int .i64 g], .int .u64 b] w fun e w' => e = .returned (.int .i64 y) ∧ w' = w.alloc (.cells #[.int .i64 20, .int .i64 t, .int .i64 g] 36)))
  (hy : (y == 0) = false) (hy2 : ¬ y = 0) :
    Calls Tryd.prog 36 #[.agg #[.int .i64 20, .int .i64 t, .int .i64 g], .int .u64 a, .int .u64 b] w fun e w' => e = .returned (.int .u64 (IntKind.u64.wrap (x.tmod y))) ∧ Grew w w' := by
  go_enter Tryd.func36, Tryd.ntmps36
  go_wp2_with fail
  first
  | go_region_with (first
    | (go_at_call_of 27 (Value.int IntKind.u64 a); refine (A.out _).mono ?_; rintro e w' ⟨rfl, rfl⟩)
    | (go_at_call_of 27 (Value.int IntKind.u64 b); refine (B.out _).mono ?_; rintro e w' ⟨rfl, rfl⟩))
  | fail
  all_goals go_wp2
  all_goals go_ret
  all_goals go_light
  all_goals
    refine ⟨rfl, ?_⟩
    repeat (first | exact Grew.refl _ | refine Grew.drew ?_ | refine Grew.alloc ?_ _ | refine Grew.set ?_ (by simp) _)
theorem ari_20 (t g a b : Int) (w : World) (ht : t = 1 ∨ t = 2) (h0 : 0 ≤ a) (h1 : a < 18446744073709551616) (h2 : 0 ≤ b) (h3 : b < 18446744073709551616) (hy : sg t b ≠ 0) :
    Calls Tryd.prog 36 #[.agg #[.int .i64 20, .int .i64 t, .int .i64 g], .int .u64 a, .int .u64 b] w fun e w' => e = .returned (.int .u64 ((sg t a).tmod (sg t b) % 18446744073709551616)) ∧ Grew w w' := by
  have e : (sg t a).tmod (sg t b) % 18446744073709551616 = IntKind.u64.wrap ((sg t a).tmod (sg t b)) := by
    rw [IntKind.wrap_u64]
  rw [e]
  exact ari_20x t g a b (sg t a) (sg t b) w (fun w => signed_x 20 t g a w ht h0 h1) (fun w => signed_x 20 t g b w ht h2 h3) (beq_eq_false_iff_ne.2 hy) hy
/- The answers of arithmetic. -/
def arx (k a b x y : Int) : Int :=
  if k = 15 then (a + b) % 18446744073709551616 else if k = 16 then (a - b) % 18446744073709551616 else if k = 17 then a * b % 18446744073709551616
  else if k = 18 then x.tdiv y % 18446744073709551616 else if k = 19 then a / b else if k = 20 then x.tmod y % 18446744073709551616 else if k = 21 then a % b
  else if k = 22 then bits .and .u64 a b else if k = 23 then bits .or .u64 a b else bits .xor .u64 a b
theorem sg_zero {t b : Int} (ht : t = 1 ∨ t = 2) (h2 : 0 ≤ b) (h3 : b < (if t = 1 then 4294967296 else 18446744073709551616)) : sg t b = 0 ↔ b = 0 := by
  rcases ht with rfl | rfl <;> simp [sg] at * <;> omega
theorem arithmetic_any (k t g a b : Int) (w : World) (hk0 : 15 ≤ k) (hk1 : k ≤ 24) (ht : t = 1 ∨ t = 2) (h0 : 0 ≤ a) (h1 : a < 18446744073709551616) (h2 : 0 ≤ b) (h3 : b < (if t = 1 then 4294967296 else 18446744073709551616)) (hb : 18 ≤ k → k ≤ 21 → b ≠ 0) :
    Calls Tryd.prog 36 #[.agg #[.int .i64 k, .int .i64 t, .int .i64 g], .int .u64 a, .int .u64 b] w fun e w' => e = .returned (.int .u64 (arx k a b (sg t a) (sg t b))) ∧ Grew w w' := by
  have h4 : b < 18446744073709551616 := by split at h3 <;> omega
  have hz := sg_zero ht h2 h3
  have hh : k = 15 ∨ k = 16 ∨ k = 17 ∨ k = 18 ∨ k = 19 ∨ k = 20 ∨ k = 21 ∨ k = 22 ∨ k = 23 ∨ k = 24 := by omega
  rcases hh with rfl | rfl | rfl | rfl | rfl | rfl | rfl | rfl | rfl | rfl
  · exact ari_15 t g a b w
  · exact ari_16 t g a b w
  · exact ari_17 t g a b w
  · exact ari_18 t g a b w ht h0 h1 h2 h4 (fun h => hb (by omega) (by omega) (hz.1 h))
  · have := hb (by omega) (by omega); exact ari_19 t g a b w h0 h1 (by omega) h4
  · exact ari_20 t g a b w ht h0 h1 h2 h4 (fun h => hb (by omega) (by omega) (hz.1 h))
  · have := hb (by omega) (by omega); exact ari_21 t g a b w h0 h1 (by omega) h4
  · exact ari_22 t g a b w
  · exact ari_23 t g a b w
  · exact ari_24 t g a b w
end Go.Proofs.YtolllelejdnjlaaDoor
