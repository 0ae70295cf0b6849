/-
  The walks of inum's unary: eqz, clz, ctz, popcnt; no statement is proved here.
-/
import Derived.Test.YtolllelejdnjlaaDoorUna
import Derived.Deep.RegionHeld3
namespace Go.Proofs.YtolllelejdnjlaaDoor
open Go.RowKit
set_option linter.unusedVariables false
set_option linter.unusedSimpArgs false

set_option maxRecDepth 100000 in
theorem una_1 (t g a r : Int) (w : World) (b : Bool) (hb : (a == 0) = b)
    (T : Hid (∀ w : World, Calls Tryd.prog 22 #[.bool b] w fun e w' => e = .returned (.int .u64 r) ∧ w' = w)) :
    Calls Tryd.prog 14 #[.agg #[.int .i64 1, .int .i64 t, .int .i64 g], .int .u64 a] w fun e w' => e = .returned (.int .u64 r) ∧ Grew w w' := by
  go_enter Tryd.func14, Tryd.ntmps14
  go_wp2_with fail
  refine (T.out _).mono ?_
  rintro e w1 ⟨rfl, hw⟩
  obtain rfl := hw.symm
  go_wp2_with fail
  go_ret
  exact ⟨rfl, (Grew.refl _).alloc _⟩
set_option maxRecDepth 100000 in
theorem una_14 (t g a r : Int) (w : World) (r0 : 0 ≤ r) (r1 : r ≤ 64)
    (T : Hid (∀ w : World, Calls Tryd.prog 26 #[.int .u64 a] w fun e w' => e = .returned (.int .i64 r) ∧ w' = w)) :
    Calls Tryd.prog 14 #[.agg #[.int .i64 14, .int .i64 t, .int .i64 g], .int .u64 a] w fun e w' => e = .returned (.int .u64 r) ∧ Grew w w' := by
  go_enter Tryd.func14, Tryd.ntmps14
  go_wp2_with fail
  refine (T.out _).mono ?_
  rintro e w1 ⟨rfl, hw⟩
  obtain rfl := hw.symm
  go_wp2_with fail
  go_ret
  exact ⟨rfl, (Grew.refl _).alloc _⟩
set_option maxRecDepth 100000 in
set_option maxHeartbeats 1000000 in
theorem una_12 (t g a z u d q p : Int) (w : World) (e1 : IntKind.i64.wrap (64 - u) = d) (e2 : IntKind.i64.wrap (z - d) = q) (e3 : IntKind.u64.wrap q = p)
    (T : Hid (∀ w : World, Calls Tryd.prog 23 #[.int .u64 a] w fun e w' => e = .returned (.int .i64 z) ∧ w' = w))
    (W : Hid (∀ w : World, Calls Tryd.prog 24 #[.agg #[.int .i64 12, .int .i64 t, .int .i64 g]] w fun e w' => e = .returned (.int .i64 u) ∧ w' = w.alloc (.cells #[.int .i64 12, .int .i64 t, .int .i64 g] 36))) :
    Calls Tryd.prog 14 #[.agg #[.int .i64 12, .int .i64 t, .int .i64 g], .int .u64 a] w fun e w' => e = .returned (.int .u64 p) ∧ Grew w w' := by
  go_enter Tryd.func14, Tryd.ntmps14
  go_wp2_with fail
  go_region_held3 (fun w' => w'.cell? ⟨w.heap.size, 0, none⟩ = some (.int .i64 12) ∧ w'.cell? ⟨w.heap.size, 1, none⟩ = some (.int .i64 t) ∧ w'.cell? ⟨w.heap.size, 2, none⟩ = some (.int .i64 g)) (go_keep)
    (first
    | (go_at_call 23; refine (T.out _).mono ?_; rintro e w3 ⟨rfl, hw3⟩; obtain rfl := hw3.symm)
    | (go_at_call 24; refine (W.out _).mono ?_; rintro e w5 ⟨rfl, rfl⟩))
  all_goals go_wp2
  all_goals go_ret
  all_goals go_light
  all_goals
    refine ⟨rfl, ?_⟩
    repeat (first | exact Grew.refl _ | refine Grew.drew ?_ | refine Grew.drewN ?_ _ | refine Grew.alloc ?_ _)
set_option maxRecDepth 100000 in
set_option maxHeartbeats 1000000 in
theorem una_13a (t g a z u p : Int) (w : World) (e2 : u < z) (e3 : IntKind.u64.wrap u = p)
    (T : Hid (∀ w' : World, Grew w w' → Calls Tryd.prog 25 #[.int .u64 a] w' fun e w'' => e = .returned (.int .i64 z) ∧ w'' = w'))
    (W : Hid (∀ w : World, Calls Tryd.prog 24 #[.agg #[.int .i64 13, .int .i64 t, .int .i64 g]] w fun e w' => e = .returned (.int .i64 u) ∧ w' = w.alloc (.cells #[.int .i64 13, .int .i64 t, .int .i64 g] 36))) :
    Calls Tryd.prog 14 #[.agg #[.int .i64 13, .int .i64 t, .int .i64 g], .int .u64 a] w fun e w' => e = .returned (.int .u64 p) ∧ Grew w w' := by
  go_enter Tryd.func14, Tryd.ntmps14
  go_wp2_with fail
  go_region_held3 (fun w' => w'.cell? ⟨w.heap.size, 0, none⟩ = some (.int .i64 13) ∧ w'.cell? ⟨w.heap.size, 1, none⟩ = some (.int .i64 t) ∧ w'.cell? ⟨w.heap.size, 2, none⟩ = some (.int .i64 g)) (go_keep)
    (first
    | (go_at_call 25; refine (T.out _ (by repeat (first | exact Grew.refl _ | refine Grew.drew ?_ | refine Grew.drewN ?_ _ | refine Grew.alloc ?_ _))).mono ?_; rintro e w3 ⟨rfl, hw3⟩; obtain rfl := hw3.symm)
    | (go_at_call 24; refine (W.out _).mono ?_; rintro e w5 ⟨rfl, rfl⟩))
  all_goals go_wp2
  all_goals go_ret
  all_goals go_light
  all_goals
    refine ⟨rfl, ?_⟩
    repeat (first | exact Grew.refl _ | refine Grew.drew ?_ | refine Grew.drewN ?_ _ | refine Grew.alloc ?_ _)
set_option maxRecDepth 100000 in
set_option maxHeartbeats 1000000 in
theorem una_13b (t g a z u p : Int) (w : World) (e2 : z ≤ u) (e3 : IntKind.u64.wrap z = p)
    (T : Hid (∀ w' : World, Grew w w' → Calls Tryd.prog 25 #[.int .u64 a] w' fun e w'' => e = .returned (.int .i64 z) ∧ w'' = w'))
    (W : Hid (∀ w : World, Calls Tryd.prog 24 #[.agg #[.int .i64 13, .int .i64 t, .int .i64 g]] w fun e w' => e = .returned (.int .i64 u) ∧ w' = w.alloc (.cells #[.int .i64 13, .int .i64 t, .int .i64 g] 36))) :
    Calls Tryd.prog 14 #[.agg #[.int .i64 13, .int .i64 t, .int .i64 g], .int .u64 a] w fun e w' => e = .returned (.int .u64 p) ∧ Grew w w' := by
  go_enter Tryd.func14, Tryd.ntmps14
  go_wp2_with fail
  go_region_held3 (fun w' => w'.cell? ⟨w.heap.size, 0, none⟩ = some (.int .i64 13) ∧ w'.cell? ⟨w.heap.size, 1, none⟩ = some (.int .i64 t) ∧ w'.cell? ⟨w.heap.size, 2, none⟩ = some (.int .i64 g)) (go_keep)
    (first
    | (go_at_call 25; refine (T.out _ (by repeat (first | exact Grew.refl _ | refine Grew.drew ?_ | refine Grew.drewN ?_ _ | refine Grew.alloc ?_ _))).mono ?_; rintro e w3 ⟨rfl, hw3⟩; obtain rfl := hw3.symm)
    | (go_at_call 24; refine (W.out _).mono ?_; rintro e w5 ⟨rfl, rfl⟩))
  all_goals go_wp2
  all_goals go_ret
  all_goals go_light
  all_goals
    refine ⟨rfl, ?_⟩
    repeat (first | exact Grew.refl _ | refine Grew.drew ?_ | refine Grew.drewN ?_ _ | refine Grew.alloc ?_ _)
end Go.Proofs.YtolllelejdnjlaaDoor
