/-
  The walks of inum's unary (the extending and wrapping kinds) and Unary; no statement is proved here.
-/
import Derived.Test.YtolllelejdnjlaaDoorBinA
import Derived.Deep.RegionHeld3
namespace Go.Proofs.YtolllelejdnjlaaDoor
open Go.RowKit
set_option linter.unusedVariables false
set_option linter.unusedSimpArgs false

set_option maxRecDepth 100000 in
theorem una_30 (t g a : Int) (w : World) :
    Calls Tryd.prog 14 #[.agg #[.int .i64 30, .int .i64 t, .int .i64 g], .int .u64 a] w fun e w' => e = .returned (.int .u64 (IntKind.u64.wrap (IntKind.i8.wrap a))) ∧ Grew w w' := by
  go_enter Tryd.func14, Tryd.ntmps14
  go_wp2
  go_ret
  go_light
  exact ⟨rfl, (Grew.refl _).alloc _⟩
set_option maxRecDepth 100000 in
theorem una_31 (t g a : Int) (w : World) :
    Calls Tryd.prog 14 #[.agg #[.int .i64 31, .int .i64 t, .int .i64 g], .int .u64 a] w fun e w' => e = .returned (.int .u64 (IntKind.u64.wrap (IntKind.i16.wrap a))) ∧ Grew w w' := by
  go_enter Tryd.func14, Tryd.ntmps14
  go_wp2
  go_ret
  go_light
  exact ⟨rfl, (Grew.refl _).alloc _⟩
set_option maxRecDepth 100000 in
theorem una_32 (t g a : Int) (w : World) :
    Calls Tryd.prog 14 #[.agg #[.int .i64 32, .int .i64 t, .int .i64 g], .int .u64 a] w fun e w' => e = .returned (.int .u64 (IntKind.u64.wrap (wrap32 a))) ∧ Grew w w' := by
  go_enter Tryd.func14, Tryd.ntmps14
  go_wp2
  go_ret
  go_light
  exact ⟨rfl, (Grew.refl _).alloc _⟩
set_option maxRecDepth 100000 in
theorem una_33 (t g a : Int) (w : World) :
    Calls Tryd.prog 14 #[.agg #[.int .i64 33, .int .i64 t, .int .i64 g], .int .u64 a] w fun e w' => e = .returned (.int .u64 (a)) ∧ Grew w w' := by
  go_enter Tryd.func14, Tryd.ntmps14
  go_wp2
  go_ret
  go_light
  exact ⟨rfl, (Grew.refl _).alloc _⟩
set_option maxRecDepth 100000 in
theorem una_35 (t g a : Int) (w : World) :
    Calls Tryd.prog 14 #[.agg #[.int .i64 35, .int .i64 t, .int .i64 g], .int .u64 a] w fun e w' => e = .returned (.int .u64 (a)) ∧ Grew w w' := by
  go_enter Tryd.func14, Tryd.ntmps14
  go_wp2
  go_ret
  go_light
  exact ⟨rfl, (Grew.refl _).alloc _⟩
set_option maxRecDepth 100000 in
theorem una_34 (t g a x : Int) (w : World)
    (A : Hid (∀ w : World, Calls Tryd.prog 27 #[.agg #[.int .i64 34, .int .i64 t, .int .i64 g], .int .u64 a] w fun e w' => e = .returned (.int .i64 x) ∧ w' = w.alloc (.cells #[.int .i64 34, .int .i64 t, .int .i64 g] 36))) :
    Calls Tryd.prog 14 #[.agg #[.int .i64 34, .int .i64 t, .int .i64 g], .int .u64 a] w fun e w' => e = .returned (.int .u64 (IntKind.u64.wrap x)) ∧ Grew w w' := by
  go_enter Tryd.func14, Tryd.ntmps14
  go_wp2_with (go_at_call 27; refine (A.out _).mono ?_; rintro e w' ⟨rfl, rfl⟩)
  go_ret
  go_light
  exact ⟨rfl, ((Grew.refl _).alloc _).alloc _⟩
set_option maxRecDepth 100000 in
theorem Una_no (op a k t g r : Int) (w : World) (hr : (r != 1) = true)
    (F : Hid (∀ w : World, Calls Tryd.prog 11 #[.int .i64 op] w fun e w' => e = .returned (.agg #[.int .i64 k, .int .i64 t, .int .i64 g]) ∧ Grew w w'))
    (R : Hid (∀ w : World, Calls Tryd.prog 12 #[.int .i64 k] w fun e w' => e = .returned (.int .i64 r) ∧ w' = w)) :
    Calls Tryd.prog 5 #[.int .i64 op, .int .u64 a] w fun e w' => e = .returned (.tuple #[.int .u64 0, .int .i64 1]) ∧ Grew w w' := by
  go_enter Tryd.func5, Tryd.ntmps5
  go_wp2_with fail
  refine (F.out _).mono ?_
  rintro e w1 ⟨rfl, g1⟩
  have G1 : Hid (Grew w w1) := g1
  clear g1
  go_wp2_with fail
  refine (R.out _).mono ?_
  rintro e w2 ⟨rfl, hw2⟩
  obtain rfl := hw2.symm
  go_wp2_with fail
  go_ret2
  exact ⟨rfl, G1.out.alloc _⟩
set_option maxRecDepth 100000 in
set_option maxHeartbeats 2000000 in
theorem Una_yes (op a a1 x y k t g : Int) (w : World)
    (F : Hid (∀ w : World, Calls Tryd.prog 11 #[.int .i64 op] w fun e w' => e = .returned (.agg #[.int .i64 k, .int .i64 t, .int .i64 g]) ∧ Grew w w'))
    (R : Hid (∀ w : World, Calls Tryd.prog 12 #[.int .i64 k] w fun e w' => e = .returned (.int .i64 1) ∧ w' = w))
    (A : Hid (∀ w : World, Calls Tryd.prog 13 #[.int .u64 a, .int .i64 t] w fun e w' => e = .returned (.int .u64 a1) ∧ w' = w))
    (U : Hid (∀ w : World, Calls Tryd.prog 14 #[.agg #[.int .i64 k, .int .i64 t, .int .i64 g], .int .u64 a1] w fun e w' => e = .returned (.int .u64 x) ∧ Grew w w'))
    (C : Hid (∀ w : World, Calls Tryd.prog 13 #[.int .u64 x, .int .i64 g] w fun e w' => e = .returned (.int .u64 y) ∧ w' = w)) :
    Calls Tryd.prog 5 #[.int .i64 op, .int .u64 a] w fun e w' => e = .returned (.tuple #[.int .u64 y, .int .i64 0]) ∧ Grew w w' := by
  go_enter Tryd.func5, Tryd.ntmps5
  go_wp2_with fail
  refine (F.out _).mono ?_
  rintro e w1 ⟨rfl, g1⟩
  have G1 : Hid (Grew w w1) := g1
  clear g1
  go_wp2_with fail
  refine (R.out _).mono ?_
  rintro e w2 ⟨rfl, hw2⟩
  obtain rfl := hw2.symm
  go_wp2_with fail
  go_region_held3 (fun w' => w'.cell? ⟨w1.heap.size, 0, none⟩ = some (.int .i64 k) ∧ w'.cell? ⟨w1.heap.size, 1, none⟩ = some (.int .i64 t) ∧ w'.cell? ⟨w1.heap.size, 2, none⟩ = some (.int .i64 g)) (go_keep)
    (first
    | (go_at_call_of 13 (Value.int IntKind.u64 a); refine (A.out _).mono ?_; rintro e w3 ⟨rfl, hw3⟩; obtain rfl := hw3.symm)
    | (go_at_call 14; refine (U.out _).mono ?_; rintro e w5 ⟨rfl, g5⟩; have hc0 : w5.cell? ⟨w1.heap.size, 0, none⟩ = some (.int .i64 k) := (by rw [g5.1.cell (by simp)]; go_simp); have hc1 : w5.cell? ⟨w1.heap.size, 1, none⟩ = some (.int .i64 t) := (by rw [g5.1.cell (by simp)]; go_simp); have hc5 : w5.cell? ⟨w1.heap.size, 2, none⟩ = some (.int .i64 g) := (by rw [g5.1.cell (by simp)]; go_simp))
    | (go_at_call_of 13 (Value.int IntKind.u64 x); refine (C.out _).mono ?_; rintro e w6 ⟨rfl, hw6⟩; obtain rfl := hw6.symm))
  all_goals go_wp2
  all_goals go_ret2
  all_goals
    refine ⟨rfl, Grew.trans ?_ g5⟩
    repeat (first | exact G1.out | refine Grew.drew ?_ | refine Grew.drewN ?_ _ | refine Grew.alloc ?_ _ | refine Grew.set ?_ (by simp) _)
end Go.Proofs.YtolllelejdnjlaaDoor
