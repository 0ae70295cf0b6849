/-
  The walks of fnum's Binary and Compare; no statement is proved here.
-/
import Derived.Test.YtjkebimmddlccaaDoorFind
import Derived.Test.YtjkebimmddlccaaDoorFnW
namespace Go.Proofs.YtjkebimmddlccaaDoor
open Go.RowKit
set_option linter.unusedVariables false
set_option linter.unusedSimpArgs false

set_option maxRecDepth 100000 in
set_option maxHeartbeats 2000000 in
theorem Binary_c32 (op K R a b : Int) (A B : Nat) (o : Option Nat) (w : World) (n0 : (K == 0) = false) (n1 : (K == 20) = false)
    (F : Hid (Calls Tryd.prog 19 #[.int .i64 14, .int .i64 op] w fun e w' => e = .returned (.tuple #[.int .i64 K, .int .i64 32]) ∧ Grew w w'))
    (TA : Hid (∀ w : World, Calls Tryd.prog 24 #[.int .u64 a] w fun e w' => e = .returned (.float .f32 A) ∧ w' = w))
    (TB : Hid (∀ w : World, Calls Tryd.prog 24 #[.int .u64 b] w fun e w' => e = .returned (.float .f32 B) ∧ w' = w))
    (N : Hid (∀ w : World, Calls Tryd.prog 30 #[.int .i64 K, .float .f32 A, .float .f32 B] w fun e w' => ∃ z, e = .returned (.float .f32 z) ∧ Res Ieee.single o z ∧ Grew w w'))
    (L : Hid (∀ (z : Nat) (w : World), Res Ieee.single o z → Calls Tryd.prog 22 #[.float .f32 z] w fun e w' => e = .returned (.int .u64 R) ∧ w' = w)) :
    Calls Tryd.prog 10 #[.int .i64 op, .int .u64 a, .int .u64 b] w fun e w' => e = .returned (.tuple #[.int .u64 R, .int .i64 0]) ∧ Grew w w' := by
  go_enter Tryd.func10, Tryd.ntmps10
  go_wp2_with fail
  refine (F.out).mono ?_
  rintro e w1 ⟨rfl, g1⟩
  have G1 : Hid (Grew w w1) := g1
  clear g1
  go_wp2_with fail
  refine (TA.out _).mono ?_
  rintro e w2 ⟨rfl, h2⟩
  obtain rfl := h2.symm
  go_wp2_with fail
  refine (TB.out _).mono ?_
  rintro e w3 ⟨rfl, h3⟩
  obtain rfl := h3.symm
  go_wp2_with fail
  refine (N.out _).mono ?_
  rintro e w4 ⟨z, rfl, hz, g4⟩
  have L2 := L.out z w4 hz
  have G4 : Hid (Grew w1 w4) := by first | exact g4
  clear g4 hz
  go_wp2_with fail
  refine L2.mono ?_
  rintro e w5 ⟨rfl, h5⟩
  obtain rfl := h5.symm
  go_wp2
  go_ret2
  go_light
  exact ⟨rfl, G1.out.trans G4.out⟩
set_option maxRecDepth 100000 in
set_option maxHeartbeats 2000000 in
theorem Binary_s32 (op a b : Int) (A : Nat) (w : World)
    (F : Hid (Calls Tryd.prog 19 #[.int .i64 14, .int .i64 op] w fun e w' => e = .returned (.tuple #[.int .i64 20, .int .i64 32]) ∧ Grew w w'))
    (U : Hid (∀ w : World, Calls Tryd.prog 20 #[.int .u64 a, .int .i64 32] w fun e w' => e = .returned (.int .u64 (A : Int)) ∧ w' = w))
    (S : Hid (∀ w : World, Calls Tryd.prog 21 #[.int .i64 32] w fun e w' => e = .returned (.int .u64 2147483648) ∧ w' = w)) :
    Calls Tryd.prog 10 #[.int .i64 op, .int .u64 a, .int .u64 b] w fun e w' => e = .returned (.tuple #[.int .u64 (bits .or .u64 (bits .andNot .u64 (A : Int) 2147483648) (bits .and .u64 b 2147483648)), .int .i64 0]) ∧ Grew w w' := by
  go_enter Tryd.func10, Tryd.ntmps10
  go_wp2_with fail
  refine (F.out).mono ?_
  rintro e w1 ⟨rfl, g1⟩
  have G1 : Hid (Grew w w1) := g1
  clear g1
  go_wp2_with (first
    | (go_at_call 20; refine (U.out _).mono ?_; rintro e w' ⟨rfl, rfl⟩)
    | (go_at_call 21; refine (S.out _).mono ?_; rintro e w' ⟨rfl, rfl⟩))
  go_ret2
  go_light
  exact ⟨rfl, G1.out⟩
set_option maxRecDepth 100000 in
set_option maxHeartbeats 2000000 in
theorem Compare_c32 (op K R a b : Int) (A B : Nat) (c : Bool) (w : World) (n0 : (K == 0) = false) (hR : Hid (R = if c then 1 else 0))
    (F : Hid (Calls Tryd.prog 19 #[.int .i64 1, .int .i64 op] w fun e w' => e = .returned (.tuple #[.int .i64 K, .int .i64 32]) ∧ Grew w w'))
    (TA : Hid (∀ w : World, Calls Tryd.prog 24 #[.int .u64 a] w fun e w' => e = .returned (.float .f32 A) ∧ w' = w))
    (TB : Hid (∀ w : World, Calls Tryd.prog 24 #[.int .u64 b] w fun e w' => e = .returned (.float .f32 B) ∧ w' = w))
    (N : Hid (∀ w : World, Calls Tryd.prog 34 #[.int .i64 K, .float .f32 A, .float .f32 B] w fun e w' => e = .returned (.bool c) ∧ w' = w))
    (L : Hid (∀ w : World, Calls Tryd.prog 33 #[.bool c] w fun e w' => e = .returned (.int .u64 R) ∧ w' = w)) :
    Calls Tryd.prog 12 #[.int .i64 op, .int .u64 a, .int .u64 b] w fun e w' => e = .returned (.tuple #[.int .u64 R, .int .i64 0]) ∧ Grew w w' := by
  go_enter Tryd.func12, Tryd.ntmps12
  go_wp2_with fail
  refine (F.out).mono ?_
  rintro e w1 ⟨rfl, g1⟩
  have G1 : Hid (Grew w w1) := g1
  clear g1
  go_wp2_with fail
  refine (TA.out _).mono ?_
  rintro e w2 ⟨rfl, h2⟩
  obtain rfl := h2.symm
  go_wp2_with fail
  refine (TB.out _).mono ?_
  rintro e w3 ⟨rfl, h3⟩
  obtain rfl := h3.symm
  go_wp2_with (first
    | (go_at_call 34; refine (N.out _).mono ?_; rintro e w' ⟨rfl, rfl⟩)
    | (go_at_call 33; refine (L.out _).mono ?_; rintro e w' ⟨rfl, rfl⟩))
  go_ret2
  go_light
  exact ⟨rfl, G1.out⟩
set_option maxRecDepth 100000 in
set_option maxHeartbeats 2000000 in
theorem Binary_c64 (op K R a b : Int) (A B : Nat) (o : Option Nat) (w : World) (n0 : (K == 0) = false) (n1 : (K == 20) = false)
    (F : Hid (Calls Tryd.prog 19 #[.int .i64 14, .int .i64 op] w fun e w' => e = .returned (.tuple #[.int .i64 K, .int .i64 64]) ∧ Grew w w'))
    (TA : Hid (∀ w : World, Calls Tryd.prog 27 #[.int .u64 a] w fun e w' => e = .returned (.float .f64 A) ∧ w' = w))
    (TB : Hid (∀ w : World, Calls Tryd.prog 27 #[.int .u64 b] w fun e w' => e = .returned (.float .f64 B) ∧ w' = w))
    (N : Hid (∀ w : World, Calls Tryd.prog 31 #[.int .i64 K, .float .f64 A, .float .f64 B] w fun e w' => ∃ z, e = .returned (.float .f64 z) ∧ Res Ieee.double o z ∧ Grew w w'))
    (L : Hid (∀ (z : Nat) (w : World), Res Ieee.double o z → Calls Tryd.prog 25 #[.float .f64 z] w fun e w' => e = .returned (.int .u64 R) ∧ w' = w)) :
    Calls Tryd.prog 10 #[.int .i64 op, .int .u64 a, .int .u64 b] w fun e w' => e = .returned (.tuple #[.int .u64 R, .int .i64 0]) ∧ Grew w w' := by
  go_enter Tryd.func10, Tryd.ntmps10
  go_wp2_with fail
  refine (F.out).mono ?_
  rintro e w1 ⟨rfl, g1⟩
  have G1 : Hid (Grew w w1) := g1
  clear g1
  go_wp2_with fail
  refine (TA.out _).mono ?_
  rintro e w2 ⟨rfl, h2⟩
  obtain rfl := h2.symm
  go_wp2_with fail
  refine (TB.out _).mono ?_
  rintro e w3 ⟨rfl, h3⟩
  obtain rfl := h3.symm
  go_wp2_with fail
  refine (N.out _).mono ?_
  rintro e w4 ⟨z, rfl, hz, g4⟩
  have L2 := L.out z w4 hz
  have G4 : Hid (Grew w1 w4) := by first | exact g4
  clear g4 hz
  go_wp2_with fail
  refine L2.mono ?_
  rintro e w5 ⟨rfl, h5⟩
  obtain rfl := h5.symm
  go_wp2
  go_ret2
  go_light
  exact ⟨rfl, G1.out.trans G4.out⟩
set_option maxRecDepth 100000 in
set_option maxHeartbeats 2000000 in
theorem Binary_s64 (op a b : Int) (A : Nat) (w : World)
    (F : Hid (Calls Tryd.prog 19 #[.int .i64 14, .int .i64 op] w fun e w' => e = .returned (.tuple #[.int .i64 20, .int .i64 64]) ∧ Grew w w'))
    (U : Hid (∀ w : World, Calls Tryd.prog 20 #[.int .u64 a, .int .i64 64] w fun e w' => e = .returned (.int .u64 (A : Int)) ∧ w' = w))
    (S : Hid (∀ w : World, Calls Tryd.prog 21 #[.int .i64 64] w fun e w' => e = .returned (.int .u64 9223372036854775808) ∧ w' = w)) :
    Calls Tryd.prog 10 #[.int .i64 op, .int .u64 a, .int .u64 b] w fun e w' => e = .returned (.tuple #[.int .u64 (bits .or .u64 (bits .andNot .u64 (A : Int) 9223372036854775808) (bits .and .u64 b 9223372036854775808)), .int .i64 0]) ∧ Grew w w' := by
  go_enter Tryd.func10, Tryd.ntmps10
  go_wp2_with fail
  refine (F.out).mono ?_
  rintro e w1 ⟨rfl, g1⟩
  have G1 : Hid (Grew w w1) := g1
  clear g1
  go_wp2_with (first
    | (go_at_call 20; refine (U.out _).mono ?_; rintro e w' ⟨rfl, rfl⟩)
    | (go_at_call 21; refine (S.out _).mono ?_; rintro e w' ⟨rfl, rfl⟩))
  go_ret2
  go_light
  exact ⟨rfl, G1.out⟩
set_option maxRecDepth 100000 in
set_option maxHeartbeats 2000000 in
theorem Compare_c64 (op K R a b : Int) (A B : Nat) (c : Bool) (w : World) (n0 : (K == 0) = false) (hR : Hid (R = if c then 1 else 0))
    (F : Hid (Calls Tryd.prog 19 #[.int .i64 1, .int .i64 op] w fun e w' => e = .returned (.tuple #[.int .i64 K, .int .i64 64]) ∧ Grew w w'))
    (TA : Hid (∀ w : World, Calls Tryd.prog 27 #[.int .u64 a] w fun e w' => e = .returned (.float .f64 A) ∧ w' = w))
    (TB : Hid (∀ w : World, Calls Tryd.prog 27 #[.int .u64 b] w fun e w' => e = .returned (.float .f64 B) ∧ w' = w))
    (N : Hid (∀ w : World, Calls Tryd.prog 35 #[.int .i64 K, .float .f64 A, .float .f64 B] w fun e w' => e = .returned (.bool c) ∧ w' = w))
    (L : Hid (∀ w : World, Calls Tryd.prog 33 #[.bool c] w fun e w' => e = .returned (.int .u64 R) ∧ w' = w)) :
    Calls Tryd.prog 12 #[.int .i64 op, .int .u64 a, .int .u64 b] w fun e w' => e = .returned (.tuple #[.int .u64 R, .int .i64 0]) ∧ Grew w w' := by
  go_enter Tryd.func12, Tryd.ntmps12
  go_wp2_with fail
  refine (F.out).mono ?_
  rintro e w1 ⟨rfl, g1⟩
  have G1 : Hid (Grew w w1) := g1
  clear g1
  go_wp2_with fail
  refine (TA.out _).mono ?_
  rintro e w2 ⟨rfl, h2⟩
  obtain rfl := h2.symm
  go_wp2_with fail
  refine (TB.out _).mono ?_
  rintro e w3 ⟨rfl, h3⟩
  obtain rfl := h3.symm
  go_wp2_with (first
    | (go_at_call 35; refine (N.out _).mono ?_; rintro e w' ⟨rfl, rfl⟩)
    | (go_at_call 33; refine (L.out _).mono ?_; rintro e w' ⟨rfl, rfl⟩))
  go_ret2
  go_light
  exact ⟨rfl, G1.out⟩
set_option maxRecDepth 100000 in
theorem Binary_no (op a b : Int) (w : World)
    (F : Hid (Calls Tryd.prog 19 #[.int .i64 14, .int .i64 op] w fun e w' => e = .returned (.tuple #[.int .i64 0, .int .i64 0]) ∧ Grew w w')) :
    Calls Tryd.prog 10 #[.int .i64 op, .int .u64 a, .int .u64 b] w fun e w' => e = .returned (.tuple #[.int .u64 0, .int .i64 1]) ∧ Grew w w' := by
  go_enter Tryd.func10, Tryd.ntmps10
  go_wp2_with fail
  refine (F.out).mono ?_
  rintro e w1 ⟨rfl, g1⟩
  have G1 : Hid (Grew w w1) := g1
  clear g1
  go_wp2
  go_ret2
  go_light
  exact ⟨rfl, G1.out⟩
set_option maxRecDepth 100000 in
theorem Compare_no (op a b : Int) (w : World)
    (F : Hid (Calls Tryd.prog 19 #[.int .i64 1, .int .i64 op] w fun e w' => e = .returned (.tuple #[.int .i64 0, .int .i64 0]) ∧ Grew w w')) :
    Calls Tryd.prog 12 #[.int .i64 op, .int .u64 a, .int .u64 b] w fun e w' => e = .returned (.tuple #[.int .u64 0, .int .i64 1]) ∧ Grew w w' := by
  go_enter Tryd.func12, Tryd.ntmps12
  go_wp2_with fail
  refine (F.out).mono ?_
  rintro e w1 ⟨rfl, g1⟩
  have G1 : Hid (Grew w w1) := g1
  clear g1
  go_wp2
  go_ret2
  go_light
  exact ⟨rfl, G1.out⟩
set_option maxRecDepth 100000 in
theorem Unary_no (op a : Int) (w : World)
    (F : Hid (Calls Tryd.prog 19 #[.int .i64 7, .int .i64 op] w fun e w' => e = .returned (.tuple #[.int .i64 0, .int .i64 0]) ∧ Grew w w')) :
    Calls Tryd.prog 8 #[.int .i64 op, .int .u64 a] w fun e w' => e = .returned (.tuple #[.int .u64 0, .int .i64 1]) ∧ Grew w w' := by
  go_enter Tryd.func8, Tryd.ntmps8
  go_wp2_with fail
  refine (F.out).mono ?_
  rintro e w1 ⟨rfl, g1⟩
  have G1 : Hid (Grew w w1) := g1
  clear g1
  go_wp2
  go_ret2
  go_light
  exact ⟨rfl, G1.out⟩
set_option maxRecDepth 100000 in
set_option maxHeartbeats 2000000 in
theorem Unary_abs32 (op a : Int) (A : Nat) (w : World)
    (F : Hid (Calls Tryd.prog 19 #[.int .i64 7, .int .i64 op] w fun e w' => e = .returned (.tuple #[.int .i64 7, .int .i64 32]) ∧ Grew w w'))
    (U : Hid (∀ w : World, Calls Tryd.prog 20 #[.int .u64 a, .int .i64 32] w fun e w' => e = .returned (.int .u64 (A : Int)) ∧ w' = w))
    (S : Hid (∀ w : World, Calls Tryd.prog 21 #[.int .i64 32] w fun e w' => e = .returned (.int .u64 2147483648) ∧ w' = w)) :
    Calls Tryd.prog 8 #[.int .i64 op, .int .u64 a] w fun e w' => e = .returned (.tuple #[.int .u64 (bits .andNot .u64 (A : Int) 2147483648), .int .i64 0]) ∧ Grew w w' := by
  go_enter Tryd.func8, Tryd.ntmps8
  go_wp2_with fail
  refine (F.out).mono ?_
  rintro e w1 ⟨rfl, g1⟩
  have G1 : Hid (Grew w w1) := g1
  clear g1
  go_wp2_with (first
    | (go_at_call 20; refine (U.out _).mono ?_; rintro e w' ⟨rfl, rfl⟩)
    | (go_at_call 21; refine (S.out _).mono ?_; rintro e w' ⟨rfl, rfl⟩))
  go_ret2
  go_light
  exact ⟨rfl, G1.out⟩
set_option maxRecDepth 100000 in
set_option maxHeartbeats 2000000 in
theorem Unary_neg32 (op a : Int) (A : Nat) (w : World)
    (F : Hid (Calls Tryd.prog 19 #[.int .i64 7, .int .i64 op] w fun e w' => e = .returned (.tuple #[.int .i64 8, .int .i64 32]) ∧ Grew w w'))
    (U : Hid (∀ w : World, Calls Tryd.prog 20 #[.int .u64 a, .int .i64 32] w fun e w' => e = .returned (.int .u64 (A : Int)) ∧ w' = w))
    (S : Hid (∀ w : World, Calls Tryd.prog 21 #[.int .i64 32] w fun e w' => e = .returned (.int .u64 2147483648) ∧ w' = w)) :
    Calls Tryd.prog 8 #[.int .i64 op, .int .u64 a] w fun e w' => e = .returned (.tuple #[.int .u64 (bits .xor .u64 (A : Int) 2147483648), .int .i64 0]) ∧ Grew w w' := by
  go_enter Tryd.func8, Tryd.ntmps8
  go_wp2_with fail
  refine (F.out).mono ?_
  rintro e w1 ⟨rfl, g1⟩
  have G1 : Hid (Grew w w1) := g1
  clear g1
  go_wp2_with (first
    | (go_at_call 20; refine (U.out _).mono ?_; rintro e w' ⟨rfl, rfl⟩)
    | (go_at_call 21; refine (S.out _).mono ?_; rintro e w' ⟨rfl, rfl⟩))
  go_ret2
  go_light
  exact ⟨rfl, G1.out⟩
set_option maxRecDepth 100000 in
set_option maxHeartbeats 2000000 in
theorem Unary_c32 (op K R a : Int) (A : Nat) (o : Option Nat) (w : World) (n0 : (K == 0) = false) (n1 : (K == 7) = false) (n2 : (K == 8) = false)
    (F : Hid (Calls Tryd.prog 19 #[.int .i64 7, .int .i64 op] w fun e w' => e = .returned (.tuple #[.int .i64 K, .int .i64 32]) ∧ Grew w w'))
    (TA : Hid (∀ w : World, Calls Tryd.prog 24 #[.int .u64 a] w fun e w' => e = .returned (.float .f32 A) ∧ w' = w))
    (N : Hid (∀ w : World, Calls Tryd.prog 23 #[.int .i64 K, .float .f32 A] w fun e w' => ∃ z, e = .returned (.float .f32 z) ∧ Res Ieee.single o z ∧ Grew w w'))
    (L : Hid (∀ (z : Nat) (w : World), Res Ieee.single o z → Calls Tryd.prog 22 #[.float .f32 z] w fun e w' => e = .returned (.int .u64 R) ∧ w' = w)) :
    Calls Tryd.prog 8 #[.int .i64 op, .int .u64 a] w fun e w' => e = .returned (.tuple #[.int .u64 R, .int .i64 0]) ∧ Grew w w' := by
  go_enter Tryd.func8, Tryd.ntmps8
  go_wp2_with fail
  refine (F.out).mono ?_
  rintro e w1 ⟨rfl, g1⟩
  have G1 : Hid (Grew w w1) := g1
  clear g1
  go_wp2_with fail
  refine (TA.out _).mono ?_
  rintro e w2 ⟨rfl, h2⟩
  obtain rfl := h2.symm
  go_wp2_with fail
  refine (N.out _).mono ?_
  rintro e w4 ⟨z, rfl, hz, g4⟩
  have L2 := L.out z w4 hz
  have G4 : Hid (Grew w1 w4) := by first | exact g4
  clear g4 hz
  go_wp2_with fail
  refine L2.mono ?_
  rintro e w5 ⟨rfl, h5⟩
  obtain rfl := h5.symm
  go_wp2
  go_ret2
  go_light
  exact ⟨rfl, G1.out.trans G4.out⟩
set_option maxRecDepth 100000 in
set_option maxHeartbeats 2000000 in
theorem Unary_abs64 (op a : Int) (A : Nat) (w : World)
    (F : Hid (Calls Tryd.prog 19 #[.int .i64 7, .int .i64 op] w fun e w' => e = .returned (.tuple #[.int .i64 7, .int .i64 64]) ∧ Grew w w'))
    (U : Hid (∀ w : World, Calls Tryd.prog 20 #[.int .u64 a, .int .i64 64] w fun e w' => e = .returned (.int .u64 (A : Int)) ∧ w' = w))
    (S : Hid (∀ w : World, Calls Tryd.prog 21 #[.int .i64 64] w fun e w' => e = .returned (.int .u64 9223372036854775808) ∧ w' = w)) :
    Calls Tryd.prog 8 #[.int .i64 op, .int .u64 a] w fun e w' => e = .returned (.tuple #[.int .u64 (bits .andNot .u64 (A : Int) 9223372036854775808), .int .i64 0]) ∧ Grew w w' := by
  go_enter Tryd.func8, Tryd.ntmps8
  go_wp2_with fail
  refine (F.out).mono ?_
  rintro e w1 ⟨rfl, g1⟩
  have G1 : Hid (Grew w w1) := g1
  clear g1
  go_wp2_with (first
    | (go_at_call 20; refine (U.out _).mono ?_; rintro e w' ⟨rfl, rfl⟩)
    | (go_at_call 21; refine (S.out _).mono ?_; rintro e w' ⟨rfl, rfl⟩))
  go_ret2
  go_light
  exact ⟨rfl, G1.out⟩
set_option maxRecDepth 100000 in
set_option maxHeartbeats 2000000 in
theorem Unary_neg64 (op a : Int) (A : Nat) (w : World)
    (F : Hid (Calls Tryd.prog 19 #[.int .i64 7, .int .i64 op] w fun e w' => e = .returned (.tuple #[.int .i64 8, .int .i64 64]) ∧ Grew w w'))
    (U : Hid (∀ w : World, Calls Tryd.prog 20 #[.int .u64 a, .int .i64 64] w fun e w' => e = .returned (.int .u64 (A : Int)) ∧ w' = w))
    (S : Hid (∀ w : World, Calls Tryd.prog 21 #[.int .i64 64] w fun e w' => e = .returned (.int .u64 9223372036854775808) ∧ w' = w)) :
    Calls Tryd.prog 8 #[.int .i64 op, .int .u64 a] w fun e w' => e = .returned (.tuple #[.int .u64 (bits .xor .u64 (A : Int) 9223372036854775808), .int .i64 0]) ∧ Grew w w' := by
  go_enter Tryd.func8, Tryd.ntmps8
  go_wp2_with fail
  refine (F.out).mono ?_
  rintro e w1 ⟨rfl, g1⟩
  have G1 : Hid (Grew w w1) := g1
  clear g1
  go_wp2_with (first
    | (go_at_call 20; refine (U.out _).mono ?_; rintro e w' ⟨rfl, rfl⟩)
    | (go_at_call 21; refine (S.out _).mono ?_; rintro e w' ⟨rfl, rfl⟩))
  go_ret2
  go_light
  exact ⟨rfl, G1.out⟩
set_option maxRecDepth 100000 in
set_option maxHeartbeats 2000000 in
theorem Unary_c64 (op K R a : Int) (A : Nat) (o : Option Nat) (w : World) (n0 : (K == 0) = false) (n1 : (K == 7) = false) (n2 : (K == 8) = false)
    (F : Hid (Calls Tryd.prog 19 #[.int .i64 7, .int .i64 op] w fun e w' => e = .returned (.tuple #[.int .i64 K, .int .i64 64]) ∧ Grew w w'))
    (TA : Hid (∀ w : World, Calls Tryd.prog 27 #[.int .u64 a] w fun e w' => e = .returned (.float .f64 A) ∧ w' = w))
    (N : Hid (∀ w : World, Calls Tryd.prog 26 #[.int .i64 K, .float .f64 A] w fun e w' => ∃ z, e = .returned (.float .f64 z) ∧ Res Ieee.double o z ∧ Grew w w'))
    (L : Hid (∀ (z : Nat) (w : World), Res Ieee.double o z → Calls Tryd.prog 25 #[.float .f64 z] w fun e w' => e = .returned (.int .u64 R) ∧ w' = w)) :
    Calls Tryd.prog 8 #[.int .i64 op, .int .u64 a] w fun e w' => e = .returned (.tuple #[.int .u64 R, .int .i64 0]) ∧ Grew w w' := by
  go_enter Tryd.func8, Tryd.ntmps8
  go_wp2_with fail
  refine (F.out).mono ?_
  rintro e w1 ⟨rfl, g1⟩
  have G1 : Hid (Grew w w1) := g1
  clear g1
  go_wp2_with fail
  refine (TA.out _).mono ?_
  rintro e w2 ⟨rfl, h2⟩
  obtain rfl := h2.symm
  go_wp2_with fail
  refine (N.out _).mono ?_
  rintro e w4 ⟨z, rfl, hz, g4⟩
  have L2 := L.out z w4 hz
  have G4 : Hid (Grew w1 w4) := by first | exact g4
  clear g4 hz
  go_wp2_with fail
  refine L2.mono ?_
  rintro e w5 ⟨rfl, h5⟩
  obtain rfl := h5.symm
  go_wp2
  go_ret2
  go_light
  exact ⟨rfl, G1.out.trans G4.out⟩
end Go.Proofs.YtjkebimmddlccaaDoor
