/-
  The walks of the document's Nan and Canon; no statement is proved here.
-/
import Derived.Test.YtjkebimmddlccaaNanW
namespace Go.Proofs.Ytjkebimmddlccaa
open Go.RowKit
set_option linter.unusedVariables false
set_option linter.unusedSimpArgs false

theorem beq_cast (x y : Nat) : (((x : Nat) : Int) == ((y : Nat) : Int)) = (x == y) := by
  rw [Bool.eq_iff_iff, beq_iff_eq, beq_iff_eq]; omega
set_option maxRecDepth 100000 in
theorem rCanon32 (w : World) :
    Calls Try.prog 7 #[.int .i64 32] w fun e w' => e = .returned (.tuple #[.int .u64 (cn Ieee.single : Int), .int .i64 0]) ∧ Grew w w' := by
  have F : Hid (∀ w : World, Calls Try.prog 14 #[] w fun e w' => e = .returned (.agg #[.int .i64 23, .int .i64 8]) ∧ Grew w w') := fun w => F32_any w
  have N : Hid (∀ w : World, Calls Try.prog 19 #[.agg #[.int .i64 23, .int .i64 8]] w fun e w' => e = .returned (.int .u64 (cn Ieee.single : Int)) ∧ Grew w w') := fun w => nan_any (by simp [Two]) w
  go_enter Try.func7, Try.ntmps7
  go_wp2_with fail
  refine (F.out _).mono ?_
  rintro e w1 ⟨rfl, g1⟩
  go_wp2_with fail
  refine (N.out _).mono ?_
  rintro e w2 ⟨rfl, g2⟩
  go_wp2
  go_ret2
  go_light
  refine ⟨rfl, ?_⟩
  repeat (first | exact Grew.refl _ | refine Grew.drew ?_ | refine Grew.drewN ?_ _ | refine Grew.alloc ?_ _ | refine Grew.set ?_ (by first | (simp; done) | (simp; omega) | omega) _ | refine Grew.trans ?_ g1 | refine Grew.trans ?_ g2 | assumption)
set_option maxRecDepth 100000 in
theorem rCanon64 (w : World) :
    Calls Try.prog 7 #[.int .i64 64] w fun e w' => e = .returned (.tuple #[.int .u64 (cn Ieee.double : Int), .int .i64 0]) ∧ Grew w w' := by
  have F : Hid (∀ w : World, Calls Try.prog 15 #[] w fun e w' => e = .returned (.agg #[.int .i64 52, .int .i64 11]) ∧ Grew w w') := fun w => F64_any w
  have N : Hid (∀ w : World, Calls Try.prog 19 #[.agg #[.int .i64 52, .int .i64 11]] w fun e w' => e = .returned (.int .u64 (cn Ieee.double : Int)) ∧ Grew w w') := fun w => nan_any (by simp [Two]) w
  go_enter Try.func7, Try.ntmps7
  go_wp2_with fail
  refine (F.out _).mono ?_
  rintro e w1 ⟨rfl, g1⟩
  go_wp2_with fail
  refine (N.out _).mono ?_
  rintro e w2 ⟨rfl, g2⟩
  go_wp2
  go_ret2
  go_light
  refine ⟨rfl, ?_⟩
  repeat (first | exact Grew.refl _ | refine Grew.drew ?_ | refine Grew.drewN ?_ _ | refine Grew.alloc ?_ _ | refine Grew.set ?_ (by first | (simp; done) | (simp; omega) | omega) _ | refine Grew.trans ?_ g1 | refine Grew.trans ?_ g2 | assumption)
set_option maxRecDepth 100000 in
theorem rCanon_no (n : Int) (h1 : (n == 32) = false) (h2 : (n == 64) = false) (w : World) :
    Calls Try.prog 7 #[.int .i64 n] w fun e w' => e = .returned (.tuple #[.int .u64 0, .int .i64 1]) ∧ Grew w w' := by
  go_enter Try.func7, Try.ntmps7
  go_wp2
  go_ret2
  go_light
  exact ⟨rfl, Grew.refl _⟩
set_option maxRecDepth 100000 in
set_option maxHeartbeats 2000000 in
theorem rNan32 (a : Nat) (ha : a < 18446744073709551616) (w : World) :
    Calls Try.prog 5 #[.int .i64 32, .int .u64 (a : Int)] w fun e w' => e = .returned (.tuple #[.bool (decide (Ieee.single.infRung < sz Ieee.single (a % 2 ^ 32))), .bool (sz Ieee.single (a % 2 ^ 32) == cn Ieee.single), .int .i64 0]) ∧ Grew w w' := by
  have hT : Two Ieee.single := by simp [Two]
  have U' := fun w : World => cut_1 a ha w
  have hA : a % 2 ^ 32 < 18446744073709551616 := Nat.lt_of_lt_of_le (Nat.mod_lt _ (Nat.two_pow_pos 32)) (by decide)
  generalize a % 2 ^ 32 = A at *
  have F3 : Hid (∀ w : World, Calls Try.prog 14 #[] w fun e w' => e = .returned (.agg #[.int .i64 23, .int .i64 8]) ∧ Grew w w') := fun w => F32_any w
  have F6 : Hid (∀ w : World, Calls Try.prog 15 #[] w fun e w' => e = .returned (.agg #[.int .i64 52, .int .i64 11]) ∧ Grew w w') := fun w => F64_any w
  have U : Hid (∀ w : World, Calls Try.prog 16 #[.agg #[.int .i64 23, .int .i64 8], .int .u64 (a : Int)] w fun e w' => e = .returned (.int .u64 (A : Int)) ∧ Grew w w') := U'
  have I : Hid (∀ w : World, Calls Try.prog 17 #[.agg #[.int .i64 23, .int .i64 8], .int .u64 (A : Int)] w fun e w' => e = .returned (.bool (decide (Ieee.single.infRung < sz Ieee.single A))) ∧ Grew w w') := fun w => isNan_any hT A hA w
  have Z : Hid (∀ w : World, Calls Try.prog 18 #[.agg #[.int .i64 23, .int .i64 8], .int .u64 (A : Int)] w fun e w' => e = .returned (.int .u64 (sz Ieee.single A : Int)) ∧ Grew w w') := fun w => size_any hT A hA w
  have N : Hid (∀ w : World, Calls Try.prog 19 #[.agg #[.int .i64 23, .int .i64 8]] w fun e w' => e = .returned (.int .u64 (cn Ieee.single : Int)) ∧ Grew w w') := fun w => nan_any hT w
  clear U'
  go_enter Try.func5, Try.ntmps5
  go_wp2_with fail
  refine (F3.out _).mono ?_
  rintro e w1 ⟨rfl, g1⟩
  go_wp2_with fail
  refine (U.out _).mono ?_
  rintro e w3 ⟨rfl, g3⟩
  have l3_0 : w1.heap.size < w3.heap.size := Nat.lt_of_lt_of_le (by first | (simp; done) | (simp; omega) | omega) g3.2
  have h3_0_0 : w3.cell? ⟨w1.heap.size, 0, none⟩ = some (.int .i64 23) := (by rw [g3.1.cell (by first | (simp; done) | (simp; omega) | omega)]; go_simp)
  have h3_0_1 : w3.cell? ⟨w1.heap.size, 1, none⟩ = some (.int .i64 8) := (by rw [g3.1.cell (by first | (simp; done) | (simp; omega) | omega)]; go_simp)
  go_wp2_with fail
  go_region_held3 (fun w' => w'.cell? ⟨w1.heap.size, 0, none⟩ = some (.int .i64 23) ∧ w'.cell? ⟨w1.heap.size, 1, none⟩ = some (.int .i64 8)) (go_keep)
    (first
    | (go_at_call 17; refine (I.out _).mono ?_; rintro e w4 ⟨rfl, g4⟩; have l4_0 : w1.heap.size < w4.heap.size := Nat.lt_of_lt_of_le (by first | (simp; done) | (simp; omega) | omega) g4.2; have h4_0_0 : w4.cell? ⟨w1.heap.size, 0, none⟩ = some (.int .i64 23) := (by rw [g4.1.cell (by first | (simp; done) | (simp; omega) | omega)]; go_simp); have h4_0_1 : w4.cell? ⟨w1.heap.size, 1, none⟩ = some (.int .i64 8) := (by rw [g4.1.cell (by first | (simp; done) | (simp; omega) | omega)]; go_simp))
    | (go_at_call 18; refine (Z.out _).mono ?_; rintro e w5 ⟨rfl, g5⟩; have l5_0 : w1.heap.size < w5.heap.size := Nat.lt_of_lt_of_le (by first | (simp; done) | (simp; omega) | omega) g5.2; have h5_0_0 : w5.cell? ⟨w1.heap.size, 0, none⟩ = some (.int .i64 23) := (by rw [g5.1.cell (by first | (simp; done) | (simp; omega) | omega)]; go_simp); have h5_0_1 : w5.cell? ⟨w1.heap.size, 1, none⟩ = some (.int .i64 8) := (by rw [g5.1.cell (by first | (simp; done) | (simp; omega) | omega)]; go_simp))
    | (go_at_call 19; refine (N.out _).mono ?_; rintro e w6 ⟨rfl, g6⟩; have l6_0 : w1.heap.size < w6.heap.size := Nat.lt_of_lt_of_le (by first | (simp; done) | (simp; omega) | omega) g6.2; have h6_0_0 : w6.cell? ⟨w1.heap.size, 0, none⟩ = some (.int .i64 23) := (by rw [g6.1.cell (by first | (simp; done) | (simp; omega) | omega)]; go_simp); have h6_0_1 : w6.cell? ⟨w1.heap.size, 1, none⟩ = some (.int .i64 8) := (by rw [g6.1.cell (by first | (simp; done) | (simp; omega) | omega)]; go_simp)))
  all_goals go_wp2
  all_goals go_ret3
  all_goals go_light
  all_goals have s1 := g1.2
  all_goals refine ⟨?_, ?_⟩
  · show Ending.returned (.tuple #[.bool (decide (Ieee.single.infRung < sz Ieee.single A)), .bool (((sz Ieee.single A : Nat) : Int) == ((cn Ieee.single : Nat) : Int)), .int .i64 0]) = _
    rw [beq_cast]
  repeat (first | exact Grew.refl _ | refine Grew.drew ?_ | refine Grew.drewN ?_ _ | refine Grew.alloc ?_ _ | refine Grew.set ?_ (by first | (simp; done) | (simp; omega) | omega) _ | refine Grew.trans ?_ g1 | refine Grew.trans ?_ g3 | refine Grew.trans ?_ g4 | refine Grew.trans ?_ g5 | refine Grew.trans ?_ g6 | assumption)
set_option maxRecDepth 100000 in
set_option maxHeartbeats 2000000 in
theorem rNan64 (a : Nat) (ha : a < 18446744073709551616) (w : World) :
    Calls Try.prog 5 #[.int .i64 64, .int .u64 (a : Int)] w fun e w' => e = .returned (.tuple #[.bool (decide (Ieee.double.infRung < sz Ieee.double (a % 2 ^ 64))), .bool (sz Ieee.double (a % 2 ^ 64) == cn Ieee.double), .int .i64 0]) ∧ Grew w w' := by
  have hT : Two Ieee.double := by simp [Two]
  have U' := fun w : World => cut_2 a ha w
  have hA : a % 2 ^ 64 < 18446744073709551616 := Nat.lt_of_lt_of_le (Nat.mod_lt _ (Nat.two_pow_pos 64)) (by decide)
  generalize a % 2 ^ 64 = A at *
  have F3 : Hid (∀ w : World, Calls Try.prog 14 #[] w fun e w' => e = .returned (.agg #[.int .i64 23, .int .i64 8]) ∧ Grew w w') := fun w => F32_any w
  have F6 : Hid (∀ w : World, Calls Try.prog 15 #[] w fun e w' => e = .returned (.agg #[.int .i64 52, .int .i64 11]) ∧ Grew w w') := fun w => F64_any w
  have U : Hid (∀ w : World, Calls Try.prog 16 #[.agg #[.int .i64 52, .int .i64 11], .int .u64 (a : Int)] w fun e w' => e = .returned (.int .u64 (A : Int)) ∧ Grew w w') := U'
  have I : Hid (∀ w : World, Calls Try.prog 17 #[.agg #[.int .i64 52, .int .i64 11], .int .u64 (A : Int)] w fun e w' => e = .returned (.bool (decide (Ieee.double.infRung < sz Ieee.double A))) ∧ Grew w w') := fun w => isNan_any hT A hA w
  have Z : Hid (∀ w : World, Calls Try.prog 18 #[.agg #[.int .i64 52, .int .i64 11], .int .u64 (A : Int)] w fun e w' => e = .returned (.int .u64 (sz Ieee.double A : Int)) ∧ Grew w w') := fun w => size_any hT A hA w
  have N : Hid (∀ w : World, Calls Try.prog 19 #[.agg #[.int .i64 52, .int .i64 11]] w fun e w' => e = .returned (.int .u64 (cn Ieee.double : Int)) ∧ Grew w w') := fun w => nan_any hT w
  clear U'
  go_enter Try.func5, Try.ntmps5
  go_wp2_with fail
  refine (F3.out _).mono ?_
  rintro e w1 ⟨rfl, g1⟩
  go_wp2_with fail
  refine (F6.out _).mono ?_
  rintro e w2 ⟨rfl, g2⟩
  have l2_0 : w1.heap.size < w2.heap.size := Nat.lt_of_lt_of_le (by first | (simp; done) | (simp; omega) | omega) g2.2
  have h2_0_0 : w2.cell? ⟨w1.heap.size, 0, none⟩ = some (.int .i64 23) := (by rw [g2.1.cell (by first | (simp; done) | (simp; omega) | omega)]; go_simp)
  have z2_0_0 : w2.frozen? ⟨w1.heap.size, 0, none⟩ = false := (by rw [g2.1.frozen (by first | (simp; done) | (simp; omega) | omega)]; go_simp)
  have h2_0_1 : w2.cell? ⟨w1.heap.size, 1, none⟩ = some (.int .i64 8) := (by rw [g2.1.cell (by first | (simp; done) | (simp; omega) | omega)]; go_simp)
  have z2_0_1 : w2.frozen? ⟨w1.heap.size, 1, none⟩ = false := (by rw [g2.1.frozen (by first | (simp; done) | (simp; omega) | omega)]; go_simp)
  go_wp2_with fail
  refine (U.out _).mono ?_
  rintro e w3 ⟨rfl, g3⟩
  have l3_0 : w1.heap.size < w3.heap.size := Nat.lt_of_lt_of_le (by first | (simp; done) | (simp; omega) | omega) g3.2
  have h3_0_0 : w3.cell? ⟨w1.heap.size, 0, none⟩ = some (.int .i64 52) := (by rw [g3.1.cell (by first | (simp; done) | (simp; omega) | omega)]; go_simp)
  have h3_0_1 : w3.cell? ⟨w1.heap.size, 1, none⟩ = some (.int .i64 11) := (by rw [g3.1.cell (by first | (simp; done) | (simp; omega) | omega)]; go_simp)
  go_wp2_with fail
  go_region_held3 (fun w' => w'.cell? ⟨w1.heap.size, 0, none⟩ = some (.int .i64 52) ∧ w'.cell? ⟨w1.heap.size, 1, none⟩ = some (.int .i64 11)) (go_keep)
    (first
    | (go_at_call 17; refine (I.out _).mono ?_; rintro e w4 ⟨rfl, g4⟩; have l4_0 : w1.heap.size < w4.heap.size := Nat.lt_of_lt_of_le (by first | (simp; done) | (simp; omega) | omega) g4.2; have h4_0_0 : w4.cell? ⟨w1.heap.size, 0, none⟩ = some (.int .i64 52) := (by rw [g4.1.cell (by first | (simp; done) | (simp; omega) | omega)]; go_simp); have h4_0_1 : w4.cell? ⟨w1.heap.size, 1, none⟩ = some (.int .i64 11) := (by rw [g4.1.cell (by first | (simp; done) | (simp; omega) | omega)]; go_simp))
    | (go_at_call 18; refine (Z.out _).mono ?_; rintro e w5 ⟨rfl, g5⟩; have l5_0 : w1.heap.size < w5.heap.size := Nat.lt_of_lt_of_le (by first | (simp; done) | (simp; omega) | omega) g5.2; have h5_0_0 : w5.cell? ⟨w1.heap.size, 0, none⟩ = some (.int .i64 52) := (by rw [g5.1.cell (by first | (simp; done) | (simp; omega) | omega)]; go_simp); have h5_0_1 : w5.cell? ⟨w1.heap.size, 1, none⟩ = some (.int .i64 11) := (by rw [g5.1.cell (by first | (simp; done) | (simp; omega) | omega)]; go_simp))
    | (go_at_call 19; refine (N.out _).mono ?_; rintro e w6 ⟨rfl, g6⟩; have l6_0 : w1.heap.size < w6.heap.size := Nat.lt_of_lt_of_le (by first | (simp; done) | (simp; omega) | omega) g6.2; have h6_0_0 : w6.cell? ⟨w1.heap.size, 0, none⟩ = some (.int .i64 52) := (by rw [g6.1.cell (by first | (simp; done) | (simp; omega) | omega)]; go_simp); have h6_0_1 : w6.cell? ⟨w1.heap.size, 1, none⟩ = some (.int .i64 11) := (by rw [g6.1.cell (by first | (simp; done) | (simp; omega) | omega)]; go_simp)))
  all_goals go_wp2
  all_goals go_ret3
  all_goals go_light
  all_goals have s1 := g1.2
  all_goals refine ⟨?_, ?_⟩
  · show Ending.returned (.tuple #[.bool (decide (Ieee.double.infRung < sz Ieee.double A)), .bool (((sz Ieee.double A : Nat) : Int) == ((cn Ieee.double : Nat) : Int)), .int .i64 0]) = _
    rw [beq_cast]
  repeat (first | exact Grew.refl _ | refine Grew.drew ?_ | refine Grew.drewN ?_ _ | refine Grew.alloc ?_ _ | refine Grew.set ?_ (by first | (simp; done) | (simp; omega) | omega) _ | refine Grew.trans ?_ g1 | refine Grew.trans ?_ g2 | refine Grew.trans ?_ g3 | refine Grew.trans ?_ g4 | refine Grew.trans ?_ g5 | refine Grew.trans ?_ g6 | assumption)
set_option maxRecDepth 100000 in
theorem rNan_no (n a : Int) (h1 : (n == 32) = false) (h2 : (n == 64) = false) (w : World) :
    Calls Try.prog 5 #[.int .i64 n, .int .u64 a] w fun e w' => e = .returned (.tuple #[.bool false, .bool false, .int .i64 1]) ∧ Grew w w' := by
  have F3 : Hid (∀ w : World, Calls Try.prog 14 #[] w fun e w' => e = .returned (.agg #[.int .i64 23, .int .i64 8]) ∧ Grew w w') := fun w => F32_any w
  have n1 : (n != 32) = true := by rw [bne, h1]; rfl
  have n2 : (n != 64) = true := by rw [bne, h2]; rfl
  go_enter Try.func5, Try.ntmps5
  go_wp2_with fail
  refine (F3.out _).mono ?_
  rintro e w1 ⟨rfl, g1⟩
  go_wp2
  go_ret3
  go_light
  exact ⟨rfl, g1.alloc _⟩
end Go.Proofs.Ytjkebimmddlccaa
