/-
  The walks of isNan and of what fnum does to tell NaNs; no statement is proved here.
-/
import Derived.Test.YtjkebimmddlccaaFmtW
namespace Go.Proofs.Ytjkebimmddlccaa
open Go.RowKit
set_option linter.unusedVariables false
set_option linter.unusedSimpArgs false

set_option maxRecDepth 100000 in
theorem isNan_any {f : Ieee.Format} (ht : Two f) (a : Nat) (ha : a < 18446744073709551616) (w : World) :
    Calls Try.prog 17 #[fv f, .int .u64 (a : Int)] w fun e w' => e = .returned (.bool (decide (f.infRung < sz f a))) ∧ Grew w w' := by
  have S : Hid (∀ w : World, Calls Try.prog 18 #[.agg #[.int .i64 (f.fractionBits : Int), .int .i64 (f.exponentBits : Int)], .int .u64 (a : Int)] w fun e w' => e = .returned (.int .u64 (sz f a : Int)) ∧ Grew w w') := fun w => size_any ht a ha w
  have I : Hid (∀ w : World, Calls Try.prog 23 #[.agg #[.int .i64 (f.fractionBits : Int), .int .i64 (f.exponentBits : Int)]] w fun e w' => e = .returned (.int .u64 (f.infRung : Int)) ∧ Grew w w') := fun w => inf_any ht w
  unfold fv
  go_enter Try.func17, Try.ntmps17
  go_wp2_with fail
  go_region_held3 (fun w' => w'.cell? ⟨w.heap.size, 0, none⟩ = some (.int .i64 (f.fractionBits : Int)) ∧ w'.cell? ⟨w.heap.size, 1, none⟩ = some (.int .i64 (f.exponentBits : Int))) (go_keep)
    (first
    | (go_at_call 18; refine (S.out _).mono ?_; rintro e w3 ⟨rfl, g3⟩; have l3_0 : w.heap.size < w3.heap.size := Nat.lt_of_lt_of_le (by first | (simp; done) | (simp; omega) | omega) g3.2; have h3_0_0 : w3.cell? ⟨w.heap.size, 0, none⟩ = some (.int .i64 (f.fractionBits : Int)) := (by rw [g3.1.cell (by first | (simp; done) | (simp; omega) | omega)]; go_simp); have h3_0_1 : w3.cell? ⟨w.heap.size, 1, none⟩ = some (.int .i64 (f.exponentBits : Int)) := (by rw [g3.1.cell (by first | (simp; done) | (simp; omega) | omega)]; go_simp))
    | (go_at_call 23; refine (I.out _).mono ?_; rintro e w5 ⟨rfl, g5⟩; have l5_0 : w.heap.size < w5.heap.size := Nat.lt_of_lt_of_le (by first | (simp; done) | (simp; omega) | omega) g5.2; have h5_0_0 : w5.cell? ⟨w.heap.size, 0, none⟩ = some (.int .i64 (f.fractionBits : Int)) := (by rw [g5.1.cell (by first | (simp; done) | (simp; omega) | omega)]; go_simp); have h5_0_1 : w5.cell? ⟨w.heap.size, 1, none⟩ = some (.int .i64 (f.exponentBits : Int)) := (by rw [g5.1.cell (by first | (simp; done) | (simp; omega) | omega)]; go_simp)))
  all_goals go_wp2
  all_goals go_ret
  all_goals go_light
  all_goals refine ⟨by first | rfl | simp, ?_⟩
  all_goals repeat (first | exact Grew.refl _ | refine Grew.drew ?_ | refine Grew.drewN ?_ _ | refine Grew.alloc ?_ _ | refine Grew.set ?_ (by first | (simp; done) | (simp; omega) | omega) _ | refine Grew.trans ?_ g3 | refine Grew.trans ?_ g5 | assumption)
theorem ne_self {f : Ieee.Format} (ht : Two f) (b : Nat) : (f.order b b != some Ordering.eq) = decide (f.infRung < sz f b) := by
  by_cases h : f.infRung < sz f b
  · rw [order_nan ht (Or.inl h)]; simp [h]
  · rw [order_key ht (by omega) (by omega)]; simp [h]
theorem from32 (n : Int) (w : World) : (callFunc 21 #[.int .u32 n]).run Try.prog w = .ok (.value (.float .f32 n.toNat)) w := by
  rw [run_callFunc_extern (e := Extern.MathFloatBits.float32frombits) Try.func21 (by kernel_rfl) (by kernel_rfl) (by kernel_rfl) (by kernel_rfl)]
  rfl
set_option maxRecDepth 100000 in
theorem take32_any (a : Nat) (ha : a < 18446744073709551616) (w : World) :
    Calls Try.prog 11 #[.int .u64 (a : Int)] w fun e w' => e = .returned (.float .f32 (a % 2 ^ 32)) ∧ w' = w := by
  go_enter Try.func11, Try.ntmps11
  go_wp2
  rw [from32]
  go_wp2
  go_ret
  go_light
  exact ⟨by first | rfl | (rw [show (2 : Nat) ^ 32 = 4294967296 from by decide, Nat.mod_eq_of_lt ha]; rfl), rfl⟩
set_option maxRecDepth 100000 in
theorem isNaN32_any (b : Nat) (w : World) :
    Calls Try.prog 10 #[.float .f32 b] w fun e w' => e = .returned (.bool (decide (Ieee.single.infRung < sz Ieee.single b))) ∧ w' = w := by
  go_enter Try.func10, Try.ntmps10
  go_wp2
  go_ret
  go_light
  exact ⟨by rw [← ne_self (by simp [Two])]; rfl, rfl⟩
theorem from64 (n : Int) (w : World) : (callFunc 20 #[.int .u64 n]).run Try.prog w = .ok (.value (.float .f64 n.toNat)) w := by
  rw [run_callFunc_extern (e := Extern.MathFloatBits.float64frombits) Try.func20 (by kernel_rfl) (by kernel_rfl) (by kernel_rfl) (by kernel_rfl)]
  rfl
set_option maxRecDepth 100000 in
theorem take64_any (a : Nat) (ha : a < 18446744073709551616) (w : World) :
    Calls Try.prog 9 #[.int .u64 (a : Int)] w fun e w' => e = .returned (.float .f64 (a % 2 ^ 64)) ∧ w' = w := by
  go_enter Try.func9, Try.ntmps9
  go_wp2
  rw [from64]
  go_wp2
  go_ret
  go_light
  exact ⟨by first | rfl | (rw [show (2 : Nat) ^ 64 = 18446744073709551616 from by decide, Nat.mod_eq_of_lt ha]; rfl), rfl⟩
set_option maxRecDepth 100000 in
theorem isNaN64_any (b : Nat) (w : World) :
    Calls Try.prog 8 #[.float .f64 b] w fun e w' => e = .returned (.bool (decide (Ieee.double.infRung < sz Ieee.double b))) ∧ w' = w := by
  go_enter Try.func8, Try.ntmps8
  go_wp2
  go_ret
  go_light
  exact ⟨by rw [← ne_self (by simp [Two])]; rfl, rfl⟩
set_option maxRecDepth 100000 in
theorem fcut32 (a : Nat) (ha : a < 18446744073709551616) (w : World) :
    Calls Try.prog 12 #[.int .u64 (a : Int), .int .i64 32] w fun e w' => e = .returned (.int .u64 ((a % 2 ^ 32 : Nat) : Int)) ∧ w' = w := by
  go_enter Try.func12, Try.ntmps12
  go_wp2
  go_ret
  go_light
  exact ⟨by first | rfl | (rw [show (2 : Nat) ^ 32 = 4294967296 from by decide, Nat.mod_eq_of_lt ha]; rfl) | simp, rfl⟩
set_option maxRecDepth 100000 in
theorem sbit32 (w : World) :
    Calls Try.prog 13 #[.int .i64 32] w fun e w' => e = .returned (.int .u64 2147483648) ∧ w' = w := by
  go_enter Try.func13, Try.ntmps13
  go_wp2
  go_ret
  go_light
  exact ⟨by first | rfl | simp, rfl⟩
set_option maxRecDepth 100000 in
theorem fcut64 (a : Nat) (ha : a < 18446744073709551616) (w : World) :
    Calls Try.prog 12 #[.int .u64 (a : Int), .int .i64 64] w fun e w' => e = .returned (.int .u64 ((a % 2 ^ 64 : Nat) : Int)) ∧ w' = w := by
  go_enter Try.func12, Try.ntmps12
  go_wp2
  go_ret
  go_light
  exact ⟨by first | rfl | (rw [show (2 : Nat) ^ 64 = 18446744073709551616 from by decide, Nat.mod_eq_of_lt ha]; rfl) | simp, rfl⟩
set_option maxRecDepth 100000 in
theorem sbit64 (w : World) :
    Calls Try.prog 13 #[.int .i64 64] w fun e w' => e = .returned (.int .u64 9223372036854775808) ∧ w' = w := by
  go_enter Try.func13, Try.ntmps13
  go_wp2
  go_ret
  go_light
  exact ⟨by first | rfl | simp, rfl⟩
set_option maxRecDepth 100000 in
theorem Canon32 (w : World) :
    Calls Try.prog 6 #[.int .i64 32] w fun e w' => e = .returned (.tuple #[.int .u64 2143289344, .int .i64 0]) ∧ w' = w := by
  go_enter Try.func6, Try.ntmps6
  go_wp2
  go_ret2
  exact ⟨by first | rfl | simp, rfl⟩
set_option maxRecDepth 100000 in
theorem Canon64 (w : World) :
    Calls Try.prog 6 #[.int .i64 64] w fun e w' => e = .returned (.tuple #[.int .u64 9221120237041090560, .int .i64 0]) ∧ w' = w := by
  go_enter Try.func6, Try.ntmps6
  go_wp2
  go_ret2
  exact ⟨by first | rfl | simp, rfl⟩
set_option maxRecDepth 100000 in
theorem Canon_no (n : Int) (h1 : (n == 32) = false) (h2 : (n == 64) = false) (w : World) :
    Calls Try.prog 6 #[.int .i64 n] w fun e w' => e = .returned (.tuple #[.int .u64 0, .int .i64 1]) ∧ w' = w := by
  go_enter Try.func6, Try.ntmps6
  go_wp2
  go_ret2
  exact ⟨by first | rfl | simp, rfl⟩
set_option maxRecDepth 100000 in
set_option maxHeartbeats 2000000 in
theorem Nan32 (a : Nat) (ha : a < 18446744073709551616) (w : World) :
    Calls Try.prog 4 #[.int .i64 32, .int .u64 (a : Int)] w fun e w' => e = .returned (.tuple #[.bool (decide (Ieee.single.infRung < sz Ieee.single (a % 2 ^ 32))), .bool (sz Ieee.single (a % 2 ^ 32) == cn Ieee.single), .int .i64 0]) ∧ w' = w := by
  have T6' := fun w : World => take64_any a ha w
  have T3' := fun w : World => take32_any a ha w
  have U' := fun w : World => fcut32 a ha w
  have hA : a % 2 ^ 32 < 4294967296 := Nat.mod_lt _ (by decide)
  generalize a % 2 ^ 32 = A3 at *
  generalize a % 2 ^ 64 = A6 at *
  have nt := not_31 A3 hA
  have C : Hid (∀ w : World, Calls Try.prog 6 #[.int .i64 32] w fun e w' => e = .returned (.tuple #[.int .u64 2143289344, .int .i64 0]) ∧ w' = w) := fun w => Canon32 w
  have T6 : Hid (∀ w : World, Calls Try.prog 9 #[.int .u64 (a : Int)] w fun e w' => e = .returned (.float .f64 A6) ∧ w' = w) := T6'
  have N6 : Hid (∀ w : World, Calls Try.prog 8 #[.float .f64 A6] w fun e w' => e = .returned (.bool (decide (Ieee.double.infRung < sz Ieee.double A6))) ∧ w' = w) := fun w => isNaN64_any _ w
  have T3 : Hid (∀ w : World, Calls Try.prog 11 #[.int .u64 (a : Int)] w fun e w' => e = .returned (.float .f32 A3) ∧ w' = w) := T3'
  have N3 : Hid (∀ w : World, Calls Try.prog 10 #[.float .f32 A3] w fun e w' => e = .returned (.bool (decide (Ieee.single.infRung < sz Ieee.single A3))) ∧ w' = w) := fun w => isNaN32_any _ w
  have U : Hid (∀ w : World, Calls Try.prog 12 #[.int .u64 (a : Int), .int .i64 32] w fun e w' => e = .returned (.int .u64 (A3 : Int)) ∧ w' = w) := U'
  have B : Hid (∀ w : World, Calls Try.prog 13 #[.int .i64 32] w fun e w' => e = .returned (.int .u64 2147483648) ∧ w' = w) := fun w => sbit32 w
  have NT : Hid (bits .andNot .u64 (A3 : Int) 2147483648 = ((A3 % 2147483648 : Nat) : Int)) := nt
  clear T6' T3' U' nt
  go_enter Try.func4, Try.ntmps4
  go_wp2_with (first
    | (go_at_call 6; refine (C.out _).mono ?_; rintro e w' ⟨rfl, rfl⟩)
    | (go_at_call 9; refine (T6.out _).mono ?_; rintro e w' ⟨rfl, rfl⟩)
    | (go_at_call 8; refine (N6.out _).mono ?_; rintro e w' ⟨rfl, rfl⟩)
    | (go_at_call 11; refine (T3.out _).mono ?_; rintro e w' ⟨rfl, rfl⟩)
    | (go_at_call 10; refine (N3.out _).mono ?_; rintro e w' ⟨rfl, rfl⟩)
    | (go_at_call 12; refine (U.out _).mono ?_; rintro e w' ⟨rfl, rfl⟩)
    | (go_at_call 13; refine (B.out _).mono ?_; rintro e w' ⟨rfl, rfl⟩))
  go_ret3
  go_light
  refine ⟨?_, rfl⟩
  show Ending.returned (.tuple #[.bool (decide (Ieee.single.infRung < sz Ieee.single A3)), .bool (bits .andNot .u64 (A3 : Int) 2147483648 == 2143289344), .int .i64 0]) = _
  have hq : (bits .andNot .u64 (A3 : Int) 2147483648 == 2143289344) = (sz Ieee.single A3 == cn Ieee.single) := by
    rw [NT.out, cn1]
    unfold sz
    rw [sw1]
    rw [Bool.eq_iff_iff, beq_iff_eq, beq_iff_eq]
    omega
  rw [hq]
set_option maxRecDepth 100000 in
set_option maxHeartbeats 2000000 in
theorem Nan64 (a : Nat) (ha : a < 18446744073709551616) (w : World) :
    Calls Try.prog 4 #[.int .i64 64, .int .u64 (a : Int)] w fun e w' => e = .returned (.tuple #[.bool (decide (Ieee.double.infRung < sz Ieee.double (a % 2 ^ 64))), .bool (sz Ieee.double (a % 2 ^ 64) == cn Ieee.double), .int .i64 0]) ∧ w' = w := by
  have T6' := fun w : World => take64_any a ha w
  have T3' := fun w : World => take32_any a ha w
  have U' := fun w : World => fcut64 a ha w
  have hA : a % 2 ^ 64 < 18446744073709551616 := Nat.mod_lt _ (by decide)
  generalize a % 2 ^ 32 = A3 at *
  generalize a % 2 ^ 64 = A6 at *
  have nt := not_63 A6 hA
  have C : Hid (∀ w : World, Calls Try.prog 6 #[.int .i64 64] w fun e w' => e = .returned (.tuple #[.int .u64 9221120237041090560, .int .i64 0]) ∧ w' = w) := fun w => Canon64 w
  have T6 : Hid (∀ w : World, Calls Try.prog 9 #[.int .u64 (a : Int)] w fun e w' => e = .returned (.float .f64 A6) ∧ w' = w) := T6'
  have N6 : Hid (∀ w : World, Calls Try.prog 8 #[.float .f64 A6] w fun e w' => e = .returned (.bool (decide (Ieee.double.infRung < sz Ieee.double A6))) ∧ w' = w) := fun w => isNaN64_any _ w
  have T3 : Hid (∀ w : World, Calls Try.prog 11 #[.int .u64 (a : Int)] w fun e w' => e = .returned (.float .f32 A3) ∧ w' = w) := T3'
  have N3 : Hid (∀ w : World, Calls Try.prog 10 #[.float .f32 A3] w fun e w' => e = .returned (.bool (decide (Ieee.single.infRung < sz Ieee.single A3))) ∧ w' = w) := fun w => isNaN32_any _ w
  have U : Hid (∀ w : World, Calls Try.prog 12 #[.int .u64 (a : Int), .int .i64 64] w fun e w' => e = .returned (.int .u64 (A6 : Int)) ∧ w' = w) := U'
  have B : Hid (∀ w : World, Calls Try.prog 13 #[.int .i64 64] w fun e w' => e = .returned (.int .u64 9223372036854775808) ∧ w' = w) := fun w => sbit64 w
  have NT : Hid (bits .andNot .u64 (A6 : Int) 9223372036854775808 = ((A6 % 9223372036854775808 : Nat) : Int)) := nt
  clear T6' T3' U' nt
  go_enter Try.func4, Try.ntmps4
  go_wp2_with (first
    | (go_at_call 6; refine (C.out _).mono ?_; rintro e w' ⟨rfl, rfl⟩)
    | (go_at_call 9; refine (T6.out _).mono ?_; rintro e w' ⟨rfl, rfl⟩)
    | (go_at_call 8; refine (N6.out _).mono ?_; rintro e w' ⟨rfl, rfl⟩)
    | (go_at_call 11; refine (T3.out _).mono ?_; rintro e w' ⟨rfl, rfl⟩)
    | (go_at_call 10; refine (N3.out _).mono ?_; rintro e w' ⟨rfl, rfl⟩)
    | (go_at_call 12; refine (U.out _).mono ?_; rintro e w' ⟨rfl, rfl⟩)
    | (go_at_call 13; refine (B.out _).mono ?_; rintro e w' ⟨rfl, rfl⟩))
  go_ret3
  go_light
  refine ⟨?_, rfl⟩
  show Ending.returned (.tuple #[.bool (decide (Ieee.double.infRung < sz Ieee.double A6)), .bool (bits .andNot .u64 (A6 : Int) 9223372036854775808 == 9221120237041090560), .int .i64 0]) = _
  have hq : (bits .andNot .u64 (A6 : Int) 9223372036854775808 == 9221120237041090560) = (sz Ieee.double A6 == cn Ieee.double) := by
    rw [NT.out, cn2]
    unfold sz
    rw [sw2]
    rw [Bool.eq_iff_iff, beq_iff_eq, beq_iff_eq]
    omega
  rw [hq]
set_option maxRecDepth 100000 in
set_option maxHeartbeats 2000000 in
theorem Nan_no (n : Int) (a : Int) (h1 : (n == 32) = false) (h2 : (n == 64) = false) (w : World) :
    Calls Try.prog 4 #[.int .i64 n, .int .u64 a] w fun e w' => e = .returned (.tuple #[.bool false, .bool false, .int .i64 1]) ∧ w' = w := by
  have C : Hid (∀ w : World, Calls Try.prog 6 #[.int .i64 n] w fun e w' => e = .returned (.tuple #[.int .u64 0, .int .i64 1]) ∧ w' = w) := fun w => Canon_no n h1 h2 w
  go_enter Try.func4, Try.ntmps4
  go_wp2_with (go_at_call 6; refine (C.out _).mono ?_; rintro e w' ⟨rfl, rfl⟩)
  go_ret3
  go_light
  exact ⟨rfl, rfl⟩
end Go.Proofs.Ytjkebimmddlccaa
