/-
  The walks of fnum's small calls; no statement is proved here.
-/
import Derived.Test.YtjkebimmddlccaaDoorCon
namespace Go.Proofs.YtjkebimmddlccaaDoor
open Go.RowKit
set_option linter.unusedVariables false
set_option linter.unusedSimpArgs false

theorem from32 (n : Int) (w : World) : (callFunc 55 #[.int .u32 n]).run Tryd.prog w = .ok (.value (.float .f32 n.toNat)) w := by
  rw [run_callFunc_extern (e := Extern.MathFloatBits.float32frombits) Tryd.func55 (by kernel_rfl) (by kernel_rfl) (by kernel_rfl) (by kernel_rfl)]
  rfl
set_option maxRecDepth 100000 in
theorem take32_any (a : Nat) (ha : a < 18446744073709551616) (w : World) :
    Calls Tryd.prog 24 #[.int .u64 (a : Int)] w fun e w' => e = .returned (.float .f32 (a % 2 ^ 32)) ∧ w' = w := by
  go_enter Tryd.func24, Tryd.ntmps24
  go_wp2
  rw [from32]
  go_wp2
  go_ret
  go_light
  exact ⟨by first | rfl | (rw [show (2 : Nat) ^ 32 = 4294967296 from by decide, Nat.mod_eq_of_lt ha]; rfl), rfl⟩
set_option maxRecDepth 100000 in
theorem isNaN32_any (b : Nat) (w : World) :
    Calls Tryd.prog 48 #[.float .f32 b] w fun e w' => e = .returned (.bool (decide (Ieee.single.infRung < sz Ieee.single b))) ∧ w' = w := by
  go_enter Tryd.func48, Tryd.ntmps48
  go_wp2
  go_ret
  go_light
  exact ⟨by rw [← ne_self (by simp [Two])]; rfl, rfl⟩
theorem from64 (n : Int) (w : World) : (callFunc 57 #[.int .u64 n]).run Tryd.prog w = .ok (.value (.float .f64 n.toNat)) w := by
  rw [run_callFunc_extern (e := Extern.MathFloatBits.float64frombits) Tryd.func57 (by kernel_rfl) (by kernel_rfl) (by kernel_rfl) (by kernel_rfl)]
  rfl
set_option maxRecDepth 100000 in
theorem take64_any (a : Nat) (ha : a < 18446744073709551616) (w : World) :
    Calls Tryd.prog 27 #[.int .u64 (a : Int)] w fun e w' => e = .returned (.float .f64 (a % 2 ^ 64)) ∧ w' = w := by
  go_enter Tryd.func27, Tryd.ntmps27
  go_wp2
  rw [from64]
  go_wp2
  go_ret
  go_light
  exact ⟨by first | rfl | (rw [show (2 : Nat) ^ 64 = 18446744073709551616 from by decide, Nat.mod_eq_of_lt ha]; rfl), rfl⟩
set_option maxRecDepth 100000 in
theorem isNaN64_any (b : Nat) (w : World) :
    Calls Tryd.prog 47 #[.float .f64 b] w fun e w' => e = .returned (.bool (decide (Ieee.double.infRung < sz Ieee.double b))) ∧ w' = w := by
  go_enter Tryd.func47, Tryd.ntmps47
  go_wp2
  go_ret
  go_light
  exact ⟨by rw [← ne_self (by simp [Two])]; rfl, rfl⟩
set_option maxRecDepth 100000 in
theorem fcut32 (a : Nat) (ha : a < 18446744073709551616) (w : World) :
    Calls Tryd.prog 20 #[.int .u64 (a : Int), .int .i64 32] w fun e w' => e = .returned (.int .u64 ((a % 2 ^ 32 : Nat) : Int)) ∧ w' = w := by
  go_enter Tryd.func20, Tryd.ntmps20
  go_wp2
  go_ret
  go_light
  exact ⟨by first | rfl | (rw [show (2 : Nat) ^ 32 = 4294967296 from by decide, Nat.mod_eq_of_lt ha]; rfl) | simp, rfl⟩
set_option maxRecDepth 100000 in
theorem sbit32 (w : World) :
    Calls Tryd.prog 21 #[.int .i64 32] w fun e w' => e = .returned (.int .u64 2147483648) ∧ w' = w := by
  go_enter Tryd.func21, Tryd.ntmps21
  go_wp2
  go_ret
  go_light
  exact ⟨by first | rfl | simp, rfl⟩
set_option maxRecDepth 100000 in
theorem fcut64 (a : Nat) (ha : a < 18446744073709551616) (w : World) :
    Calls Tryd.prog 20 #[.int .u64 (a : Int), .int .i64 64] w fun e w' => e = .returned (.int .u64 ((a % 2 ^ 64 : Nat) : Int)) ∧ w' = w := by
  go_enter Tryd.func20, Tryd.ntmps20
  go_wp2
  go_ret
  go_light
  exact ⟨by first | rfl | (rw [show (2 : Nat) ^ 64 = 18446744073709551616 from by decide, Nat.mod_eq_of_lt ha]; rfl) | simp, rfl⟩
set_option maxRecDepth 100000 in
theorem sbit64 (w : World) :
    Calls Tryd.prog 21 #[.int .i64 64] w fun e w' => e = .returned (.int .u64 9223372036854775808) ∧ w' = w := by
  go_enter Tryd.func21, Tryd.ntmps21
  go_wp2
  go_ret
  go_light
  exact ⟨by first | rfl | simp, rfl⟩
set_option maxRecDepth 100000 in
theorem Canon32 (w : World) :
    Calls Tryd.prog 17 #[.int .i64 32] w fun e w' => e = .returned (.tuple #[.int .u64 2143289344, .int .i64 0]) ∧ w' = w := by
  go_enter Tryd.func17, Tryd.ntmps17
  go_wp2
  go_ret2
  exact ⟨by first | rfl | simp, rfl⟩
set_option maxRecDepth 100000 in
theorem Canon64 (w : World) :
    Calls Tryd.prog 17 #[.int .i64 64] w fun e w' => e = .returned (.tuple #[.int .u64 9221120237041090560, .int .i64 0]) ∧ w' = w := by
  go_enter Tryd.func17, Tryd.ntmps17
  go_wp2
  go_ret2
  exact ⟨by first | rfl | simp, rfl⟩
set_option maxRecDepth 100000 in
theorem Canon_no (n : Int) (h1 : (n == 32) = false) (h2 : (n == 64) = false) (w : World) :
    Calls Tryd.prog 17 #[.int .i64 n] w fun e w' => e = .returned (.tuple #[.int .u64 0, .int .i64 1]) ∧ w' = w := by
  go_enter Tryd.func17, Tryd.ntmps17
  go_wp2
  go_ret2
  exact ⟨by first | rfl | simp, rfl⟩
set_option maxRecDepth 100000 in
set_option maxHeartbeats 2000000 in
theorem Nan32 (a : Nat) (ha : a < 18446744073709551616) (w : World) :
    Calls Tryd.prog 18 #[.int .i64 32, .int .u64 (a : Int)] w fun e w' => e = .returned (.tuple #[.bool (decide (Ieee.single.infRung < sz Ieee.single (a % 2 ^ 32))), .bool (sz Ieee.single (a % 2 ^ 32) == cn Ieee.single), .int .i64 0]) ∧ w' = w := by
  have T6' := fun w : World => take64_any a ha w
  have T3' := fun w : World => take32_any a ha w
  have U' := fun w : World => fcut32 a ha w
  have hA : a % 2 ^ 32 < 4294967296 := Nat.mod_lt _ (by decide)
  generalize a % 2 ^ 32 = A3 at *
  generalize a % 2 ^ 64 = A6 at *
  have nt := not_31 A3 hA
  have C : Hid (∀ w : World, Calls Tryd.prog 17 #[.int .i64 32] w fun e w' => e = .returned (.tuple #[.int .u64 2143289344, .int .i64 0]) ∧ w' = w) := fun w => Canon32 w
  have T6 : Hid (∀ w : World, Calls Tryd.prog 27 #[.int .u64 (a : Int)] w fun e w' => e = .returned (.float .f64 A6) ∧ w' = w) := T6'
  have N6 : Hid (∀ w : World, Calls Tryd.prog 47 #[.float .f64 A6] w fun e w' => e = .returned (.bool (decide (Ieee.double.infRung < sz Ieee.double A6))) ∧ w' = w) := fun w => isNaN64_any _ w
  have T3 : Hid (∀ w : World, Calls Tryd.prog 24 #[.int .u64 (a : Int)] w fun e w' => e = .returned (.float .f32 A3) ∧ w' = w) := T3'
  have N3 : Hid (∀ w : World, Calls Tryd.prog 48 #[.float .f32 A3] w fun e w' => e = .returned (.bool (decide (Ieee.single.infRung < sz Ieee.single A3))) ∧ w' = w) := fun w => isNaN32_any _ w
  have U : Hid (∀ w : World, Calls Tryd.prog 20 #[.int .u64 (a : Int), .int .i64 32] w fun e w' => e = .returned (.int .u64 (A3 : Int)) ∧ w' = w) := U'
  have B : Hid (∀ w : World, Calls Tryd.prog 21 #[.int .i64 32] w fun e w' => e = .returned (.int .u64 2147483648) ∧ w' = w) := fun w => sbit32 w
  have NT : Hid (bits .andNot .u64 (A3 : Int) 2147483648 = ((A3 % 2147483648 : Nat) : Int)) := nt
  clear T6' T3' U' nt
  go_enter Tryd.func18, Tryd.ntmps18
  go_wp2_with (first
    | (go_at_call 17; refine (C.out _).mono ?_; rintro e w' ⟨rfl, rfl⟩)
    | (go_at_call 27; refine (T6.out _).mono ?_; rintro e w' ⟨rfl, rfl⟩)
    | (go_at_call 47; refine (N6.out _).mono ?_; rintro e w' ⟨rfl, rfl⟩)
    | (go_at_call 24; refine (T3.out _).mono ?_; rintro e w' ⟨rfl, rfl⟩)
    | (go_at_call 48; refine (N3.out _).mono ?_; rintro e w' ⟨rfl, rfl⟩)
    | (go_at_call 20; refine (U.out _).mono ?_; rintro e w' ⟨rfl, rfl⟩)
    | (go_at_call 21; refine (B.out _).mono ?_; rintro e w' ⟨rfl, rfl⟩))
  go_ret3
  go_light
  refine ⟨?_, rfl⟩
  show Ending.returned (.tuple #[.bool (decide (Ieee.single.infRung < sz Ieee.single A3)), .bool (bits .andNot .u64 (A3 : Int) 2147483648 == 2143289344), .int .i64 0]) = _
  have hq : (bits .andNot .u64 (A3 : Int) 2147483648 == 2143289344) = (sz Ieee.single A3 == cn Ieee.single) := by
    rw [NT.out, cn1]
    unfold sz
    rw [sw1]
    rw [Bool.eq_iff_iff, beq_iff_eq, beq_iff_eq]
    omega
  rw [hq]
set_option maxRecDepth 100000 in
set_option maxHeartbeats 2000000 in
theorem Nan64 (a : Nat) (ha : a < 18446744073709551616) (w : World) :
    Calls Tryd.prog 18 #[.int .i64 64, .int .u64 (a : Int)] w fun e w' => e = .returned (.tuple #[.bool (decide (Ieee.double.infRung < sz Ieee.double (a % 2 ^ 64))), .bool (sz Ieee.double (a % 2 ^ 64) == cn Ieee.double), .int .i64 0]) ∧ w' = w := by
  have T6' := fun w : World => take64_any a ha w
  have T3' := fun w : World => take32_any a ha w
  have U' := fun w : World => fcut64 a ha w
  have hA : a % 2 ^ 64 < 18446744073709551616 := Nat.mod_lt _ (by decide)
  generalize a % 2 ^ 32 = A3 at *
  generalize a % 2 ^ 64 = A6 at *
  have nt := not_63 A6 hA
  have C : Hid (∀ w : World, Calls Tryd.prog 17 #[.int .i64 64] w fun e w' => e = .returned (.tuple #[.int .u64 9221120237041090560, .int .i64 0]) ∧ w' = w) := fun w => Canon64 w
  have T6 : Hid (∀ w : World, Calls Tryd.prog 27 #[.int .u64 (a : Int)] w fun e w' => e = .returned (.float .f64 A6) ∧ w' = w) := T6'
  have N6 : Hid (∀ w : World, Calls Tryd.prog 47 #[.float .f64 A6] w fun e w' => e = .returned (.bool (decide (Ieee.double.infRung < sz Ieee.double A6))) ∧ w' = w) := fun w => isNaN64_any _ w
  have T3 : Hid (∀ w : World, Calls Tryd.prog 24 #[.int .u64 (a : Int)] w fun e w' => e = .returned (.float .f32 A3) ∧ w' = w) := T3'
  have N3 : Hid (∀ w : World, Calls Tryd.prog 48 #[.float .f32 A3] w fun e w' => e = .returned (.bool (decide (Ieee.single.infRung < sz Ieee.single A3))) ∧ w' = w) := fun w => isNaN32_any _ w
  have U : Hid (∀ w : World, Calls Tryd.prog 20 #[.int .u64 (a : Int), .int .i64 64] w fun e w' => e = .returned (.int .u64 (A6 : Int)) ∧ w' = w) := U'
  have B : Hid (∀ w : World, Calls Tryd.prog 21 #[.int .i64 64] w fun e w' => e = .returned (.int .u64 9223372036854775808) ∧ w' = w) := fun w => sbit64 w
  have NT : Hid (bits .andNot .u64 (A6 : Int) 9223372036854775808 = ((A6 % 9223372036854775808 : Nat) : Int)) := nt
  clear T6' T3' U' nt
  go_enter Tryd.func18, Tryd.ntmps18
  go_wp2_with (first
    | (go_at_call 17; refine (C.out _).mono ?_; rintro e w' ⟨rfl, rfl⟩)
    | (go_at_call 27; refine (T6.out _).mono ?_; rintro e w' ⟨rfl, rfl⟩)
    | (go_at_call 47; refine (N6.out _).mono ?_; rintro e w' ⟨rfl, rfl⟩)
    | (go_at_call 24; refine (T3.out _).mono ?_; rintro e w' ⟨rfl, rfl⟩)
    | (go_at_call 48; refine (N3.out _).mono ?_; rintro e w' ⟨rfl, rfl⟩)
    | (go_at_call 20; refine (U.out _).mono ?_; rintro e w' ⟨rfl, rfl⟩)
    | (go_at_call 21; refine (B.out _).mono ?_; rintro e w' ⟨rfl, rfl⟩))
  go_ret3
  go_light
  refine ⟨?_, rfl⟩
  show Ending.returned (.tuple #[.bool (decide (Ieee.double.infRung < sz Ieee.double A6)), .bool (bits .andNot .u64 (A6 : Int) 9223372036854775808 == 9221120237041090560), .int .i64 0]) = _
  have hq : (bits .andNot .u64 (A6 : Int) 9223372036854775808 == 9221120237041090560) = (sz Ieee.double A6 == cn Ieee.double) := by
    rw [NT.out, cn2]
    unfold sz
    rw [sw2]
    rw [Bool.eq_iff_iff, beq_iff_eq, beq_iff_eq]
    omega
  rw [hq]
set_option maxRecDepth 100000 in
set_option maxHeartbeats 2000000 in
theorem Nan_no (n : Int) (a : Int) (h1 : (n == 32) = false) (h2 : (n == 64) = false) (w : World) :
    Calls Tryd.prog 18 #[.int .i64 n, .int .u64 a] w fun e w' => e = .returned (.tuple #[.bool false, .bool false, .int .i64 1]) ∧ w' = w := by
  have C : Hid (∀ w : World, Calls Tryd.prog 17 #[.int .i64 n] w fun e w' => e = .returned (.tuple #[.int .u64 0, .int .i64 1]) ∧ w' = w) := fun w => Canon_no n h1 h2 w
  go_enter Tryd.func18, Tryd.ntmps18
  go_wp2_with (go_at_call 17; refine (C.out _).mono ?_; rintro e w' ⟨rfl, rfl⟩)
  go_ret3
  go_light
  exact ⟨rfl, rfl⟩
end Go.Proofs.YtjkebimmddlccaaDoor
