/-
  The walk of math/bits.OnesCount64; no statement is proved here.
-/
import Derived.Test.YtolllelejdnjlaaDoorLen
import Derived.Test.YtolllelejdnjlaaDoorPopM
import Derived.Laws.BitsLemmas
namespace Go.Proofs.YtolllelejdnjlaaDoor
open Go.RowKit
set_option linter.unusedVariables false
set_option linter.unusedSimpArgs false

set_option maxRecDepth 100000 in
set_option maxHeartbeats 1000000 in
theorem ones_x (x y1 y2 y3 y4 y5 y6 r : Int) (w : World)
    (h1 : IntKind.u64.wrap (bits BinOp.and IntKind.u64 (x / 2) 6148914691236517205 + bits BinOp.and IntKind.u64 x 6148914691236517205) = y1)
    (h2 : IntKind.u64.wrap (bits BinOp.and IntKind.u64 (y1 / 4) 3689348814741910323 + bits BinOp.and IntKind.u64 y1 3689348814741910323) = y2)
    (h3 : bits BinOp.and IntKind.u64 (IntKind.u64.wrap (y2 / 16 + y2)) 1085102592571150095 = y3)
    (h4 : IntKind.u64.wrap (y3 + y3 / 256) = y4) (h5 : IntKind.u64.wrap (y4 + y4 / 65536) = y5) (h6 : IntKind.u64.wrap (y5 + y5 / 4294967296) = y6)
    (h7 : bits BinOp.and IntKind.i64 (wrap64 y6) 127 = r) :
    Calls Tryd.prog 26 #[.int .u64 x] w fun e w' => e = .returned (.int .i64 r) ∧ w' = w := by
  go_enter Tryd.func26, Tryd.ntmps26
  go_wp2
  go_ret
  go_light
  exact ⟨rfl, rfl⟩
theorem and127_i64 (X : Int) : bits .and .i64 X 127 = X % 128 := by
  have h : (BitVec.ofInt 64 X &&& BitVec.ofInt 64 127).toNat = (X % 128).toNat := by
    rw [BitVec.toNat_and, BitVec.toNat_ofInt, BitVec.toNat_ofInt]
    rw [show ((127 : Int) % ((2 ^ 64 : Nat) : Int)).toNat = 2 ^ 7 - 1 from by decide, Nat.and_two_pow_sub_one_eq_mod]
    omega
  show IntKind.i64.wrap (((BitVec.ofInt 64 X &&& BitVec.ofInt 64 127).toNat : Nat) : Int) = _
  rw [h, IntKind.wrap_i64]
  omega
theorem M0_8 : M0 8 = 6148914691236517205 := by decide
theorem M1_8 : M1 8 = 3689348814741910323 := by decide
theorem M2_8 : M2 8 = 1085102592571150095 := by decide
theorem and_u64' (a m : Nat) (ha : a < 18446744073709551616) (hm : m < 18446744073709551616) : bits .and .u64 (a : Int) (m : Int) = ((a &&& m : Nat) : Int) := bits_and_u64_nat a m ha hm
theorem and_m0 (a : Nat) (ha : a < 18446744073709551616) : bits .and .u64 (a : Int) 6148914691236517205 = ((a &&& 6148914691236517205 : Nat) : Int) := and_u64' a 6148914691236517205 ha (by decide)
theorem and_m1 (a : Nat) (ha : a < 18446744073709551616) : bits .and .u64 (a : Int) 3689348814741910323 = ((a &&& 3689348814741910323 : Nat) : Int) := and_u64' a 3689348814741910323 ha (by decide)
theorem and_m2 (a : Nat) (ha : a < 18446744073709551616) : bits .and .u64 (a : Int) 1085102592571150095 = ((a &&& 1085102592571150095 : Nat) : Int) := and_u64' a 1085102592571150095 ha (by decide)
theorem st_1 (x : Nat) (hx : x < 18446744073709551616) : IntKind.u64.wrap (bits BinOp.and IntKind.u64 ((x : Int) / 2) 6148914691236517205 + bits BinOp.and IntKind.u64 (x : Int) 6148914691236517205) = ((P1 8 x : Nat) : Int) ∧ P1 8 x ≤ 12297829382473034410 := by
  have a1 : x / 2 &&& 6148914691236517205 ≤ 6148914691236517205 := Nat.and_le_right
  have a2 : x &&& 6148914691236517205 ≤ 6148914691236517205 := Nat.and_le_right
  have e : P1 8 x = (x / 2 &&& 6148914691236517205) + (x &&& 6148914691236517205) := by unfold P1; rw [M0_8]
  have hx2 : x / 2 < 18446744073709551616 := by omega
  rw [show (x : Int) / 2 = ((x / 2 : Nat) : Int) from by omega, and_m0 (x / 2) hx2, and_m0 x hx, IntKind.wrap_u64, e]
  generalize (x / 2 &&& 6148914691236517205) = u at *
  generalize (x &&& 6148914691236517205) = v at *
  exact ⟨by omega, by omega⟩
theorem st_2 (x : Nat) (hx : x < 18446744073709551616) : IntKind.u64.wrap (bits BinOp.and IntKind.u64 ((x : Int) / 4) 3689348814741910323 + bits BinOp.and IntKind.u64 (x : Int) 3689348814741910323) = ((P2 8 x : Nat) : Int) ∧ P2 8 x ≤ 7378697629483820646 := by
  have a1 : x / 4 &&& 3689348814741910323 ≤ 3689348814741910323 := Nat.and_le_right
  have a2 : x &&& 3689348814741910323 ≤ 3689348814741910323 := Nat.and_le_right
  have e : P2 8 x = (x / 4 &&& 3689348814741910323) + (x &&& 3689348814741910323) := by unfold P2; rw [M1_8]
  have hx2 : x / 4 < 18446744073709551616 := by omega
  rw [show (x : Int) / 4 = ((x / 4 : Nat) : Int) from by omega, and_m1 (x / 4) hx2, and_m1 x hx, IntKind.wrap_u64, e]
  generalize (x / 4 &&& 3689348814741910323) = u at *
  generalize (x &&& 3689348814741910323) = v at *
  exact ⟨by omega, by omega⟩
theorem st_3 (x : Nat) (hx : x ≤ 7378697629483820646) : bits BinOp.and IntKind.u64 (IntKind.u64.wrap ((x : Int) / 16 + (x : Int))) 1085102592571150095 = ((P3 8 x : Nat) : Int) ∧ P3 8 x ≤ 1085102592571150095 := by
  have h : IntKind.u64.wrap ((x : Int) / 16 + (x : Int)) = ((x / 16 + x : Nat) : Int) := by rw [IntKind.wrap_u64]; omega
  have e : P3 8 x = (x / 16 + x) &&& 1085102592571150095 := by unfold P3; rw [M2_8]
  have hx2 : x / 16 + x < 18446744073709551616 := by omega
  rw [h, and_m2 (x / 16 + x) hx2, e]
  exact ⟨rfl, Nat.and_le_right⟩
theorem st_4 (z z4 z5 z6 : Nat) (hz : z ≤ 1085102592571150095) (h4 : z4 = z + z / 256) (h5 : z5 = z4 + z4 / 65536) (h6 : z6 = z5 + z5 / 4294967296) :
    IntKind.u64.wrap ((z : Int) + (z : Int) / 256) = (z4 : Int) ∧ IntKind.u64.wrap ((z4 : Int) + (z4 : Int) / 65536) = (z5 : Int) ∧ IntKind.u64.wrap ((z5 : Int) + (z5 : Int) / 4294967296) = (z6 : Int) ∧ z6 ≤ 9223372036854775807 := by
  rw [IntKind.wrap_u64, IntKind.wrap_u64, IntKind.wrap_u64]
  refine ⟨by omega, by omega, by omega, by omega⟩
theorem st_7 (z : Nat) (h : z ≤ 9223372036854775807) : bits BinOp.and IntKind.i64 (wrap64 (z : Int)) 127 = ((z % 128 : Nat) : Int) := by
  rw [and127_i64]
  unfold wrap64
  omega
theorem Ones_any (x : Nat) (w : World) (hx : x < 18446744073709551616) :
    Calls Tryd.prog 26 #[.int .u64 (x : Int)] w fun e w' => e = .returned (.int .i64 ((pc x 64 : Nat) : Int)) ∧ w' = w := by
  obtain ⟨e1, b1⟩ := st_1 x hx
  obtain ⟨e2, b2⟩ := st_2 (P1 8 x) (Nat.lt_of_le_of_lt b1 (by decide))
  obtain ⟨e3, b3⟩ := st_3 (P2 8 (P1 8 x)) b2
  obtain ⟨e4, e5, e6, b6⟩ := st_4 (P3 8 (P2 8 (P1 8 x))) _ _ _ b3 rfl rfl rfl
  have r := (pop_all x (P3 8 (P2 8 (P1 8 x))) _ _ _ hx rfl rfl rfl rfl).1
  rw [← r]
  exact ones_x x _ _ _ _ _ _ _ w e1 e2 e3 e4 e5 e6 (st_7 _ b6)
end Go.Proofs.YtolllelejdnjlaaDoor
