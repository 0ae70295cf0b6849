/-
  The walks of math/bits' Len64, LeadingZeros64, TrailingZeros64; no statement is proved here.
-/
import Derived.Test.YtolllelejdnjlaaDoorWorld
import Derived.Test.YtolllelejdnjlaaDoorPlain
import Derived.Lib.Small
import Derived.Lib.Walk
import Derived.Lib.BitFns
import Derived.Lib.TrailingZeros
import Derived.Laws.Bits64
import Derived.Laws.Bits64b
namespace Go.Proofs.YtolllelejdnjlaaDoor
open Go.RowKit
set_option linter.unusedVariables false
set_option linter.unusedSimpArgs false

set_option maxHeartbeats 1000000 in
set_option maxRecDepth 100000 in
theorem len_0 (x r : Int) (w : World) (t0 : x < 4294967296) (t1 : x < 65536) (t2 : x < 256) (y0 : 0 ≤ x) (y1 : x ≤ 255) (l8 : Lib.len8 (x) = r) (r0 : 0 ≤ r) (r1 : r ≤ 8) :
    Calls Tryd.prog 33 #[.int .u64 x] w fun e w' => e = .returned (.int .i64 (0 + r)) ∧ w' = w := by
  go_enter Tryd.func33, Tryd.ntmps33
  go_wp2
  go_ret
  go_light
  exact ⟨by simp, rfl⟩
set_option maxHeartbeats 1000000 in
set_option maxRecDepth 100000 in
theorem len_8 (x r : Int) (w : World) (t0 : x < 4294967296) (t1 : x < 65536) (t2 : 256 ≤ x) (y0 : 0 ≤ x / 256) (y1 : x / 256 ≤ 255) (l8 : Lib.len8 (x / 256) = r) (r0 : 0 ≤ r) (r1 : r ≤ 8) :
    Calls Tryd.prog 33 #[.int .u64 x] w fun e w' => e = .returned (.int .i64 (8 + r)) ∧ w' = w := by
  go_enter Tryd.func33, Tryd.ntmps33
  go_wp2
  go_ret
  go_light
  exact ⟨by rfl, rfl⟩
set_option maxHeartbeats 1000000 in
set_option maxRecDepth 100000 in
theorem len_16 (x r : Int) (w : World) (t0 : x < 4294967296) (t1 : 65536 ≤ x) (t2 : x / 65536 < 256) (y0 : 0 ≤ x / 65536) (y1 : x / 65536 ≤ 255) (l8 : Lib.len8 (x / 65536) = r) (r0 : 0 ≤ r) (r1 : r ≤ 8) :
    Calls Tryd.prog 33 #[.int .u64 x] w fun e w' => e = .returned (.int .i64 (16 + r)) ∧ w' = w := by
  go_enter Tryd.func33, Tryd.ntmps33
  go_wp2
  go_ret
  go_light
  exact ⟨by rfl, rfl⟩
set_option maxHeartbeats 1000000 in
set_option maxRecDepth 100000 in
theorem len_24 (x r : Int) (w : World) (t0 : x < 4294967296) (t1 : 65536 ≤ x) (t2 : 256 ≤ x / 65536) (y0 : 0 ≤ x / 65536 / 256) (y1 : x / 65536 / 256 ≤ 255) (l8 : Lib.len8 (x / 65536 / 256) = r) (r0 : 0 ≤ r) (r1 : r ≤ 8) :
    Calls Tryd.prog 33 #[.int .u64 x] w fun e w' => e = .returned (.int .i64 (24 + r)) ∧ w' = w := by
  go_enter Tryd.func33, Tryd.ntmps33
  go_wp2
  go_ret
  go_light
  exact ⟨by rfl, rfl⟩
set_option maxHeartbeats 1000000 in
set_option maxRecDepth 100000 in
theorem len_32 (x r : Int) (w : World) (t0 : 4294967296 ≤ x) (t1 : x / 4294967296 < 65536) (t2 : x / 4294967296 < 256) (y0 : 0 ≤ x / 4294967296) (y1 : x / 4294967296 ≤ 255) (l8 : Lib.len8 (x / 4294967296) = r) (r0 : 0 ≤ r) (r1 : r ≤ 8) :
    Calls Tryd.prog 33 #[.int .u64 x] w fun e w' => e = .returned (.int .i64 (32 + r)) ∧ w' = w := by
  go_enter Tryd.func33, Tryd.ntmps33
  go_wp2
  go_ret
  go_light
  exact ⟨by rfl, rfl⟩
set_option maxHeartbeats 1000000 in
set_option maxRecDepth 100000 in
theorem len_40 (x r : Int) (w : World) (t0 : 4294967296 ≤ x) (t1 : x / 4294967296 < 65536) (t2 : 256 ≤ x / 4294967296) (y0 : 0 ≤ x / 4294967296 / 256) (y1 : x / 4294967296 / 256 ≤ 255) (l8 : Lib.len8 (x / 4294967296 / 256) = r) (r0 : 0 ≤ r) (r1 : r ≤ 8) :
    Calls Tryd.prog 33 #[.int .u64 x] w fun e w' => e = .returned (.int .i64 (40 + r)) ∧ w' = w := by
  go_enter Tryd.func33, Tryd.ntmps33
  go_wp2
  go_ret
  go_light
  exact ⟨by rfl, rfl⟩
set_option maxHeartbeats 1000000 in
set_option maxRecDepth 100000 in
theorem len_48 (x r : Int) (w : World) (t0 : 4294967296 ≤ x) (t1 : 65536 ≤ x / 4294967296) (t2 : x / 4294967296 / 65536 < 256) (y0 : 0 ≤ x / 4294967296 / 65536) (y1 : x / 4294967296 / 65536 ≤ 255) (l8 : Lib.len8 (x / 4294967296 / 65536) = r) (r0 : 0 ≤ r) (r1 : r ≤ 8) :
    Calls Tryd.prog 33 #[.int .u64 x] w fun e w' => e = .returned (.int .i64 (48 + r)) ∧ w' = w := by
  go_enter Tryd.func33, Tryd.ntmps33
  go_wp2
  go_ret
  go_light
  exact ⟨by rfl, rfl⟩
set_option maxHeartbeats 1000000 in
set_option maxRecDepth 100000 in
theorem len_56 (x r : Int) (w : World) (t0 : 4294967296 ≤ x) (t1 : 65536 ≤ x / 4294967296) (t2 : 256 ≤ x / 4294967296 / 65536) (y0 : 0 ≤ x / 4294967296 / 65536 / 256) (y1 : x / 4294967296 / 65536 / 256 ≤ 255) (l8 : Lib.len8 (x / 4294967296 / 65536 / 256) = r) (r0 : 0 ≤ r) (r1 : r ≤ 8) :
    Calls Tryd.prog 33 #[.int .u64 x] w fun e w' => e = .returned (.int .i64 (56 + r)) ∧ w' = w := by
  go_enter Tryd.func33, Tryd.ntmps33
  go_wp2
  go_ret
  go_light
  exact ⟨by rfl, rfl⟩
theorem Len64_any (x : Int) (w : World) (h0 : 0 ≤ x) (h1 : x ≤ 18446744073709551615) :
    Calls Tryd.prog 33 #[.int .u64 x] w fun e w' => e = .returned (.int .i64 (Lib.bitLen x.toNat)) ∧ w' = w := by
  have key : ∀ (k : Nat) (y : Int), 0 ≤ y → y ≤ 255 → Lib.bitLen x.toNat = k + Lib.bitLen y.toNat → ((Lib.bitLen x.toNat : Nat) : Int) = k + Lib.len8 y ∧ 0 ≤ Lib.len8 y ∧ Lib.len8 y ≤ 8 := by
    intro k y y0 y1 e
    have l := Lib.bitLen_le8' y y0 y1
    have e8 := Lib.len8_of y y0 y1
    exact ⟨by omega, by omega, by omega⟩
  by_cases c1 : 4294967296 ≤ x
  · by_cases c2 : 65536 ≤ x / 4294967296
    · by_cases c3 : 256 ≤ x / 4294967296 / 65536
      · skip
        have e : (x / 4294967296 / 65536 / 256).toNat = x.toNat / 72057594037927936 := by omega
        have z := key 56 (x / 4294967296 / 65536 / 256) (by omega) (by omega) (by rw [e]; exact Lib.bitLen_shift56 x.toNat (by omega) (by omega))
        rw [z.1, show ((56 : Nat) : Int) = 56 from rfl]
        exact len_56 x _ w (by omega) (by omega) (by omega) (by omega) (by omega) rfl z.2.1 z.2.2
      · skip
        have e : (x / 4294967296 / 65536).toNat = x.toNat / 281474976710656 := by omega
        have z := key 48 (x / 4294967296 / 65536) (by omega) (by omega) (by rw [e]; exact Lib.bitLen_shift48 x.toNat (by omega) (by omega))
        rw [z.1, show ((48 : Nat) : Int) = 48 from rfl]
        exact len_48 x _ w (by omega) (by omega) (by omega) (by omega) (by omega) rfl z.2.1 z.2.2
    · by_cases c3 : 256 ≤ x / 4294967296
      · skip
        have e : (x / 4294967296 / 256).toNat = x.toNat / 1099511627776 := by omega
        have z := key 40 (x / 4294967296 / 256) (by omega) (by omega) (by rw [e]; exact Lib.bitLen_shift40 x.toNat (by omega) (by omega))
        rw [z.1, show ((40 : Nat) : Int) = 40 from rfl]
        exact len_40 x _ w (by omega) (by omega) (by omega) (by omega) (by omega) rfl z.2.1 z.2.2
      · skip
        have e : (x / 4294967296).toNat = x.toNat / 4294967296 := by omega
        have z := key 32 (x / 4294967296) (by omega) (by omega) (by rw [e]; exact Lib.bitLen_shift32 x.toNat (by omega) (by omega))
        rw [z.1, show ((32 : Nat) : Int) = 32 from rfl]
        exact len_32 x _ w (by omega) (by omega) (by omega) (by omega) (by omega) rfl z.2.1 z.2.2
  · by_cases c2 : 65536 ≤ x
    · by_cases c3 : 256 ≤ x / 65536
      · skip
        have e : (x / 65536 / 256).toNat = x.toNat / 16777216 := by omega
        have z := key 24 (x / 65536 / 256) (by omega) (by omega) (by rw [e]; exact Lib.bitLen_shift24 x.toNat (by omega) (by omega))
        rw [z.1, show ((24 : Nat) : Int) = 24 from rfl]
        exact len_24 x _ w (by omega) (by omega) (by omega) (by omega) (by omega) rfl z.2.1 z.2.2
      · skip
        have e : (x / 65536).toNat = x.toNat / 65536 := by omega
        have z := key 16 (x / 65536) (by omega) (by omega) (by rw [e]; exact Lib.bitLen_shift16 x.toNat (by omega) (by omega))
        rw [z.1, show ((16 : Nat) : Int) = 16 from rfl]
        exact len_16 x _ w (by omega) (by omega) (by omega) (by omega) (by omega) rfl z.2.1 z.2.2
    · by_cases c3 : 256 ≤ x
      · skip
        have e : (x / 256).toNat = x.toNat / 256 := by omega
        have z := key 8 (x / 256) (by omega) (by omega) (by rw [e]; exact Lib.bitLen_shift8 x.toNat (by omega) (by omega))
        rw [z.1, show ((8 : Nat) : Int) = 8 from rfl]
        exact len_8 x _ w (by omega) (by omega) (by omega) (by omega) (by omega) rfl z.2.1 z.2.2
      · skip
        have z := key 0 x (by omega) (by omega) (by simp)
        rw [z.1, show ((0 : Nat) : Int) = 0 from rfl]
        exact len_0 x _ w (by omega) (by omega) (by omega) (by omega) (by omega) rfl z.2.1 z.2.2
set_option maxRecDepth 100000 in
theorem Lead_any (x : Int) (w : World) (h0 : 0 ≤ x) (h1 : x ≤ 18446744073709551615) :
    Calls Tryd.prog 23 #[.int .u64 x] w fun e w' => e = .returned (.int .i64 (64 - (Lib.bitLen x.toNat : Int))) ∧ w' = w := by
  have l := Lib.bitLen_le x.toNat 64 (by omega) (by omega)
  have L : Hid (∀ w : World, Calls Tryd.prog 33 #[.int .u64 x] w fun e w' => e = .returned (.int .i64 (Lib.bitLen x.toNat)) ∧ w' = w) := fun w => Len64_any x w h0 h1
  generalize Lib.bitLen x.toNat = n at *
  go_enter Tryd.func23, Tryd.ntmps23
  go_wp2_with fail
  refine (L.out _).mono ?_
  rintro e w1 ⟨rfl, hw⟩
  obtain rfl := hw.symm
  go_wp2_with fail
  go_ret
  exact ⟨rfl, rfl⟩
/- The table in its variable (block 0). -/
def Tab (w : World) : Prop := ∀ j, j < 64 → w.cell? ⟨0, j, none⟩ = some (.int .u8 (Lib.deBruijn64tab.getD j 0))
theorem Tab.below {w w' : World} (h : Tab w) (hb : Below w.heap.size w w') : Tab w' := fun j hj => by
  have := h j hj
  rw [hb.cell (block_lt_of_cell this)]; exact this
theorem Tab.grew {w w' : World} (h : Tab w) (hb : Grew w w') : Tab w' := h.below hb.1
theorem key64 (x a : Nat) (hx : x < 18446744073709551616) (hx0 : x ≠ 0) (hlow : x &&& (18446744073709551616 - x) = a) :
    IntKind.u64.wrap (bits BinOp.and IntKind.u64 (x : Int) (IntKind.u64.wrap (-(x : Int))) * 285870213051353865) / 288230376151711744 = ((a * 285870213051353865 % 18446744073709551616 / 288230376151711744 : Nat) : Int) := by
  have e1 : IntKind.u64.wrap (-(x : Int)) = ((18446744073709551616 - x : Nat) : Int) := by rw [IntKind.wrap_u64]; omega
  rw [e1, bits_and_u64_nat x _ hx (by omega), hlow, IntKind.wrap_u64]
  omega
set_option maxRecDepth 100000 in
set_option maxHeartbeats 1000000 in
theorem tz_core (x k idx : Nat) (w : World) (hx0 : ((x : Int) == 0) = false)
    (key : IntKind.u64.wrap (bits BinOp.and IntKind.u64 (x : Int) (IntKind.u64.wrap (-(x : Int))) * 285870213051353865) / 288230376151711744 = (idx : Int))
    (hi : idx < 64) (hk : k < 64) (hcell : w.cell? ⟨0, idx, none⟩ = some (.int .u8 k)) :
    Calls Tryd.prog 25 #[.int .u64 x] w fun e w' => e = .returned (.int .i64 k) ∧ w' = w := by
  go_enter Tryd.func25, Tryd.ntmps25
  go_wp2_with (simp only [key])
  go_ret
  exact ⟨rfl, rfl⟩
theorem tz_zero (w : World) : Calls Tryd.prog 25 #[.int .u64 0] w fun e w' => e = .returned (.int .i64 64) ∧ w' = w := by
  go_enter Tryd.func25, Tryd.ntmps25
  go_wp2
  go_ret
  exact ⟨rfl, rfl⟩
theorem Trail_any (x : Nat) (w : World) (hx : x < 18446744073709551616) (hT : Tab w) :
    Calls Tryd.prog 25 #[.int .u64 x] w fun e w' => e = .returned (.int .i64 (Lib.ctz 64 x)) ∧ w' = w := by
  by_cases hx0 : x = 0
  · subst hx0; exact tz_zero w
  · obtain ⟨hlow, hk⟩ := Lib.lowest_bit 64 x hx0 hx
    obtain ⟨hi, htab⟩ := Lib.deBruijn64_at _ hk
    have hc := hT _ hi
    rw [htab] at hc
    exact tz_core x (Lib.ctz 64 x) _ w (beq_eq_false_iff_ne.2 (by omega)) (key64 x _ hx hx0 hlow) hi hk hc
end Go.Proofs.YtolllelejdnjlaaDoor
