/-
  The walks of bias and parts; no statement is proved here.
-/
import Derived.Test.YtjkebimmddlccaaDoorRefK
namespace Go.Proofs.YtjkebimmddlccaaDoor
open Go.RowKit
set_option linter.unusedVariables false
set_option linter.unusedSimpArgs false

set_option maxRecDepth 100000 in
theorem bias_1 (w : World) : Calls Tryd.prog 98 #[fv Ieee.single] w fun e w' => e = .returned (.int .i64 150) ∧ Grew w w' := by
  rw [fv1]
  go_enter Tryd.func98, Tryd.ntmps98
  go_wp2
  go_ret
  go_light
  exact ⟨rfl, (Grew.refl _).alloc _⟩
set_option maxRecDepth 100000 in
set_option maxHeartbeats 2000000 in
theorem parts_1z (a z : Nat) (ha : a < 18446744073709551616) (hz : Hid (sz Ieee.single a = z)) (z1 : z < 9223372036854775808) (hx : z < 8388608) (w : World) :
    Calls Tryd.prog 80 #[fv Ieee.single, .int .u64 (a : Int)] w fun e w' => e = .returned (.tuple #[.int .u64 (z : Int), .int .i64 (-149)]) ∧ Grew w w' := by
  have Z' := fun w : World => size_any (f := Ieee.single) (by simp [Two]) a ha w
  rw [hz.out, fv1] at Z'
  have Bi' := fun w : World => bias_1 w
  rw [fv1] at Bi'
  have Z : CG 59 #[.agg #[.int .i64 23, .int .i64 8], .int .u64 (a : Int)] (.int .u64 (z : Int)) := Z'
  have Bi : CG 98 #[.agg #[.int .i64 23, .int .i64 8]] (.int .i64 150) := Bi'
  have am := and_23 z (by omega)
  have em : ((z % 8388608 : Nat) : Int) = (z : Int) % 8388608 := by omega
  rw [em] at am
  have e0 : (z : Int) / 8388608 = 0 := by omega
  have e1 : (z : Int) % 8388608 = z := by omega
  rw [e1] at am
  clear Z' Bi' em
  rw [fv1]
  go_enter Tryd.func80, Tryd.ntmps80
  go_wp2_with fail
  refine (Z.out _).mono ?_
  rintro e w1 ⟨rfl, g1⟩
  obtain ⟨l1_0, h1_0_0, h1_0_1⟩ := g1.c2 (w.heap.size) (.int .i64 23) (.int .i64 8)
  go_wp2_with fail
  refine (Bi.out _).mono ?_
  rintro e w3 ⟨rfl, g3⟩
  go_wp2
  go_ret2
  go_light
  refine ⟨by first | rfl | simp, ?_⟩
  repeat (first | exact Grew.refl _ | refine Grew.drew ?_ | refine Grew.drewN ?_ _ | refine Grew.alloc ?_ _ | refine Grew.set ?_ (by first | (simp; done) | (simp; omega) | omega) _ | refine Grew.trans ?_ g3 | refine Grew.trans ?_ g1 | assumption)
set_option maxRecDepth 100000 in
set_option maxHeartbeats 2000000 in
theorem parts_1n (a z : Nat) (ha : a < 18446744073709551616) (hz : Hid (sz Ieee.single a = z)) (z1 : z < 9223372036854775808) (hx : 8388608 ≤ z) (w : World) :
    Calls Tryd.prog 80 #[fv Ieee.single, .int .u64 (a : Int)] w fun e w' => e = .returned (.tuple #[.int .u64 ((z : Int) % 8388608 + 8388608), .int .i64 ((z : Int) / 8388608 - 150)]) ∧ Grew w w' := by
  have Z' := fun w : World => size_any (f := Ieee.single) (by simp [Two]) a ha w
  rw [hz.out, fv1] at Z'
  have Bi' := fun w : World => bias_1 w
  rw [fv1] at Bi'
  have Z : CG 59 #[.agg #[.int .i64 23, .int .i64 8], .int .u64 (a : Int)] (.int .u64 (z : Int)) := Z'
  have Bi : CG 98 #[.agg #[.int .i64 23, .int .i64 8]] (.int .i64 150) := Bi'
  have am := and_23 z (by omega)
  have em : ((z % 8388608 : Nat) : Int) = (z : Int) % 8388608 := by omega
  rw [em] at am
  have e0 : 1 ≤ (z : Int) / 8388608 := by omega
  have e2 : (z : Int) / 8388608 ≤ 3000000000000 := by omega
  have n0 : ((z : Int) / 8388608 == 0) = false := beq_eq_false_iff_ne.2 (by omega)
  clear Z' Bi' em
  rw [fv1]
  go_enter Tryd.func80, Tryd.ntmps80
  go_wp2_with fail
  refine (Z.out _).mono ?_
  rintro e w1 ⟨rfl, g1⟩
  obtain ⟨l1_0, h1_0_0, h1_0_1⟩ := g1.c2 (w.heap.size) (.int .i64 23) (.int .i64 8)
  go_wp2_with fail
  have w1x : IntKind.u64.wrap ((z : Int) % 8388608 + 8388608) = (z : Int) % 8388608 + 8388608 := by rw [IntKind.wrap_u64]; omega
  have w3x : IntKind.u64.wrap (2 ^ min (IntKind.u64.wrap 23).toNat 64) = 8388608 := by decide +kernel
  have w2x : IntKind.i64.wrap ((z : Int) / 8388608 - 150) = (z : Int) / 8388608 - 150 := by rw [IntKind.wrap_i64]; omega
  go_region_held3 (fun w' => w'.cell? ⟨w.heap.size, 0, none⟩ = some (.int .i64 23) ∧ w'.cell? ⟨w.heap.size, 1, none⟩ = some (.int .i64 8)) (go_keep)
    (first
    | (go_at_call 98; refine (Bi.out _).mono ?_; rintro e w3 ⟨rfl, g3⟩; obtain ⟨l3_0, h3_0_0, h3_0_1⟩ := g3.c2 (w.heap.size) (.int .i64 23) (.int .i64 8)))
  all_goals go_wp2
  all_goals go_ret2
  all_goals go_light
  all_goals refine ⟨by first | (simp [w1x, w2x]; done) | (simp; done) | (simp [w2x]; rw [w3x, w1x]; done), ?_⟩
  all_goals repeat (first | exact Grew.refl _ | refine Grew.drew ?_ | refine Grew.drewN ?_ _ | refine Grew.alloc ?_ _ | refine Grew.set ?_ (by first | (simp; done) | (simp; omega) | omega) _ | refine Grew.trans ?_ g3 | refine Grew.trans ?_ g1 | assumption)
theorem parts_1 (a : Nat) (ha : a < 18446744073709551616) (w : World) :
    Calls Tryd.prog 80 #[fv Ieee.single, .int .u64 (a : Int)] w fun e w' => e = .returned (.tuple #[.int .u64 (mg Ieee.single a : Int), .int .i64 (pl Ieee.single a)]) ∧ Grew w w' := by
  have z1 := sz_63 (f := Ieee.single) (by simp [Two]) a
  unfold mg pl ex
  rw [bn1, lp1]
  by_cases hx : sz Ieee.single a < 8388608
  · have := parts_1z a _ ha rfl z1 hx w
    rw [if_pos hx, Nat.div_eq_of_lt hx]
    exact this
  · have := parts_1n a _ ha rfl z1 (by omega) w
    rw [if_neg hx]
    generalize sz Ieee.single a = z at *
    rw [show ((8388608 + z % 8388608 : Nat) : Int) = (z : Int) % 8388608 + 8388608 from by omega, show (-149 + ((z / 8388608 - 1 : Nat) : Int) : Int) = (z : Int) / 8388608 - 150 from by omega]
    exact this
set_option maxRecDepth 100000 in
theorem bias_2 (w : World) : Calls Tryd.prog 98 #[fv Ieee.double] w fun e w' => e = .returned (.int .i64 1075) ∧ Grew w w' := by
  rw [fv2]
  go_enter Tryd.func98, Tryd.ntmps98
  go_wp2
  go_ret
  go_light
  exact ⟨rfl, (Grew.refl _).alloc _⟩
set_option maxRecDepth 100000 in
set_option maxHeartbeats 2000000 in
theorem parts_2z (a z : Nat) (ha : a < 18446744073709551616) (hz : Hid (sz Ieee.double a = z)) (z1 : z < 9223372036854775808) (hx : z < 4503599627370496) (w : World) :
    Calls Tryd.prog 80 #[fv Ieee.double, .int .u64 (a : Int)] w fun e w' => e = .returned (.tuple #[.int .u64 (z : Int), .int .i64 (-1074)]) ∧ Grew w w' := by
  have Z' := fun w : World => size_any (f := Ieee.double) (by simp [Two]) a ha w
  rw [hz.out, fv2] at Z'
  have Bi' := fun w : World => bias_2 w
  rw [fv2] at Bi'
  have Z : CG 59 #[.agg #[.int .i64 52, .int .i64 11], .int .u64 (a : Int)] (.int .u64 (z : Int)) := Z'
  have Bi : CG 98 #[.agg #[.int .i64 52, .int .i64 11]] (.int .i64 1075) := Bi'
  have am := and_52 z (by omega)
  have em : ((z % 4503599627370496 : Nat) : Int) = (z : Int) % 4503599627370496 := by omega
  rw [em] at am
  have e0 : (z : Int) / 4503599627370496 = 0 := by omega
  have e1 : (z : Int) % 4503599627370496 = z := by omega
  rw [e1] at am
  clear Z' Bi' em
  rw [fv2]
  go_enter Tryd.func80, Tryd.ntmps80
  go_wp2_with fail
  refine (Z.out _).mono ?_
  rintro e w1 ⟨rfl, g1⟩
  obtain ⟨l1_0, h1_0_0, h1_0_1⟩ := g1.c2 (w.heap.size) (.int .i64 52) (.int .i64 11)
  go_wp2_with fail
  refine (Bi.out _).mono ?_
  rintro e w3 ⟨rfl, g3⟩
  go_wp2
  go_ret2
  go_light
  refine ⟨by first | rfl | simp, ?_⟩
  repeat (first | exact Grew.refl _ | refine Grew.drew ?_ | refine Grew.drewN ?_ _ | refine Grew.alloc ?_ _ | refine Grew.set ?_ (by first | (simp; done) | (simp; omega) | omega) _ | refine Grew.trans ?_ g3 | refine Grew.trans ?_ g1 | assumption)
set_option maxRecDepth 100000 in
set_option maxHeartbeats 2000000 in
theorem parts_2n (a z : Nat) (ha : a < 18446744073709551616) (hz : Hid (sz Ieee.double a = z)) (z1 : z < 9223372036854775808) (hx : 4503599627370496 ≤ z) (w : World) :
    Calls Tryd.prog 80 #[fv Ieee.double, .int .u64 (a : Int)] w fun e w' => e = .returned (.tuple #[.int .u64 ((z : Int) % 4503599627370496 + 4503599627370496), .int .i64 ((z : Int) / 4503599627370496 - 1075)]) ∧ Grew w w' := by
  have Z' := fun w : World => size_any (f := Ieee.double) (by simp [Two]) a ha w
  rw [hz.out, fv2] at Z'
  have Bi' := fun w : World => bias_2 w
  rw [fv2] at Bi'
  have Z : CG 59 #[.agg #[.int .i64 52, .int .i64 11], .int .u64 (a : Int)] (.int .u64 (z : Int)) := Z'
  have Bi : CG 98 #[.agg #[.int .i64 52, .int .i64 11]] (.int .i64 1075) := Bi'
  have am := and_52 z (by omega)
  have em : ((z % 4503599627370496 : Nat) : Int) = (z : Int) % 4503599627370496 := by omega
  rw [em] at am
  have e0 : 1 ≤ (z : Int) / 4503599627370496 := by omega
  have e2 : (z : Int) / 4503599627370496 ≤ 3000000000000 := by omega
  have n0 : ((z : Int) / 4503599627370496 == 0) = false := beq_eq_false_iff_ne.2 (by omega)
  clear Z' Bi' em
  rw [fv2]
  go_enter Tryd.func80, Tryd.ntmps80
  go_wp2_with fail
  refine (Z.out _).mono ?_
  rintro e w1 ⟨rfl, g1⟩
  obtain ⟨l1_0, h1_0_0, h1_0_1⟩ := g1.c2 (w.heap.size) (.int .i64 52) (.int .i64 11)
  go_wp2_with fail
  have w1x : IntKind.u64.wrap ((z : Int) % 4503599627370496 + 4503599627370496) = (z : Int) % 4503599627370496 + 4503599627370496 := by rw [IntKind.wrap_u64]; omega
  have w3x : IntKind.u64.wrap (2 ^ min (IntKind.u64.wrap 52).toNat 64) = 4503599627370496 := by decide +kernel
  have w2x : IntKind.i64.wrap ((z : Int) / 4503599627370496 - 1075) = (z : Int) / 4503599627370496 - 1075 := by rw [IntKind.wrap_i64]; omega
  go_region_held3 (fun w' => w'.cell? ⟨w.heap.size, 0, none⟩ = some (.int .i64 52) ∧ w'.cell? ⟨w.heap.size, 1, none⟩ = some (.int .i64 11)) (go_keep)
    (first
    | (go_at_call 98; refine (Bi.out _).mono ?_; rintro e w3 ⟨rfl, g3⟩; obtain ⟨l3_0, h3_0_0, h3_0_1⟩ := g3.c2 (w.heap.size) (.int .i64 52) (.int .i64 11)))
  all_goals go_wp2
  all_goals go_ret2
  all_goals go_light
  all_goals refine ⟨by first | (simp [w1x, w2x]; done) | (simp; done) | (simp [w2x]; rw [w3x, w1x]; done), ?_⟩
  all_goals repeat (first | exact Grew.refl _ | refine Grew.drew ?_ | refine Grew.drewN ?_ _ | refine Grew.alloc ?_ _ | refine Grew.set ?_ (by first | (simp; done) | (simp; omega) | omega) _ | refine Grew.trans ?_ g3 | refine Grew.trans ?_ g1 | assumption)
theorem parts_2 (a : Nat) (ha : a < 18446744073709551616) (w : World) :
    Calls Tryd.prog 80 #[fv Ieee.double, .int .u64 (a : Int)] w fun e w' => e = .returned (.tuple #[.int .u64 (mg Ieee.double a : Int), .int .i64 (pl Ieee.double a)]) ∧ Grew w w' := by
  have z1 := sz_63 (f := Ieee.double) (by simp [Two]) a
  unfold mg pl ex
  rw [bn2, lp2]
  by_cases hx : sz Ieee.double a < 4503599627370496
  · have := parts_2z a _ ha rfl z1 hx w
    rw [if_pos hx, Nat.div_eq_of_lt hx]
    exact this
  · have := parts_2n a _ ha rfl z1 (by omega) w
    rw [if_neg hx]
    generalize sz Ieee.double a = z at *
    rw [show ((4503599627370496 + z % 4503599627370496 : Nat) : Int) = (z : Int) % 4503599627370496 + 4503599627370496 from by omega, show (-1074 + ((z / 4503599627370496 - 1 : Nat) : Int) : Int) = (z : Int) / 4503599627370496 - 1075 from by omega]
    exact this
theorem parts_any {f : Ieee.Format} (ht : Two f) (a : Nat) (ha : a < 18446744073709551616) (w : World) :
    Calls Tryd.prog 80 #[fv f, .int .u64 (a : Int)] w fun e w' => e = .returned (.tuple #[.int .u64 (mg f a : Int), .int .i64 (pl f a)]) ∧ Grew w w' := by
  rcases ht with rfl | rfl
  · exact parts_1 a ha w
  · exact parts_2 a ha w
end Go.Proofs.YtjkebimmddlccaaDoor
