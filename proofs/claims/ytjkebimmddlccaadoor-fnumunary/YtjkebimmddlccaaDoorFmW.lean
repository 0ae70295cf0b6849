/-
  The walks of the document's small calls on a kind of floats; no statement is proved here.
-/
import Derived.Test.YtjkebimmddlccaaDoorCon
namespace Go.Proofs.YtjkebimmddlccaaDoor
open Go.RowKit
set_option linter.unusedVariables false
set_option linter.unusedSimpArgs false

set_option maxRecDepth 100000 in
theorem sign_any {f : Ieee.Format} (ht : Two f) (w : World) : Calls Tryd.prog 60 #[fv f] w fun e w' => e = .returned (.int .u64 (f.signWeight : Int)) ∧ Grew w w' := by
  rcases ht with rfl | rfl
  · rw [fv1, sw1]
    go_enter Tryd.func60, Tryd.ntmps60
    go_wp2
    go_ret
    go_light
    exact ⟨rfl, (Grew.refl _).alloc _⟩
  · rw [fv2, sw2]
    go_enter Tryd.func60, Tryd.ntmps60
    go_wp2
    go_ret
    go_light
    exact ⟨rfl, (Grew.refl _).alloc _⟩
set_option maxRecDepth 100000 in
theorem inf_any {f : Ieee.Format} (ht : Two f) (w : World) : Calls Tryd.prog 64 #[fv f] w fun e w' => e = .returned (.int .u64 (f.infRung : Int)) ∧ Grew w w' := by
  rcases ht with rfl | rfl
  · rw [fv1, ir1]
    go_enter Tryd.func64, Tryd.ntmps64
    go_wp2
    go_ret
    go_light
    exact ⟨rfl, (Grew.refl _).alloc _⟩
  · rw [fv2, ir2]
    go_enter Tryd.func64, Tryd.ntmps64
    go_wp2
    go_ret
    go_light
    exact ⟨rfl, (Grew.refl _).alloc _⟩
set_option maxRecDepth 100000 in
theorem width_any {f : Ieee.Format} (ht : Two f) (w : World) : Calls Tryd.prog 88 #[fv f] w fun e w' => e = .returned (.int .i64 (f.width : Int)) ∧ Grew w w' := by
  rcases ht with rfl | rfl
  · rw [fv1, wi1]
    go_enter Tryd.func88, Tryd.ntmps88
    go_wp2
    go_ret
    go_light
    exact ⟨rfl, (Grew.refl _).alloc _⟩
  · rw [fv2, wi2]
    go_enter Tryd.func88, Tryd.ntmps88
    go_wp2
    go_ret
    go_light
    exact ⟨rfl, (Grew.refl _).alloc _⟩
set_option maxRecDepth 100000 in
theorem F32_any (w : World) : Calls Tryd.prog 42 #[] w fun e w' => e = .returned (fv Ieee.single) ∧ Grew w w' := by
  rw [fv1]
  go_enter Tryd.func42, Tryd.ntmps42
  go_wp2
  exact bodyPost_ret (v := .agg #[.int .i64 23, .int .i64 8]) (by simp [results, Tryd.results42, go_sem]) rfl ⟨rfl, (Grew.refl _).alloc _⟩
set_option maxRecDepth 100000 in
theorem F64_any (w : World) : Calls Tryd.prog 44 #[] w fun e w' => e = .returned (fv Ieee.double) ∧ Grew w w' := by
  rw [fv2]
  go_enter Tryd.func44, Tryd.ntmps44
  go_wp2
  exact bodyPost_ret (v := .agg #[.int .i64 52, .int .i64 11]) (by simp [results, Tryd.results44, go_sem]) rfl ⟨rfl, (Grew.refl _).alloc _⟩
set_option maxRecDepth 100000 in
theorem cut_1 (a : Nat) (ha : a < 18446744073709551616) (w : World) :
    Calls Tryd.prog 58 #[fv Ieee.single, .int .u64 (a : Int)] w fun e w' => e = .returned (.int .u64 ((a % 2 ^ 32 : Nat) : Int)) ∧ Grew w w' := by
  have W : CG 88 #[.agg #[.int .i64 23, .int .i64 8]] (.int .i64 32) := fun w => width_any (f := Ieee.single) (by simp [Two]) w
  rw [fv1]
  go_enter Tryd.func58, Tryd.ntmps58
  go_wp2_with fail
  refine (W.out _).mono ?_
  rintro e w1 ⟨rfl, g1⟩
  go_wp2
  go_ret
  go_light
  exact ⟨by show Ending.returned (.int .u64 (bits .and .u64 (a : Int) 4294967295)) = _; rw [and_32 a ha], Grew.trans ((Grew.refl _).alloc _) g1⟩
set_option maxRecDepth 100000 in
theorem cut_2 (a : Nat) (ha : a < 18446744073709551616) (w : World) :
    Calls Tryd.prog 58 #[fv Ieee.double, .int .u64 (a : Int)] w fun e w' => e = .returned (.int .u64 ((a % 2 ^ 64 : Nat) : Int)) ∧ Grew w w' := by
  have W : CG 88 #[.agg #[.int .i64 52, .int .i64 11]] (.int .i64 64) := fun w => width_any (f := Ieee.double) (by simp [Two]) w
  rw [fv2]
  go_enter Tryd.func58, Tryd.ntmps58
  go_wp2_with fail
  refine (W.out _).mono ?_
  rintro e w1 ⟨rfl, g1⟩
  go_wp2
  go_ret
  go_light
  exact ⟨by show Ending.returned (.int .u64 (a : Int)) = _; rw [show (2 : Nat) ^ 64 = 18446744073709551616 from by decide, Nat.mod_eq_of_lt ha], Grew.trans ((Grew.refl _).alloc _) g1⟩
theorem cutF_any {f : Ieee.Format} (ht : Two f) (a : Nat) (ha : a < 18446744073709551616) (w : World) :
    Calls Tryd.prog 58 #[fv f, .int .u64 (a : Int)] w fun e w' => e = .returned (.int .u64 ((a % 2 ^ f.width : Nat) : Int)) ∧ Grew w w' := by
  rcases ht with rfl | rfl
  · rw [wi1]; exact cut_1 a ha w
  · rw [wi2]; exact cut_2 a ha w
set_option maxRecDepth 100000 in
theorem size_1 (a : Nat) (ha : a < 18446744073709551616) (w : World) :
    Calls Tryd.prog 59 #[fv Ieee.single, .int .u64 (a : Int)] w fun e w' => e = .returned (.int .u64 (sz Ieee.single a : Int)) ∧ Grew w w' := by
  have W : CG 60 #[.agg #[.int .i64 23, .int .i64 8]] (.int .u64 2147483648) := fun w => by
    have := sign_any (f := Ieee.single) (by simp [Two]) w
    rw [sw1] at this; exact this
  rw [fv1]
  go_enter Tryd.func59, Tryd.ntmps59
  go_wp2_with fail
  refine (W.out _).mono ?_
  rintro e w1 ⟨rfl, g1⟩
  go_wp2
  go_ret
  go_light
  exact ⟨by show Ending.returned (.int .u64 (bits .and .u64 (a : Int) 2147483647)) = _; rw [and_31 a ha]; rfl, Grew.trans ((Grew.refl _).alloc _) g1⟩
set_option maxRecDepth 100000 in
theorem size_2 (a : Nat) (ha : a < 18446744073709551616) (w : World) :
    Calls Tryd.prog 59 #[fv Ieee.double, .int .u64 (a : Int)] w fun e w' => e = .returned (.int .u64 (sz Ieee.double a : Int)) ∧ Grew w w' := by
  have W : CG 60 #[.agg #[.int .i64 52, .int .i64 11]] (.int .u64 9223372036854775808) := fun w => by
    have := sign_any (f := Ieee.double) (by simp [Two]) w
    rw [sw2] at this; exact this
  rw [fv2]
  go_enter Tryd.func59, Tryd.ntmps59
  go_wp2_with fail
  refine (W.out _).mono ?_
  rintro e w1 ⟨rfl, g1⟩
  go_wp2
  go_ret
  go_light
  exact ⟨by show Ending.returned (.int .u64 (bits .and .u64 (a : Int) 9223372036854775807)) = _; rw [and_63 a ha]; rfl, Grew.trans ((Grew.refl _).alloc _) g1⟩
theorem size_any {f : Ieee.Format} (ht : Two f) (a : Nat) (ha : a < 18446744073709551616) (w : World) :
    Calls Tryd.prog 59 #[fv f, .int .u64 (a : Int)] w fun e w' => e = .returned (.int .u64 (sz f a : Int)) ∧ Grew w w' := by
  rcases ht with rfl | rfl
  · exact size_1 a ha w
  · exact size_2 a ha w
set_option maxRecDepth 100000 in
theorem nan_1 (w : World) :
    Calls Tryd.prog 62 #[fv Ieee.single] w fun e w' => e = .returned (.int .u64 (cn Ieee.single : Int)) ∧ Grew w w' := by
  have W : CG 64 #[.agg #[.int .i64 23, .int .i64 8]] (.int .u64 2139095040) := fun w => by
    have := inf_any (f := Ieee.single) (by simp [Two]) w
    rw [ir1] at this; exact this
  rw [fv1, cn1]
  go_enter Tryd.func62, Tryd.ntmps62
  go_wp2_with fail
  go_region_held3 (fun w' => w'.cell? ⟨w.heap.size, 0, none⟩ = some (.int .i64 23) ∧ w'.cell? ⟨w.heap.size, 1, none⟩ = some (.int .i64 8)) (go_keep)
    (first | (go_at_call 64; refine (W.out _).mono ?_; rintro e w5 ⟨rfl, g5⟩; have hc0 : w5.cell? ⟨w.heap.size, 0, none⟩ = some (.int .i64 23) := (by rw [g5.1.cell (by simp)]; go_simp); have hc1 : w5.cell? ⟨w.heap.size, 1, none⟩ = some (.int .i64 8) := (by rw [g5.1.cell (by simp)]; go_simp)))
  all_goals go_wp2
  all_goals go_ret
  all_goals go_light
  all_goals refine ⟨by first | rfl | simp, Grew.trans ?_ g5⟩
  all_goals repeat (first | exact Grew.refl _ | refine Grew.drew ?_ | refine Grew.drewN ?_ _ | refine Grew.alloc ?_ _ | refine Grew.set ?_ (by simp) _)
set_option maxRecDepth 100000 in
theorem nan_2 (w : World) :
    Calls Tryd.prog 62 #[fv Ieee.double] w fun e w' => e = .returned (.int .u64 (cn Ieee.double : Int)) ∧ Grew w w' := by
  have W : CG 64 #[.agg #[.int .i64 52, .int .i64 11]] (.int .u64 9218868437227405312) := fun w => by
    have := inf_any (f := Ieee.double) (by simp [Two]) w
    rw [ir2] at this; exact this
  rw [fv2, cn2]
  go_enter Tryd.func62, Tryd.ntmps62
  go_wp2_with fail
  go_region_held3 (fun w' => w'.cell? ⟨w.heap.size, 0, none⟩ = some (.int .i64 52) ∧ w'.cell? ⟨w.heap.size, 1, none⟩ = some (.int .i64 11)) (go_keep)
    (first | (go_at_call 64; refine (W.out _).mono ?_; rintro e w5 ⟨rfl, g5⟩; have hc0 : w5.cell? ⟨w.heap.size, 0, none⟩ = some (.int .i64 52) := (by rw [g5.1.cell (by simp)]; go_simp); have hc1 : w5.cell? ⟨w.heap.size, 1, none⟩ = some (.int .i64 11) := (by rw [g5.1.cell (by simp)]; go_simp)))
  all_goals go_wp2
  all_goals go_ret
  all_goals go_light
  all_goals refine ⟨by first | rfl | simp, Grew.trans ?_ g5⟩
  all_goals repeat (first | exact Grew.refl _ | refine Grew.drew ?_ | refine Grew.drewN ?_ _ | refine Grew.alloc ?_ _ | refine Grew.set ?_ (by simp) _)
theorem nan_any {f : Ieee.Format} (ht : Two f) (w : World) :
    Calls Tryd.prog 62 #[fv f] w fun e w' => e = .returned (.int .u64 (cn f : Int)) ∧ Grew w w' := by
  rcases ht with rfl | rfl
  · exact nan_1 w
  · exact nan_2 w
set_option maxRecDepth 100000 in
theorem isNan_any {f : Ieee.Format} (ht : Two f) (a : Nat) (ha : a < 18446744073709551616) (w : World) :
    Calls Tryd.prog 61 #[fv f, .int .u64 (a : Int)] w fun e w' => e = .returned (.bool (decide (f.infRung < sz f a))) ∧ Grew w w' := by
  have S : CG 59 #[.agg #[.int .i64 (f.fractionBits : Int), .int .i64 (f.exponentBits : Int)], .int .u64 (a : Int)] (.int .u64 (sz f a : Int)) := fun w => size_any ht a ha w
  have I : CG 64 #[.agg #[.int .i64 (f.fractionBits : Int), .int .i64 (f.exponentBits : Int)]] (.int .u64 (f.infRung : Int)) := fun w => inf_any ht w
  unfold fv
  go_enter Tryd.func61, Tryd.ntmps61
  go_wp2_with fail
  go_region_held3 (fun w' => w'.cell? ⟨w.heap.size, 0, none⟩ = some (.int .i64 (f.fractionBits : Int)) ∧ w'.cell? ⟨w.heap.size, 1, none⟩ = some (.int .i64 (f.exponentBits : Int))) (go_keep)
    (first
    | (go_at_call 59; refine (S.out _).mono ?_; rintro e w3 ⟨rfl, g3⟩; obtain ⟨l3_0, h3_0_0, h3_0_1⟩ := g3.c2 (w.heap.size) (.int .i64 (f.fractionBits : Int)) (.int .i64 (f.exponentBits : Int)))
    | (go_at_call 64; refine (I.out _).mono ?_; rintro e w5 ⟨rfl, g5⟩; obtain ⟨l5_0, h5_0_0, h5_0_1⟩ := g5.c2 (w.heap.size) (.int .i64 (f.fractionBits : Int)) (.int .i64 (f.exponentBits : Int))))
  all_goals go_wp2
  all_goals go_ret
  all_goals go_light
  all_goals refine ⟨by first | rfl | simp, ?_⟩
  all_goals repeat (first | exact Grew.refl _ | refine Grew.drew ?_ | refine Grew.drewN ?_ _ | refine Grew.alloc ?_ _ | refine Grew.set ?_ (by first | (simp; done) | (simp; omega) | omega) _ | refine Grew.trans ?_ g3 | refine Grew.trans ?_ g5 | assumption)
end Go.Proofs.YtjkebimmddlccaaDoor
