/-
  The walk of the document's Compare; no statement is proved here.
-/
import Derived.Test.YtjkebimmddlccaaDoorRefK
namespace Go.Proofs.YtjkebimmddlccaaDoor
open Go.RowKit
set_option linter.unusedVariables false
set_option linter.unusedSimpArgs false

/- What the document's Compare tells. -/
def rcop (f : Ieee.Format) (k : Nat) (x y : Nat) : Bool :=
  if f.infRung < sz f x ∨ f.infRung < sz f y then k == 1 else
  if k = 0 then key f x == key f y else if k = 1 then key f x != key f y else if k = 2 then decide (key f x < key f y) else if k = 3 then decide (key f x > key f y) else if k = 4 then decide (key f x ≤ key f y) else decide (key f x ≥ key f y)
set_option maxRecDepth 100000 in
set_option maxHeartbeats 2000000 in
theorem FCmp_0a {f : Ieee.Format} (a b A D : Nat) (x y : Int) (c : Bool) (w : World)
    (U1 : Hid (∀ w : World, Calls Tryd.prog 58 #[.agg #[.int .i64 (f.fractionBits : Int), .int .i64 (f.exponentBits : Int)], .int .u64 (a : Int)] w fun e w' => e = .returned (.int .u64 (A : Int)) ∧ Grew w w'))
    (U2 : Hid (∀ w : World, Calls Tryd.prog 58 #[.agg #[.int .i64 (f.fractionBits : Int), .int .i64 (f.exponentBits : Int)], .int .u64 (b : Int)] w fun e w' => e = .returned (.int .u64 (D : Int)) ∧ Grew w w'))
    (K1 : Hid (∀ w : World, Calls Tryd.prog 71 #[.agg #[.int .i64 (f.fractionBits : Int), .int .i64 (f.exponentBits : Int)], .int .u64 (A : Int)] w fun e w' => e = .returned (.int .i64 x) ∧ Grew w w'))
    (K2 : Hid (∀ w : World, Calls Tryd.prog 71 #[.agg #[.int .i64 (f.fractionBits : Int), .int .i64 (f.exponentBits : Int)], .int .u64 (D : Int)] w fun e w' => e = .returned (.int .i64 y) ∧ Grew w w'))
    (N1 : Hid (∀ w : World, Calls Tryd.prog 61 #[.agg #[.int .i64 (f.fractionBits : Int), .int .i64 (f.exponentBits : Int)], .int .u64 (A : Int)] w fun e w' => e = .returned (.bool true) ∧ Grew w w')) :
    Calls Tryd.prog 36 #[fv f, .int .i64 0, .int .u64 (a : Int), .int .u64 (b : Int)] w fun e w' => e = .returned (.int .u64 0) ∧ Grew w w' := by
  unfold fv
  go_enter Tryd.func36, Tryd.ntmps36
  go_wp2_with fail
  go_region_held3 (fun w' => w'.cell? ⟨w.heap.size, 0, none⟩ = some (.int .i64 (f.fractionBits : Int)) ∧ w'.cell? ⟨w.heap.size, 1, none⟩ = some (.int .i64 (f.exponentBits : Int))) (go_keep)
    (first
    | (go_at_call_of 58 (Value.int IntKind.u64 (a : Int)); refine (U1.out _).mono ?_; rintro e w1 ⟨rfl, g1⟩; have l1_0 : w.heap.size < w1.heap.size := Nat.lt_of_lt_of_le (by first | (simp; done) | (simp; omega) | omega) g1.2; have h1_0_0 : w1.cell? ⟨w.heap.size, 0, none⟩ = some (.int .i64 (f.fractionBits : Int)) := (by rw [g1.1.cell (by first | (simp; done) | (simp; omega) | omega)]; go_simp); have h1_0_1 : w1.cell? ⟨w.heap.size, 1, none⟩ = some (.int .i64 (f.exponentBits : Int)) := (by rw [g1.1.cell (by first | (simp; done) | (simp; omega) | omega)]; go_simp))
    | (go_at_call_of 58 (Value.int IntKind.u64 (b : Int)); refine (U2.out _).mono ?_; rintro e w2 ⟨rfl, g2⟩; have l2_0 : w.heap.size < w2.heap.size := Nat.lt_of_lt_of_le (by first | (simp; done) | (simp; omega) | omega) g2.2; have h2_0_0 : w2.cell? ⟨w.heap.size, 0, none⟩ = some (.int .i64 (f.fractionBits : Int)) := (by rw [g2.1.cell (by first | (simp; done) | (simp; omega) | omega)]; go_simp); have h2_0_1 : w2.cell? ⟨w.heap.size, 1, none⟩ = some (.int .i64 (f.exponentBits : Int)) := (by rw [g2.1.cell (by first | (simp; done) | (simp; omega) | omega)]; go_simp)))
  go_wp2_with fail
  go_region_held3 (fun w' => w'.cell? ⟨w.heap.size, 0, none⟩ = some (.int .i64 (f.fractionBits : Int)) ∧ w'.cell? ⟨w.heap.size, 1, none⟩ = some (.int .i64 (f.exponentBits : Int))) (go_keep)
    (first
    | (go_at_call_of 71 (Value.int IntKind.u64 (A : Int)); refine (K1.out _).mono ?_; rintro e w3 ⟨rfl, g3⟩; have l3_0 : w.heap.size < w3.heap.size := Nat.lt_of_lt_of_le (by first | (simp; done) | (simp; omega) | omega) g3.2; have h3_0_0 : w3.cell? ⟨w.heap.size, 0, none⟩ = some (.int .i64 (f.fractionBits : Int)) := (by rw [g3.1.cell (by first | (simp; done) | (simp; omega) | omega)]; go_simp); have h3_0_1 : w3.cell? ⟨w.heap.size, 1, none⟩ = some (.int .i64 (f.exponentBits : Int)) := (by rw [g3.1.cell (by first | (simp; done) | (simp; omega) | omega)]; go_simp))
    | (go_at_call_of 71 (Value.int IntKind.u64 (D : Int)); refine (K2.out _).mono ?_; rintro e w4 ⟨rfl, g4⟩; have l4_0 : w.heap.size < w4.heap.size := Nat.lt_of_lt_of_le (by first | (simp; done) | (simp; omega) | omega) g4.2; have h4_0_0 : w4.cell? ⟨w.heap.size, 0, none⟩ = some (.int .i64 (f.fractionBits : Int)) := (by rw [g4.1.cell (by first | (simp; done) | (simp; omega) | omega)]; go_simp); have h4_0_1 : w4.cell? ⟨w.heap.size, 1, none⟩ = some (.int .i64 (f.exponentBits : Int)) := (by rw [g4.1.cell (by first | (simp; done) | (simp; omega) | omega)]; go_simp)))
  go_wp2_with fail
  refine (N1.out _).mono ?_
  rintro e w5 ⟨rfl, g5⟩
  have l5_0 : w.heap.size < w5.heap.size := Nat.lt_of_lt_of_le (by first | (simp; done) | (simp; omega) | omega) g5.2
  have h5_0_0 : w5.cell? ⟨w.heap.size, 0, none⟩ = some (.int .i64 (f.fractionBits : Int)) := (by rw [g5.1.cell (by first | (simp; done) | (simp; omega) | omega)]; go_simp)
  have h5_0_1 : w5.cell? ⟨w.heap.size, 1, none⟩ = some (.int .i64 (f.exponentBits : Int)) := (by rw [g5.1.cell (by first | (simp; done) | (simp; omega) | omega)]; go_simp)
  go_wp2
  go_ret
  go_light
  refine ⟨rfl, ?_⟩
  repeat (first | exact Grew.refl _ | refine Grew.drew ?_ | refine Grew.drewN ?_ _ | refine Grew.alloc ?_ _ | refine Grew.set ?_ (by first | (simp; done) | (simp; omega) | omega) _ | refine Grew.trans ?_ g1 | refine Grew.trans ?_ g2 | refine Grew.trans ?_ g3 | refine Grew.trans ?_ g4 | refine Grew.trans ?_ g5 | assumption)
set_option maxRecDepth 100000 in
set_option maxHeartbeats 2000000 in
theorem FCmp_0b {f : Ieee.Format} (a b A D : Nat) (x y : Int) (c : Bool) (w : World)
    (U1 : Hid (∀ w : World, Calls Tryd.prog 58 #[.agg #[.int .i64 (f.fractionBits : Int), .int .i64 (f.exponentBits : Int)], .int .u64 (a : Int)] w fun e w' => e = .returned (.int .u64 (A : Int)) ∧ Grew w w'))
    (U2 : Hid (∀ w : World, Calls Tryd.prog 58 #[.agg #[.int .i64 (f.fractionBits : Int), .int .i64 (f.exponentBits : Int)], .int .u64 (b : Int)] w fun e w' => e = .returned (.int .u64 (D : Int)) ∧ Grew w w'))
    (K1 : Hid (∀ w : World, Calls Tryd.prog 71 #[.agg #[.int .i64 (f.fractionBits : Int), .int .i64 (f.exponentBits : Int)], .int .u64 (A : Int)] w fun e w' => e = .returned (.int .i64 x) ∧ Grew w w'))
    (K2 : Hid (∀ w : World, Calls Tryd.prog 71 #[.agg #[.int .i64 (f.fractionBits : Int), .int .i64 (f.exponentBits : Int)], .int .u64 (D : Int)] w fun e w' => e = .returned (.int .i64 y) ∧ Grew w w'))
    (N1 : Hid (∀ w : World, Calls Tryd.prog 61 #[.agg #[.int .i64 (f.fractionBits : Int), .int .i64 (f.exponentBits : Int)], .int .u64 (A : Int)] w fun e w' => e = .returned (.bool false) ∧ Grew w w'))
    (N2 : Hid (∀ w : World, Calls Tryd.prog 61 #[.agg #[.int .i64 (f.fractionBits : Int), .int .i64 (f.exponentBits : Int)], .int .u64 (D : Int)] w fun e w' => e = .returned (.bool true) ∧ Grew w w')) :
    Calls Tryd.prog 36 #[fv f, .int .i64 0, .int .u64 (a : Int), .int .u64 (b : Int)] w fun e w' => e = .returned (.int .u64 0) ∧ Grew w w' := by
  unfold fv
  go_enter Tryd.func36, Tryd.ntmps36
  go_wp2_with fail
  go_region_held3 (fun w' => w'.cell? ⟨w.heap.size, 0, none⟩ = some (.int .i64 (f.fractionBits : Int)) ∧ w'.cell? ⟨w.heap.size, 1, none⟩ = some (.int .i64 (f.exponentBits : Int))) (go_keep)
    (first
    | (go_at_call_of 58 (Value.int IntKind.u64 (a : Int)); refine (U1.out _).mono ?_; rintro e w1 ⟨rfl, g1⟩; have l1_0 : w.heap.size < w1.heap.size := Nat.lt_of_lt_of_le (by first | (simp; done) | (simp; omega) | omega) g1.2; have h1_0_0 : w1.cell? ⟨w.heap.size, 0, none⟩ = some (.int .i64 (f.fractionBits : Int)) := (by rw [g1.1.cell (by first | (simp; done) | (simp; omega) | omega)]; go_simp); have h1_0_1 : w1.cell? ⟨w.heap.size, 1, none⟩ = some (.int .i64 (f.exponentBits : Int)) := (by rw [g1.1.cell (by first | (simp; done) | (simp; omega) | omega)]; go_simp))
    | (go_at_call_of 58 (Value.int IntKind.u64 (b : Int)); refine (U2.out _).mono ?_; rintro e w2 ⟨rfl, g2⟩; have l2_0 : w.heap.size < w2.heap.size := Nat.lt_of_lt_of_le (by first | (simp; done) | (simp; omega) | omega) g2.2; have h2_0_0 : w2.cell? ⟨w.heap.size, 0, none⟩ = some (.int .i64 (f.fractionBits : Int)) := (by rw [g2.1.cell (by first | (simp; done) | (simp; omega) | omega)]; go_simp); have h2_0_1 : w2.cell? ⟨w.heap.size, 1, none⟩ = some (.int .i64 (f.exponentBits : Int)) := (by rw [g2.1.cell (by first | (simp; done) | (simp; omega) | omega)]; go_simp)))
  go_wp2_with fail
  go_region_held3 (fun w' => w'.cell? ⟨w.heap.size, 0, none⟩ = some (.int .i64 (f.fractionBits : Int)) ∧ w'.cell? ⟨w.heap.size, 1, none⟩ = some (.int .i64 (f.exponentBits : Int))) (go_keep)
    (first
    | (go_at_call_of 71 (Value.int IntKind.u64 (A : Int)); refine (K1.out _).mono ?_; rintro e w3 ⟨rfl, g3⟩; have l3_0 : w.heap.size < w3.heap.size := Nat.lt_of_lt_of_le (by first | (simp; done) | (simp; omega) | omega) g3.2; have h3_0_0 : w3.cell? ⟨w.heap.size, 0, none⟩ = some (.int .i64 (f.fractionBits : Int)) := (by rw [g3.1.cell (by first | (simp; done) | (simp; omega) | omega)]; go_simp); have h3_0_1 : w3.cell? ⟨w.heap.size, 1, none⟩ = some (.int .i64 (f.exponentBits : Int)) := (by rw [g3.1.cell (by first | (simp; done) | (simp; omega) | omega)]; go_simp))
    | (go_at_call_of 71 (Value.int IntKind.u64 (D : Int)); refine (K2.out _).mono ?_; rintro e w4 ⟨rfl, g4⟩; have l4_0 : w.heap.size < w4.heap.size := Nat.lt_of_lt_of_le (by first | (simp; done) | (simp; omega) | omega) g4.2; have h4_0_0 : w4.cell? ⟨w.heap.size, 0, none⟩ = some (.int .i64 (f.fractionBits : Int)) := (by rw [g4.1.cell (by first | (simp; done) | (simp; omega) | omega)]; go_simp); have h4_0_1 : w4.cell? ⟨w.heap.size, 1, none⟩ = some (.int .i64 (f.exponentBits : Int)) := (by rw [g4.1.cell (by first | (simp; done) | (simp; omega) | omega)]; go_simp)))
  go_wp2_with fail
  refine (N1.out _).mono ?_
  rintro e w5 ⟨rfl, g5⟩
  have l5_0 : w.heap.size < w5.heap.size := Nat.lt_of_lt_of_le (by first | (simp; done) | (simp; omega) | omega) g5.2
  have h5_0_0 : w5.cell? ⟨w.heap.size, 0, none⟩ = some (.int .i64 (f.fractionBits : Int)) := (by rw [g5.1.cell (by first | (simp; done) | (simp; omega) | omega)]; go_simp)
  have h5_0_1 : w5.cell? ⟨w.heap.size, 1, none⟩ = some (.int .i64 (f.exponentBits : Int)) := (by rw [g5.1.cell (by first | (simp; done) | (simp; omega) | omega)]; go_simp)
  go_wp2_with fail
  refine (N2.out _).mono ?_
  rintro e w6 ⟨rfl, g6⟩
  have l6_0 : w.heap.size < w6.heap.size := Nat.lt_of_lt_of_le (by first | (simp; done) | (simp; omega) | omega) g6.2
  have h6_0_0 : w6.cell? ⟨w.heap.size, 0, none⟩ = some (.int .i64 (f.fractionBits : Int)) := (by rw [g6.1.cell (by first | (simp; done) | (simp; omega) | omega)]; go_simp)
  have h6_0_1 : w6.cell? ⟨w.heap.size, 1, none⟩ = some (.int .i64 (f.exponentBits : Int)) := (by rw [g6.1.cell (by first | (simp; done) | (simp; omega) | omega)]; go_simp)
  go_wp2
  go_ret
  go_light
  refine ⟨rfl, ?_⟩
  repeat (first | exact Grew.refl _ | refine Grew.drew ?_ | refine Grew.drewN ?_ _ | refine Grew.alloc ?_ _ | refine Grew.set ?_ (by first | (simp; done) | (simp; omega) | omega) _ | refine Grew.trans ?_ g1 | refine Grew.trans ?_ g2 | refine Grew.trans ?_ g3 | refine Grew.trans ?_ g4 | refine Grew.trans ?_ g5 | refine Grew.trans ?_ g6 | assumption)
set_option maxRecDepth 100000 in
set_option maxHeartbeats 2000000 in
theorem FCmp_0n1 {f : Ieee.Format} (a b A D : Nat) (x y : Int) (c : Bool) (w : World) (hc : (x == y) = true)
    (U1 : Hid (∀ w : World, Calls Tryd.prog 58 #[.agg #[.int .i64 (f.fractionBits : Int), .int .i64 (f.exponentBits : Int)], .int .u64 (a : Int)] w fun e w' => e = .returned (.int .u64 (A : Int)) ∧ Grew w w'))
    (U2 : Hid (∀ w : World, Calls Tryd.prog 58 #[.agg #[.int .i64 (f.fractionBits : Int), .int .i64 (f.exponentBits : Int)], .int .u64 (b : Int)] w fun e w' => e = .returned (.int .u64 (D : Int)) ∧ Grew w w'))
    (K1 : Hid (∀ w : World, Calls Tryd.prog 71 #[.agg #[.int .i64 (f.fractionBits : Int), .int .i64 (f.exponentBits : Int)], .int .u64 (A : Int)] w fun e w' => e = .returned (.int .i64 x) ∧ Grew w w'))
    (K2 : Hid (∀ w : World, Calls Tryd.prog 71 #[.agg #[.int .i64 (f.fractionBits : Int), .int .i64 (f.exponentBits : Int)], .int .u64 (D : Int)] w fun e w' => e = .returned (.int .i64 y) ∧ Grew w w'))
    (N1 : Hid (∀ w : World, Calls Tryd.prog 61 #[.agg #[.int .i64 (f.fractionBits : Int), .int .i64 (f.exponentBits : Int)], .int .u64 (A : Int)] w fun e w' => e = .returned (.bool false) ∧ Grew w w'))
    (N2 : Hid (∀ w : World, Calls Tryd.prog 61 #[.agg #[.int .i64 (f.fractionBits : Int), .int .i64 (f.exponentBits : Int)], .int .u64 (D : Int)] w fun e w' => e = .returned (.bool false) ∧ Grew w w')) :
    Calls Tryd.prog 36 #[fv f, .int .i64 0, .int .u64 (a : Int), .int .u64 (b : Int)] w fun e w' => e = .returned (.int .u64 1) ∧ Grew w w' := by
  unfold fv
  go_enter Tryd.func36, Tryd.ntmps36
  go_wp2_with fail
  go_region_held3 (fun w' => w'.cell? ⟨w.heap.size, 0, none⟩ = some (.int .i64 (f.fractionBits : Int)) ∧ w'.cell? ⟨w.heap.size, 1, none⟩ = some (.int .i64 (f.exponentBits : Int))) (go_keep)
    (first
    | (go_at_call_of 58 (Value.int IntKind.u64 (a : Int)); refine (U1.out _).mono ?_; rintro e w1 ⟨rfl, g1⟩; have l1_0 : w.heap.size < w1.heap.size := Nat.lt_of_lt_of_le (by first | (simp; done) | (simp; omega) | omega) g1.2; have h1_0_0 : w1.cell? ⟨w.heap.size, 0, none⟩ = some (.int .i64 (f.fractionBits : Int)) := (by rw [g1.1.cell (by first | (simp; done) | (simp; omega) | omega)]; go_simp); have h1_0_1 : w1.cell? ⟨w.heap.size, 1, none⟩ = some (.int .i64 (f.exponentBits : Int)) := (by rw [g1.1.cell (by first | (simp; done) | (simp; omega) | omega)]; go_simp))
    | (go_at_call_of 58 (Value.int IntKind.u64 (b : Int)); refine (U2.out _).mono ?_; rintro e w2 ⟨rfl, g2⟩; have l2_0 : w.heap.size < w2.heap.size := Nat.lt_of_lt_of_le (by first | (simp; done) | (simp; omega) | omega) g2.2; have h2_0_0 : w2.cell? ⟨w.heap.size, 0, none⟩ = some (.int .i64 (f.fractionBits : Int)) := (by rw [g2.1.cell (by first | (simp; done) | (simp; omega) | omega)]; go_simp); have h2_0_1 : w2.cell? ⟨w.heap.size, 1, none⟩ = some (.int .i64 (f.exponentBits : Int)) := (by rw [g2.1.cell (by first | (simp; done) | (simp; omega) | omega)]; go_simp)))
  go_wp2_with fail
  go_region_held3 (fun w' => w'.cell? ⟨w.heap.size, 0, none⟩ = some (.int .i64 (f.fractionBits : Int)) ∧ w'.cell? ⟨w.heap.size, 1, none⟩ = some (.int .i64 (f.exponentBits : Int))) (go_keep)
    (first
    | (go_at_call_of 71 (Value.int IntKind.u64 (A : Int)); refine (K1.out _).mono ?_; rintro e w3 ⟨rfl, g3⟩; have l3_0 : w.heap.size < w3.heap.size := Nat.lt_of_lt_of_le (by first | (simp; done) | (simp; omega) | omega) g3.2; have h3_0_0 : w3.cell? ⟨w.heap.size, 0, none⟩ = some (.int .i64 (f.fractionBits : Int)) := (by rw [g3.1.cell (by first | (simp; done) | (simp; omega) | omega)]; go_simp); have h3_0_1 : w3.cell? ⟨w.heap.size, 1, none⟩ = some (.int .i64 (f.exponentBits : Int)) := (by rw [g3.1.cell (by first | (simp; done) | (simp; omega) | omega)]; go_simp))
    | (go_at_call_of 71 (Value.int IntKind.u64 (D : Int)); refine (K2.out _).mono ?_; rintro e w4 ⟨rfl, g4⟩; have l4_0 : w.heap.size < w4.heap.size := Nat.lt_of_lt_of_le (by first | (simp; done) | (simp; omega) | omega) g4.2; have h4_0_0 : w4.cell? ⟨w.heap.size, 0, none⟩ = some (.int .i64 (f.fractionBits : Int)) := (by rw [g4.1.cell (by first | (simp; done) | (simp; omega) | omega)]; go_simp); have h4_0_1 : w4.cell? ⟨w.heap.size, 1, none⟩ = some (.int .i64 (f.exponentBits : Int)) := (by rw [g4.1.cell (by first | (simp; done) | (simp; omega) | omega)]; go_simp)))
  go_wp2_with fail
  refine (N1.out _).mono ?_
  rintro e w5 ⟨rfl, g5⟩
  have l5_0 : w.heap.size < w5.heap.size := Nat.lt_of_lt_of_le (by first | (simp; done) | (simp; omega) | omega) g5.2
  have h5_0_0 : w5.cell? ⟨w.heap.size, 0, none⟩ = some (.int .i64 (f.fractionBits : Int)) := (by rw [g5.1.cell (by first | (simp; done) | (simp; omega) | omega)]; go_simp)
  have h5_0_1 : w5.cell? ⟨w.heap.size, 1, none⟩ = some (.int .i64 (f.exponentBits : Int)) := (by rw [g5.1.cell (by first | (simp; done) | (simp; omega) | omega)]; go_simp)
  go_wp2_with fail
  refine (N2.out _).mono ?_
  rintro e w6 ⟨rfl, g6⟩
  have l6_0 : w.heap.size < w6.heap.size := Nat.lt_of_lt_of_le (by first | (simp; done) | (simp; omega) | omega) g6.2
  have h6_0_0 : w6.cell? ⟨w.heap.size, 0, none⟩ = some (.int .i64 (f.fractionBits : Int)) := (by rw [g6.1.cell (by first | (simp; done) | (simp; omega) | omega)]; go_simp)
  have h6_0_1 : w6.cell? ⟨w.heap.size, 1, none⟩ = some (.int .i64 (f.exponentBits : Int)) := (by rw [g6.1.cell (by first | (simp; done) | (simp; omega) | omega)]; go_simp)
  go_wp2
  go_ret
  go_light
  refine ⟨rfl, ?_⟩
  repeat (first | exact Grew.refl _ | refine Grew.drew ?_ | refine Grew.drewN ?_ _ | refine Grew.alloc ?_ _ | refine Grew.set ?_ (by first | (simp; done) | (simp; omega) | omega) _ | refine Grew.trans ?_ g1 | refine Grew.trans ?_ g2 | refine Grew.trans ?_ g3 | refine Grew.trans ?_ g4 | refine Grew.trans ?_ g5 | refine Grew.trans ?_ g6 | assumption)
set_option maxRecDepth 100000 in
set_option maxHeartbeats 2000000 in
theorem FCmp_0n0 {f : Ieee.Format} (a b A D : Nat) (x y : Int) (c : Bool) (w : World) (hc : (x == y) = false)
    (U1 : Hid (∀ w : World, Calls Tryd.prog 58 #[.agg #[.int .i64 (f.fractionBits : Int), .int .i64 (f.exponentBits : Int)], .int .u64 (a : Int)] w fun e w' => e = .returned (.int .u64 (A : Int)) ∧ Grew w w'))
    (U2 : Hid (∀ w : World, Calls Tryd.prog 58 #[.agg #[.int .i64 (f.fractionBits : Int), .int .i64 (f.exponentBits : Int)], .int .u64 (b : Int)] w fun e w' => e = .returned (.int .u64 (D : Int)) ∧ Grew w w'))
    (K1 : Hid (∀ w : World, Calls Tryd.prog 71 #[.agg #[.int .i64 (f.fractionBits : Int), .int .i64 (f.exponentBits : Int)], .int .u64 (A : Int)] w fun e w' => e = .returned (.int .i64 x) ∧ Grew w w'))
    (K2 : Hid (∀ w : World, Calls Tryd.prog 71 #[.agg #[.int .i64 (f.fractionBits : Int), .int .i64 (f.exponentBits : Int)], .int .u64 (D : Int)] w fun e w' => e = .returned (.int .i64 y) ∧ Grew w w'))
    (N1 : Hid (∀ w : World, Calls Tryd.prog 61 #[.agg #[.int .i64 (f.fractionBits : Int), .int .i64 (f.exponentBits : Int)], .int .u64 (A : Int)] w fun e w' => e = .returned (.bool false) ∧ Grew w w'))
    (N2 : Hid (∀ w : World, Calls Tryd.prog 61 #[.agg #[.int .i64 (f.fractionBits : Int), .int .i64 (f.exponentBits : Int)], .int .u64 (D : Int)] w fun e w' => e = .returned (.bool false) ∧ Grew w w')) :
    Calls Tryd.prog 36 #[fv f, .int .i64 0, .int .u64 (a : Int), .int .u64 (b : Int)] w fun e w' => e = .returned (.int .u64 0) ∧ Grew w w' := by
  unfold fv
  go_enter Tryd.func36, Tryd.ntmps36
  go_wp2_with fail
  go_region_held3 (fun w' => w'.cell? ⟨w.heap.size, 0, none⟩ = some (.int .i64 (f.fractionBits : Int)) ∧ w'.cell? ⟨w.heap.size, 1, none⟩ = some (.int .i64 (f.exponentBits : Int))) (go_keep)
    (first
    | (go_at_call_of 58 (Value.int IntKind.u64 (a : Int)); refine (U1.out _).mono ?_; rintro e w1 ⟨rfl, g1⟩; have l1_0 : w.heap.size < w1.heap.size := Nat.lt_of_lt_of_le (by first | (simp; done) | (simp; omega) | omega) g1.2; have h1_0_0 : w1.cell? ⟨w.heap.size, 0, none⟩ = some (.int .i64 (f.fractionBits : Int)) := (by rw [g1.1.cell (by first | (simp; done) | (simp; omega) | omega)]; go_simp); have h1_0_1 : w1.cell? ⟨w.heap.size, 1, none⟩ = some (.int .i64 (f.exponentBits : Int)) := (by rw [g1.1.cell (by first | (simp; done) | (simp; omega) | omega)]; go_simp))
    | (go_at_call_of 58 (Value.int IntKind.u64 (b : Int)); refine (U2.out _).mono ?_; rintro e w2 ⟨rfl, g2⟩; have l2_0 : w.heap.size < w2.heap.size := Nat.lt_of_lt_of_le (by first | (simp; done) | (simp; omega) | omega) g2.2; have h2_0_0 : w2.cell? ⟨w.heap.size, 0, none⟩ = some (.int .i64 (f.fractionBits : Int)) := (by rw [g2.1.cell (by first | (simp; done) | (simp; omega) | omega)]; go_simp); have h2_0_1 : w2.cell? ⟨w.heap.size, 1, none⟩ = some (.int .i64 (f.exponentBits : Int)) := (by rw [g2.1.cell (by first | (simp; done) | (simp; omega) | omega)]; go_simp)))
  go_wp2_with fail
  go_region_held3 (fun w' => w'.cell? ⟨w.heap.size, 0, none⟩ = some (.int .i64 (f.fractionBits : Int)) ∧ w'.cell? ⟨w.heap.size, 1, none⟩ = some (.int .i64 (f.exponentBits : Int))) (go_keep)
    (first
    | (go_at_call_of 71 (Value.int IntKind.u64 (A : Int)); refine (K1.out _).mono ?_; rintro e w3 ⟨rfl, g3⟩; have l3_0 : w.heap.size < w3.heap.size := Nat.lt_of_lt_of_le (by first | (simp; done) | (simp; omega) | omega) g3.2; have h3_0_0 : w3.cell? ⟨w.heap.size, 0, none⟩ = some (.int .i64 (f.fractionBits : Int)) := (by rw [g3.1.cell (by first | (simp; done) | (simp; omega) | omega)]; go_simp); have h3_0_1 : w3.cell? ⟨w.heap.size, 1, none⟩ = some (.int .i64 (f.exponentBits : Int)) := (by rw [g3.1.cell (by first | (simp; done) | (simp; omega) | omega)]; go_simp))
    | (go_at_call_of 71 (Value.int IntKind.u64 (D : Int)); refine (K2.out _).mono ?_; rintro e w4 ⟨rfl, g4⟩; have l4_0 : w.heap.size < w4.heap.size := Nat.lt_of_lt_of_le (by first | (simp; done) | (simp; omega) | omega) g4.2; have h4_0_0 : w4.cell? ⟨w.heap.size, 0, none⟩ = some (.int .i64 (f.fractionBits : Int)) := (by rw [g4.1.cell (by first | (simp; done) | (simp; omega) | omega)]; go_simp); have h4_0_1 : w4.cell? ⟨w.heap.size, 1, none⟩ = some (.int .i64 (f.exponentBits : Int)) := (by rw [g4.1.cell (by first | (simp; done) | (simp; omega) | omega)]; go_simp)))
  go_wp2_with fail
  refine (N1.out _).mono ?_
  rintro e w5 ⟨rfl, g5⟩
  have l5_0 : w.heap.size < w5.heap.size := Nat.lt_of_lt_of_le (by first | (simp; done) | (simp; omega) | omega) g5.2
  have h5_0_0 : w5.cell? ⟨w.heap.size, 0, none⟩ = some (.int .i64 (f.fractionBits : Int)) := (by rw [g5.1.cell (by first | (simp; done) | (simp; omega) | omega)]; go_simp)
  have h5_0_1 : w5.cell? ⟨w.heap.size, 1, none⟩ = some (.int .i64 (f.exponentBits : Int)) := (by rw [g5.1.cell (by first | (simp; done) | (simp; omega) | omega)]; go_simp)
  go_wp2_with fail
  refine (N2.out _).mono ?_
  rintro e w6 ⟨rfl, g6⟩
  have l6_0 : w.heap.size < w6.heap.size := Nat.lt_of_lt_of_le (by first | (simp; done) | (simp; omega) | omega) g6.2
  have h6_0_0 : w6.cell? ⟨w.heap.size, 0, none⟩ = some (.int .i64 (f.fractionBits : Int)) := (by rw [g6.1.cell (by first | (simp; done) | (simp; omega) | omega)]; go_simp)
  have h6_0_1 : w6.cell? ⟨w.heap.size, 1, none⟩ = some (.int .i64 (f.exponentBits : Int)) := (by rw [g6.1.cell (by first | (simp; done) | (simp; omega) | omega)]; go_simp)
  go_wp2
  go_ret
  go_light
  refine ⟨rfl, ?_⟩
  repeat (first | exact Grew.refl _ | refine Grew.drew ?_ | refine Grew.drewN ?_ _ | refine Grew.alloc ?_ _ | refine Grew.set ?_ (by first | (simp; done) | (simp; omega) | omega) _ | refine Grew.trans ?_ g1 | refine Grew.trans ?_ g2 | refine Grew.trans ?_ g3 | refine Grew.trans ?_ g4 | refine Grew.trans ?_ g5 | refine Grew.trans ?_ g6 | assumption)
set_option maxRecDepth 100000 in
set_option maxHeartbeats 2000000 in
theorem FCmp_1a {f : Ieee.Format} (a b A D : Nat) (x y : Int) (c : Bool) (w : World)
    (U1 : Hid (∀ w : World, Calls Tryd.prog 58 #[.agg #[.int .i64 (f.fractionBits : Int), .int .i64 (f.exponentBits : Int)], .int .u64 (a : Int)] w fun e w' => e = .returned (.int .u64 (A : Int)) ∧ Grew w w'))
    (U2 : Hid (∀ w : World, Calls Tryd.prog 58 #[.agg #[.int .i64 (f.fractionBits : Int), .int .i64 (f.exponentBits : Int)], .int .u64 (b : Int)] w fun e w' => e = .returned (.int .u64 (D : Int)) ∧ Grew w w'))
    (K1 : Hid (∀ w : World, Calls Tryd.prog 71 #[.agg #[.int .i64 (f.fractionBits : Int), .int .i64 (f.exponentBits : Int)], .int .u64 (A : Int)] w fun e w' => e = .returned (.int .i64 x) ∧ Grew w w'))
    (K2 : Hid (∀ w : World, Calls Tryd.prog 71 #[.agg #[.int .i64 (f.fractionBits : Int), .int .i64 (f.exponentBits : Int)], .int .u64 (D : Int)] w fun e w' => e = .returned (.int .i64 y) ∧ Grew w w'))
    (N1 : Hid (∀ w : World, Calls Tryd.prog 61 #[.agg #[.int .i64 (f.fractionBits : Int), .int .i64 (f.exponentBits : Int)], .int .u64 (A : Int)] w fun e w' => e = .returned (.bool true) ∧ Grew w w')) :
    Calls Tryd.prog 36 #[fv f, .int .i64 1, .int .u64 (a : Int), .int .u64 (b : Int)] w fun e w' => e = .returned (.int .u64 1) ∧ Grew w w' := by
  unfold fv
  go_enter Tryd.func36, Tryd.ntmps36
  go_wp2_with fail
  go_region_held3 (fun w' => w'.cell? ⟨w.heap.size, 0, none⟩ = some (.int .i64 (f.fractionBits : Int)) ∧ w'.cell? ⟨w.heap.size, 1, none⟩ = some (.int .i64 (f.exponentBits : Int))) (go_keep)
    (first
    | (go_at_call_of 58 (Value.int IntKind.u64 (a : Int)); refine (U1.out _).mono ?_; rintro e w1 ⟨rfl, g1⟩; have l1_0 : w.heap.size < w1.heap.size := Nat.lt_of_lt_of_le (by first | (simp; done) | (simp; omega) | omega) g1.2; have h1_0_0 : w1.cell? ⟨w.heap.size, 0, none⟩ = some (.int .i64 (f.fractionBits : Int)) := (by rw [g1.1.cell (by first | (simp; done) | (simp; omega) | omega)]; go_simp); have h1_0_1 : w1.cell? ⟨w.heap.size, 1, none⟩ = some (.int .i64 (f.exponentBits : Int)) := (by rw [g1.1.cell (by first | (simp; done) | (simp; omega) | omega)]; go_simp))
    | (go_at_call_of 58 (Value.int IntKind.u64 (b : Int)); refine (U2.out _).mono ?_; rintro e w2 ⟨rfl, g2⟩; have l2_0 : w.heap.size < w2.heap.size := Nat.lt_of_lt_of_le (by first | (simp; done) | (simp; omega) | omega) g2.2; have h2_0_0 : w2.cell? ⟨w.heap.size, 0, none⟩ = some (.int .i64 (f.fractionBits : Int)) := (by rw [g2.1.cell (by first | (simp; done) | (simp; omega) | omega)]; go_simp); have h2_0_1 : w2.cell? ⟨w.heap.size, 1, none⟩ = some (.int .i64 (f.exponentBits : Int)) := (by rw [g2.1.cell (by first | (simp; done) | (simp; omega) | omega)]; go_simp)))
  go_wp2_with fail
  go_region_held3 (fun w' => w'.cell? ⟨w.heap.size, 0, none⟩ = some (.int .i64 (f.fractionBits : Int)) ∧ w'.cell? ⟨w.heap.size, 1, none⟩ = some (.int .i64 (f.exponentBits : Int))) (go_keep)
    (first
    | (go_at_call_of 71 (Value.int IntKind.u64 (A : Int)); refine (K1.out _).mono ?_; rintro e w3 ⟨rfl, g3⟩; have l3_0 : w.heap.size < w3.heap.size := Nat.lt_of_lt_of_le (by first | (simp; done) | (simp; omega) | omega) g3.2; have h3_0_0 : w3.cell? ⟨w.heap.size, 0, none⟩ = some (.int .i64 (f.fractionBits : Int)) := (by rw [g3.1.cell (by first | (simp; done) | (simp; omega) | omega)]; go_simp); have h3_0_1 : w3.cell? ⟨w.heap.size, 1, none⟩ = some (.int .i64 (f.exponentBits : Int)) := (by rw [g3.1.cell (by first | (simp; done) | (simp; omega) | omega)]; go_simp))
    | (go_at_call_of 71 (Value.int IntKind.u64 (D : Int)); refine (K2.out _).mono ?_; rintro e w4 ⟨rfl, g4⟩; have l4_0 : w.heap.size < w4.heap.size := Nat.lt_of_lt_of_le (by first | (simp; done) | (simp; omega) | omega) g4.2; have h4_0_0 : w4.cell? ⟨w.heap.size, 0, none⟩ = some (.int .i64 (f.fractionBits : Int)) := (by rw [g4.1.cell (by first | (simp; done) | (simp; omega) | omega)]; go_simp); have h4_0_1 : w4.cell? ⟨w.heap.size, 1, none⟩ = some (.int .i64 (f.exponentBits : Int)) := (by rw [g4.1.cell (by first | (simp; done) | (simp; omega) | omega)]; go_simp)))
  go_wp2_with fail
  refine (N1.out _).mono ?_
  rintro e w5 ⟨rfl, g5⟩
  have l5_0 : w.heap.size < w5.heap.size := Nat.lt_of_lt_of_le (by first | (simp; done) | (simp; omega) | omega) g5.2
  have h5_0_0 : w5.cell? ⟨w.heap.size, 0, none⟩ = some (.int .i64 (f.fractionBits : Int)) := (by rw [g5.1.cell (by first | (simp; done) | (simp; omega) | omega)]; go_simp)
  have h5_0_1 : w5.cell? ⟨w.heap.size, 1, none⟩ = some (.int .i64 (f.exponentBits : Int)) := (by rw [g5.1.cell (by first | (simp; done) | (simp; omega) | omega)]; go_simp)
  go_wp2
  go_ret
  go_light
  refine ⟨rfl, ?_⟩
  repeat (first | exact Grew.refl _ | refine Grew.drew ?_ | refine Grew.drewN ?_ _ | refine Grew.alloc ?_ _ | refine Grew.set ?_ (by first | (simp; done) | (simp; omega) | omega) _ | refine Grew.trans ?_ g1 | refine Grew.trans ?_ g2 | refine Grew.trans ?_ g3 | refine Grew.trans ?_ g4 | refine Grew.trans ?_ g5 | assumption)
set_option maxRecDepth 100000 in
set_option maxHeartbeats 2000000 in
theorem FCmp_1b {f : Ieee.Format} (a b A D : Nat) (x y : Int) (c : Bool) (w : World)
    (U1 : Hid (∀ w : World, Calls Tryd.prog 58 #[.agg #[.int .i64 (f.fractionBits : Int), .int .i64 (f.exponentBits : Int)], .int .u64 (a : Int)] w fun e w' => e = .returned (.int .u64 (A : Int)) ∧ Grew w w'))
    (U2 : Hid (∀ w : World, Calls Tryd.prog 58 #[.agg #[.int .i64 (f.fractionBits : Int), .int .i64 (f.exponentBits : Int)], .int .u64 (b : Int)] w fun e w' => e = .returned (.int .u64 (D : Int)) ∧ Grew w w'))
    (K1 : Hid (∀ w : World, Calls Tryd.prog 71 #[.agg #[.int .i64 (f.fractionBits : Int), .int .i64 (f.exponentBits : Int)], .int .u64 (A : Int)] w fun e w' => e = .returned (.int .i64 x) ∧ Grew w w'))
    (K2 : Hid (∀ w : World, Calls Tryd.prog 71 #[.agg #[.int .i64 (f.fractionBits : Int), .int .i64 (f.exponentBits : Int)], .int .u64 (D : Int)] w fun e w' => e = .returned (.int .i64 y) ∧ Grew w w'))
    (N1 : Hid (∀ w : World, Calls Tryd.prog 61 #[.agg #[.int .i64 (f.fractionBits : Int), .int .i64 (f.exponentBits : Int)], .int .u64 (A : Int)] w fun e w' => e = .returned (.bool false) ∧ Grew w w'))
    (N2 : Hid (∀ w : World, Calls Tryd.prog 61 #[.agg #[.int .i64 (f.fractionBits : Int), .int .i64 (f.exponentBits : Int)], .int .u64 (D : Int)] w fun e w' => e = .returned (.bool true) ∧ Grew w w')) :
    Calls Tryd.prog 36 #[fv f, .int .i64 1, .int .u64 (a : Int), .int .u64 (b : Int)] w fun e w' => e = .returned (.int .u64 1) ∧ Grew w w' := by
  unfold fv
  go_enter Tryd.func36, Tryd.ntmps36
  go_wp2_with fail
  go_region_held3 (fun w' => w'.cell? ⟨w.heap.size, 0, none⟩ = some (.int .i64 (f.fractionBits : Int)) ∧ w'.cell? ⟨w.heap.size, 1, none⟩ = some (.int .i64 (f.exponentBits : Int))) (go_keep)
    (first
    | (go_at_call_of 58 (Value.int IntKind.u64 (a : Int)); refine (U1.out _).mono ?_; rintro e w1 ⟨rfl, g1⟩; have l1_0 : w.heap.size < w1.heap.size := Nat.lt_of_lt_of_le (by first | (simp; done) | (simp; omega) | omega) g1.2; have h1_0_0 : w1.cell? ⟨w.heap.size, 0, none⟩ = some (.int .i64 (f.fractionBits : Int)) := (by rw [g1.1.cell (by first | (simp; done) | (simp; omega) | omega)]; go_simp); have h1_0_1 : w1.cell? ⟨w.heap.size, 1, none⟩ = some (.int .i64 (f.exponentBits : Int)) := (by rw [g1.1.cell (by first | (simp; done) | (simp; omega) | omega)]; go_simp))
    | (go_at_call_of 58 (Value.int IntKind.u64 (b : Int)); refine (U2.out _).mono ?_; rintro e w2 ⟨rfl, g2⟩; have l2_0 : w.heap.size < w2.heap.size := Nat.lt_of_lt_of_le (by first | (simp; done) | (simp; omega) | omega) g2.2; have h2_0_0 : w2.cell? ⟨w.heap.size, 0, none⟩ = some (.int .i64 (f.fractionBits : Int)) := (by rw [g2.1.cell (by first | (simp; done) | (simp; omega) | omega)]; go_simp); have h2_0_1 : w2.cell? ⟨w.heap.size, 1, none⟩ = some (.int .i64 (f.exponentBits : Int)) := (by rw [g2.1.cell (by first | (simp; done) | (simp; omega) | omega)]; go_simp)))
  go_wp2_with fail
  go_region_held3 (fun w' => w'.cell? ⟨w.heap.size, 0, none⟩ = some (.int .i64 (f.fractionBits : Int)) ∧ w'.cell? ⟨w.heap.size, 1, none⟩ = some (.int .i64 (f.exponentBits : Int))) (go_keep)
    (first
    | (go_at_call_of 71 (Value.int IntKind.u64 (A : Int)); refine (K1.out _).mono ?_; rintro e w3 ⟨rfl, g3⟩; have l3_0 : w.heap.size < w3.heap.size := Nat.lt_of_lt_of_le (by first | (simp; done) | (simp; omega) | omega) g3.2; have h3_0_0 : w3.cell? ⟨w.heap.size, 0, none⟩ = some (.int .i64 (f.fractionBits : Int)) := (by rw [g3.1.cell (by first | (simp; done) | (simp; omega) | omega)]; go_simp); have h3_0_1 : w3.cell? ⟨w.heap.size, 1, none⟩ = some (.int .i64 (f.exponentBits : Int)) := (by rw [g3.1.cell (by first | (simp; done) | (simp; omega) | omega)]; go_simp))
    | (go_at_call_of 71 (Value.int IntKind.u64 (D : Int)); refine (K2.out _).mono ?_; rintro e w4 ⟨rfl, g4⟩; have l4_0 : w.heap.size < w4.heap.size := Nat.lt_of_lt_of_le (by first | (simp; done) | (simp; omega) | omega) g4.2; have h4_0_0 : w4.cell? ⟨w.heap.size, 0, none⟩ = some (.int .i64 (f.fractionBits : Int)) := (by rw [g4.1.cell (by first | (simp; done) | (simp; omega) | omega)]; go_simp); have h4_0_1 : w4.cell? ⟨w.heap.size, 1, none⟩ = some (.int .i64 (f.exponentBits : Int)) := (by rw [g4.1.cell (by first | (simp; done) | (simp; omega) | omega)]; go_simp)))
  go_wp2_with fail
  refine (N1.out _).mono ?_
  rintro e w5 ⟨rfl, g5⟩
  have l5_0 : w.heap.size < w5.heap.size := Nat.lt_of_lt_of_le (by first | (simp; done) | (simp; omega) | omega) g5.2
  have h5_0_0 : w5.cell? ⟨w.heap.size, 0, none⟩ = some (.int .i64 (f.fractionBits : Int)) := (by rw [g5.1.cell (by first | (simp; done) | (simp; omega) | omega)]; go_simp)
  have h5_0_1 : w5.cell? ⟨w.heap.size, 1, none⟩ = some (.int .i64 (f.exponentBits : Int)) := (by rw [g5.1.cell (by first | (simp; done) | (simp; omega) | omega)]; go_simp)
  go_wp2_with fail
  refine (N2.out _).mono ?_
  rintro e w6 ⟨rfl, g6⟩
  have l6_0 : w.heap.size < w6.heap.size := Nat.lt_of_lt_of_le (by first | (simp; done) | (simp; omega) | omega) g6.2
  have h6_0_0 : w6.cell? ⟨w.heap.size, 0, none⟩ = some (.int .i64 (f.fractionBits : Int)) := (by rw [g6.1.cell (by first | (simp; done) | (simp; omega) | omega)]; go_simp)
  have h6_0_1 : w6.cell? ⟨w.heap.size, 1, none⟩ = some (.int .i64 (f.exponentBits : Int)) := (by rw [g6.1.cell (by first | (simp; done) | (simp; omega) | omega)]; go_simp)
  go_wp2
  go_ret
  go_light
  refine ⟨rfl, ?_⟩
  repeat (first | exact Grew.refl _ | refine Grew.drew ?_ | refine Grew.drewN ?_ _ | refine Grew.alloc ?_ _ | refine Grew.set ?_ (by first | (simp; done) | (simp; omega) | omega) _ | refine Grew.trans ?_ g1 | refine Grew.trans ?_ g2 | refine Grew.trans ?_ g3 | refine Grew.trans ?_ g4 | refine Grew.trans ?_ g5 | refine Grew.trans ?_ g6 | assumption)
set_option maxRecDepth 100000 in
set_option maxHeartbeats 2000000 in
theorem FCmp_1n1 {f : Ieee.Format} (a b A D : Nat) (x y : Int) (c : Bool) (w : World) (hc : (x != y) = true)
    (U1 : Hid (∀ w : World, Calls Tryd.prog 58 #[.agg #[.int .i64 (f.fractionBits : Int), .int .i64 (f.exponentBits : Int)], .int .u64 (a : Int)] w fun e w' => e = .returned (.int .u64 (A : Int)) ∧ Grew w w'))
    (U2 : Hid (∀ w : World, Calls Tryd.prog 58 #[.agg #[.int .i64 (f.fractionBits : Int), .int .i64 (f.exponentBits : Int)], .int .u64 (b : Int)] w fun e w' => e = .returned (.int .u64 (D : Int)) ∧ Grew w w'))
    (K1 : Hid (∀ w : World, Calls Tryd.prog 71 #[.agg #[.int .i64 (f.fractionBits : Int), .int .i64 (f.exponentBits : Int)], .int .u64 (A : Int)] w fun e w' => e = .returned (.int .i64 x) ∧ Grew w w'))
    (K2 : Hid (∀ w : World, Calls Tryd.prog 71 #[.agg #[.int .i64 (f.fractionBits : Int), .int .i64 (f.exponentBits : Int)], .int .u64 (D : Int)] w fun e w' => e = .returned (.int .i64 y) ∧ Grew w w'))
    (N1 : Hid (∀ w : World, Calls Tryd.prog 61 #[.agg #[.int .i64 (f.fractionBits : Int), .int .i64 (f.exponentBits : Int)], .int .u64 (A : Int)] w fun e w' => e = .returned (.bool false) ∧ Grew w w'))
    (N2 : Hid (∀ w : World, Calls Tryd.prog 61 #[.agg #[.int .i64 (f.fractionBits : Int), .int .i64 (f.exponentBits : Int)], .int .u64 (D : Int)] w fun e w' => e = .returned (.bool false) ∧ Grew w w')) :
    Calls Tryd.prog 36 #[fv f, .int .i64 1, .int .u64 (a : Int), .int .u64 (b : Int)] w fun e w' => e = .returned (.int .u64 1) ∧ Grew w w' := by
  unfold fv
  go_enter Tryd.func36, Tryd.ntmps36
  go_wp2_with fail
  go_region_held3 (fun w' => w'.cell? ⟨w.heap.size, 0, none⟩ = some (.int .i64 (f.fractionBits : Int)) ∧ w'.cell? ⟨w.heap.size, 1, none⟩ = some (.int .i64 (f.exponentBits : Int))) (go_keep)
    (first
    | (go_at_call_of 58 (Value.int IntKind.u64 (a : Int)); refine (U1.out _).mono ?_; rintro e w1 ⟨rfl, g1⟩; have l1_0 : w.heap.size < w1.heap.size := Nat.lt_of_lt_of_le (by first | (simp; done) | (simp; omega) | omega) g1.2; have h1_0_0 : w1.cell? ⟨w.heap.size, 0, none⟩ = some (.int .i64 (f.fractionBits : Int)) := (by rw [g1.1.cell (by first | (simp; done) | (simp; omega) | omega)]; go_simp); have h1_0_1 : w1.cell? ⟨w.heap.size, 1, none⟩ = some (.int .i64 (f.exponentBits : Int)) := (by rw [g1.1.cell (by first | (simp; done) | (simp; omega) | omega)]; go_simp))
    | (go_at_call_of 58 (Value.int IntKind.u64 (b : Int)); refine (U2.out _).mono ?_; rintro e w2 ⟨rfl, g2⟩; have l2_0 : w.heap.size < w2.heap.size := Nat.lt_of_lt_of_le (by first | (simp; done) | (simp; omega) | omega) g2.2; have h2_0_0 : w2.cell? ⟨w.heap.size, 0, none⟩ = some (.int .i64 (f.fractionBits : Int)) := (by rw [g2.1.cell (by first | (simp; done) | (simp; omega) | omega)]; go_simp); have h2_0_1 : w2.cell? ⟨w.heap.size, 1, none⟩ = some (.int .i64 (f.exponentBits : Int)) := (by rw [g2.1.cell (by first | (simp; done) | (simp; omega) | omega)]; go_simp)))
  go_wp2_with fail
  go_region_held3 (fun w' => w'.cell? ⟨w.heap.size, 0, none⟩ = some (.int .i64 (f.fractionBits : Int)) ∧ w'.cell? ⟨w.heap.size, 1, none⟩ = some (.int .i64 (f.exponentBits : Int))) (go_keep)
    (first
    | (go_at_call_of 71 (Value.int IntKind.u64 (A : Int)); refine (K1.out _).mono ?_; rintro e w3 ⟨rfl, g3⟩; have l3_0 : w.heap.size < w3.heap.size := Nat.lt_of_lt_of_le (by first | (simp; done) | (simp; omega) | omega) g3.2; have h3_0_0 : w3.cell? ⟨w.heap.size, 0, none⟩ = some (.int .i64 (f.fractionBits : Int)) := (by rw [g3.1.cell (by first | (simp; done) | (simp; omega) | omega)]; go_simp); have h3_0_1 : w3.cell? ⟨w.heap.size, 1, none⟩ = some (.int .i64 (f.exponentBits : Int)) := (by rw [g3.1.cell (by first | (simp; done) | (simp; omega) | omega)]; go_simp))
    | (go_at_call_of 71 (Value.int IntKind.u64 (D : Int)); refine (K2.out _).mono ?_; rintro e w4 ⟨rfl, g4⟩; have l4_0 : w.heap.size < w4.heap.size := Nat.lt_of_lt_of_le (by first | (simp; done) | (simp; omega) | omega) g4.2; have h4_0_0 : w4.cell? ⟨w.heap.size, 0, none⟩ = some (.int .i64 (f.fractionBits : Int)) := (by rw [g4.1.cell (by first | (simp; done) | (simp; omega) | omega)]; go_simp); have h4_0_1 : w4.cell? ⟨w.heap.size, 1, none⟩ = some (.int .i64 (f.exponentBits : Int)) := (by rw [g4.1.cell (by first | (simp; done) | (simp; omega) | omega)]; go_simp)))
  go_wp2_with fail
  refine (N1.out _).mono ?_
  rintro e w5 ⟨rfl, g5⟩
  have l5_0 : w.heap.size < w5.heap.size := Nat.lt_of_lt_of_le (by first | (simp; done) | (simp; omega) | omega) g5.2
  have h5_0_0 : w5.cell? ⟨w.heap.size, 0, none⟩ = some (.int .i64 (f.fractionBits : Int)) := (by rw [g5.1.cell (by first | (simp; done) | (simp; omega) | omega)]; go_simp)
  have h5_0_1 : w5.cell? ⟨w.heap.size, 1, none⟩ = some (.int .i64 (f.exponentBits : Int)) := (by rw [g5.1.cell (by first | (simp; done) | (simp; omega) | omega)]; go_simp)
  go_wp2_with fail
  refine (N2.out _).mono ?_
  rintro e w6 ⟨rfl, g6⟩
  have l6_0 : w.heap.size < w6.heap.size := Nat.lt_of_lt_of_le (by first | (simp; done) | (simp; omega) | omega) g6.2
  have h6_0_0 : w6.cell? ⟨w.heap.size, 0, none⟩ = some (.int .i64 (f.fractionBits : Int)) := (by rw [g6.1.cell (by first | (simp; done) | (simp; omega) | omega)]; go_simp)
  have h6_0_1 : w6.cell? ⟨w.heap.size, 1, none⟩ = some (.int .i64 (f.exponentBits : Int)) := (by rw [g6.1.cell (by first | (simp; done) | (simp; omega) | omega)]; go_simp)
  go_wp2
  go_ret
  go_light
  refine ⟨rfl, ?_⟩
  repeat (first | exact Grew.refl _ | refine Grew.drew ?_ | refine Grew.drewN ?_ _ | refine Grew.alloc ?_ _ | refine Grew.set ?_ (by first | (simp; done) | (simp; omega) | omega) _ | refine Grew.trans ?_ g1 | refine Grew.trans ?_ g2 | refine Grew.trans ?_ g3 | refine Grew.trans ?_ g4 | refine Grew.trans ?_ g5 | refine Grew.trans ?_ g6 | assumption)
set_option maxRecDepth 100000 in
set_option maxHeartbeats 2000000 in
theorem FCmp_1n0 {f : Ieee.Format} (a b A D : Nat) (x y : Int) (c : Bool) (w : World) (hc : (x != y) = false)
    (U1 : Hid (∀ w : World, Calls Tryd.prog 58 #[.agg #[.int .i64 (f.fractionBits : Int), .int .i64 (f.exponentBits : Int)], .int .u64 (a : Int)] w fun e w' => e = .returned (.int .u64 (A : Int)) ∧ Grew w w'))
    (U2 : Hid (∀ w : World, Calls Tryd.prog 58 #[.agg #[.int .i64 (f.fractionBits : Int), .int .i64 (f.exponentBits : Int)], .int .u64 (b : Int)] w fun e w' => e = .returned (.int .u64 (D : Int)) ∧ Grew w w'))
    (K1 : Hid (∀ w : World, Calls Tryd.prog 71 #[.agg #[.int .i64 (f.fractionBits : Int), .int .i64 (f.exponentBits : Int)], .int .u64 (A : Int)] w fun e w' => e = .returned (.int .i64 x) ∧ Grew w w'))
    (K2 : Hid (∀ w : World, Calls Tryd.prog 71 #[.agg #[.int .i64 (f.fractionBits : Int), .int .i64 (f.exponentBits : Int)], .int .u64 (D : Int)] w fun e w' => e = .returned (.int .i64 y) ∧ Grew w w'))
    (N1 : Hid (∀ w : World, Calls Tryd.prog 61 #[.agg #[.int .i64 (f.fractionBits : Int), .int .i64 (f.exponentBits : Int)], .int .u64 (A : Int)] w fun e w' => e = .returned (.bool false) ∧ Grew w w'))
    (N2 : Hid (∀ w : World, Calls Tryd.prog 61 #[.agg #[.int .i64 (f.fractionBits : Int), .int .i64 (f.exponentBits : Int)], .int .u64 (D : Int)] w fun e w' => e = .returned (.bool false) ∧ Grew w w')) :
    Calls Tryd.prog 36 #[fv f, .int .i64 1, .int .u64 (a : Int), .int .u64 (b : Int)] w fun e w' => e = .returned (.int .u64 0) ∧ Grew w w' := by
  unfold fv
  go_enter Tryd.func36, Tryd.ntmps36
  go_wp2_with fail
  go_region_held3 (fun w' => w'.cell? ⟨w.heap.size, 0, none⟩ = some (.int .i64 (f.fractionBits : Int)) ∧ w'.cell? ⟨w.heap.size, 1, none⟩ = some (.int .i64 (f.exponentBits : Int))) (go_keep)
    (first
    | (go_at_call_of 58 (Value.int IntKind.u64 (a : Int)); refine (U1.out _).mono ?_; rintro e w1 ⟨rfl, g1⟩; have l1_0 : w.heap.size < w1.heap.size := Nat.lt_of_lt_of_le (by first | (simp; done) | (simp; omega) | omega) g1.2; have h1_0_0 : w1.cell? ⟨w.heap.size, 0, none⟩ = some (.int .i64 (f.fractionBits : Int)) := (by rw [g1.1.cell (by first | (simp; done) | (simp; omega) | omega)]; go_simp); have h1_0_1 : w1.cell? ⟨w.heap.size, 1, none⟩ = some (.int .i64 (f.exponentBits : Int)) := (by rw [g1.1.cell (by first | (simp; done) | (simp; omega) | omega)]; go_simp))
    | (go_at_call_of 58 (Value.int IntKind.u64 (b : Int)); refine (U2.out _).mono ?_; rintro e w2 ⟨rfl, g2⟩; have l2_0 : w.heap.size < w2.heap.size := Nat.lt_of_lt_of_le (by first | (simp; done) | (simp; omega) | omega) g2.2; have h2_0_0 : w2.cell? ⟨w.heap.size, 0, none⟩ = some (.int .i64 (f.fractionBits : Int)) := (by rw [g2.1.cell (by first | (simp; done) | (simp; omega) | omega)]; go_simp); have h2_0_1 : w2.cell? ⟨w.heap.size, 1, none⟩ = some (.int .i64 (f.exponentBits : Int)) := (by rw [g2.1.cell (by first | (simp; done) | (simp; omega) | omega)]; go_simp)))
  go_wp2_with fail
  go_region_held3 (fun w' => w'.cell? ⟨w.heap.size, 0, none⟩ = some (.int .i64 (f.fractionBits : Int)) ∧ w'.cell? ⟨w.heap.size, 1, none⟩ = some (.int .i64 (f.exponentBits : Int))) (go_keep)
    (first
    | (go_at_call_of 71 (Value.int IntKind.u64 (A : Int)); refine (K1.out _).mono ?_; rintro e w3 ⟨rfl, g3⟩; have l3_0 : w.heap.size < w3.heap.size := Nat.lt_of_lt_of_le (by first | (simp; done) | (simp; omega) | omega) g3.2; have h3_0_0 : w3.cell? ⟨w.heap.size, 0, none⟩ = some (.int .i64 (f.fractionBits : Int)) := (by rw [g3.1.cell (by first | (simp; done) | (simp; omega) | omega)]; go_simp); have h3_0_1 : w3.cell? ⟨w.heap.size, 1, none⟩ = some (.int .i64 (f.exponentBits : Int)) := (by rw [g3.1.cell (by first | (simp; done) | (simp; omega) | omega)]; go_simp))
    | (go_at_call_of 71 (Value.int IntKind.u64 (D : Int)); refine (K2.out _).mono ?_; rintro e w4 ⟨rfl, g4⟩; have l4_0 : w.heap.size < w4.heap.size := Nat.lt_of_lt_of_le (by first | (simp; done) | (simp; omega) | omega) g4.2; have h4_0_0 : w4.cell? ⟨w.heap.size, 0, none⟩ = some (.int .i64 (f.fractionBits : Int)) := (by rw [g4.1.cell (by first | (simp; done) | (simp; omega) | omega)]; go_simp); have h4_0_1 : w4.cell? ⟨w.heap.size, 1, none⟩ = some (.int .i64 (f.exponentBits : Int)) := (by rw [g4.1.cell (by first | (simp; done) | (simp; omega) | omega)]; go_simp)))
  go_wp2_with fail
  refine (N1.out _).mono ?_
  rintro e w5 ⟨rfl, g5⟩
  have l5_0 : w.heap.size < w5.heap.size := Nat.lt_of_lt_of_le (by first | (simp; done) | (simp; omega) | omega) g5.2
  have h5_0_0 : w5.cell? ⟨w.heap.size, 0, none⟩ = some (.int .i64 (f.fractionBits : Int)) := (by rw [g5.1.cell (by first | (simp; done) | (simp; omega) | omega)]; go_simp)
  have h5_0_1 : w5.cell? ⟨w.heap.size, 1, none⟩ = some (.int .i64 (f.exponentBits : Int)) := (by rw [g5.1.cell (by first | (simp; done) | (simp; omega) | omega)]; go_simp)
  go_wp2_with fail
  refine (N2.out _).mono ?_
  rintro e w6 ⟨rfl, g6⟩
  have l6_0 : w.heap.size < w6.heap.size := Nat.lt_of_lt_of_le (by first | (simp; done) | (simp; omega) | omega) g6.2
  have h6_0_0 : w6.cell? ⟨w.heap.size, 0, none⟩ = some (.int .i64 (f.fractionBits : Int)) := (by rw [g6.1.cell (by first | (simp; done) | (simp; omega) | omega)]; go_simp)
  have h6_0_1 : w6.cell? ⟨w.heap.size, 1, none⟩ = some (.int .i64 (f.exponentBits : Int)) := (by rw [g6.1.cell (by first | (simp; done) | (simp; omega) | omega)]; go_simp)
  go_wp2
  go_ret
  go_light
  refine ⟨rfl, ?_⟩
  repeat (first | exact Grew.refl _ | refine Grew.drew ?_ | refine Grew.drewN ?_ _ | refine Grew.alloc ?_ _ | refine Grew.set ?_ (by first | (simp; done) | (simp; omega) | omega) _ | refine Grew.trans ?_ g1 | refine Grew.trans ?_ g2 | refine Grew.trans ?_ g3 | refine Grew.trans ?_ g4 | refine Grew.trans ?_ g5 | refine Grew.trans ?_ g6 | assumption)
set_option maxRecDepth 100000 in
set_option maxHeartbeats 2000000 in
theorem FCmp_2a {f : Ieee.Format} (a b A D : Nat) (x y : Int) (c : Bool) (w : World)
    (U1 : Hid (∀ w : World, Calls Tryd.prog 58 #[.agg #[.int .i64 (f.fractionBits : Int), .int .i64 (f.exponentBits : Int)], .int .u64 (a : Int)] w fun e w' => e = .returned (.int .u64 (A : Int)) ∧ Grew w w'))
    (U2 : Hid (∀ w : World, Calls Tryd.prog 58 #[.agg #[.int .i64 (f.fractionBits : Int), .int .i64 (f.exponentBits : Int)], .int .u64 (b : Int)] w fun e w' => e = .returned (.int .u64 (D : Int)) ∧ Grew w w'))
    (K1 : Hid (∀ w : World, Calls Tryd.prog 71 #[.agg #[.int .i64 (f.fractionBits : Int), .int .i64 (f.exponentBits : Int)], .int .u64 (A : Int)] w fun e w' => e = .returned (.int .i64 x) ∧ Grew w w'))
    (K2 : Hid (∀ w : World, Calls Tryd.prog 71 #[.agg #[.int .i64 (f.fractionBits : Int), .int .i64 (f.exponentBits : Int)], .int .u64 (D : Int)] w fun e w' => e = .returned (.int .i64 y) ∧ Grew w w'))
    (N1 : Hid (∀ w : World, Calls Tryd.prog 61 #[.agg #[.int .i64 (f.fractionBits : Int), .int .i64 (f.exponentBits : Int)], .int .u64 (A : Int)] w fun e w' => e = .returned (.bool true) ∧ Grew w w')) :
    Calls Tryd.prog 36 #[fv f, .int .i64 2, .int .u64 (a : Int), .int .u64 (b : Int)] w fun e w' => e = .returned (.int .u64 0) ∧ Grew w w' := by
  unfold fv
  go_enter Tryd.func36, Tryd.ntmps36
  go_wp2_with fail
  go_region_held3 (fun w' => w'.cell? ⟨w.heap.size, 0, none⟩ = some (.int .i64 (f.fractionBits : Int)) ∧ w'.cell? ⟨w.heap.size, 1, none⟩ = some (.int .i64 (f.exponentBits : Int))) (go_keep)
    (first
    | (go_at_call_of 58 (Value.int IntKind.u64 (a : Int)); refine (U1.out _).mono ?_; rintro e w1 ⟨rfl, g1⟩; have l1_0 : w.heap.size < w1.heap.size := Nat.lt_of_lt_of_le (by first | (simp; done) | (simp; omega) | omega) g1.2; have h1_0_0 : w1.cell? ⟨w.heap.size, 0, none⟩ = some (.int .i64 (f.fractionBits : Int)) := (by rw [g1.1.cell (by first | (simp; done) | (simp; omega) | omega)]; go_simp); have h1_0_1 : w1.cell? ⟨w.heap.size, 1, none⟩ = some (.int .i64 (f.exponentBits : Int)) := (by rw [g1.1.cell (by first | (simp; done) | (simp; omega) | omega)]; go_simp))
    | (go_at_call_of 58 (Value.int IntKind.u64 (b : Int)); refine (U2.out _).mono ?_; rintro e w2 ⟨rfl, g2⟩; have l2_0 : w.heap.size < w2.heap.size := Nat.lt_of_lt_of_le (by first | (simp; done) | (simp; omega) | omega) g2.2; have h2_0_0 : w2.cell? ⟨w.heap.size, 0, none⟩ = some (.int .i64 (f.fractionBits : Int)) := (by rw [g2.1.cell (by first | (simp; done) | (simp; omega) | omega)]; go_simp); have h2_0_1 : w2.cell? ⟨w.heap.size, 1, none⟩ = some (.int .i64 (f.exponentBits : Int)) := (by rw [g2.1.cell (by first | (simp; done) | (simp; omega) | omega)]; go_simp)))
  go_wp2_with fail
  go_region_held3 (fun w' => w'.cell? ⟨w.heap.size, 0, none⟩ = some (.int .i64 (f.fractionBits : Int)) ∧ w'.cell? ⟨w.heap.size, 1, none⟩ = some (.int .i64 (f.exponentBits : Int))) (go_keep)
    (first
    | (go_at_call_of 71 (Value.int IntKind.u64 (A : Int)); refine (K1.out _).mono ?_; rintro e w3 ⟨rfl, g3⟩; have l3_0 : w.heap.size < w3.heap.size := Nat.lt_of_lt_of_le (by first | (simp; done) | (simp; omega) | omega) g3.2; have h3_0_0 : w3.cell? ⟨w.heap.size, 0, none⟩ = some (.int .i64 (f.fractionBits : Int)) := (by rw [g3.1.cell (by first | (simp; done) | (simp; omega) | omega)]; go_simp); have h3_0_1 : w3.cell? ⟨w.heap.size, 1, none⟩ = some (.int .i64 (f.exponentBits : Int)) := (by rw [g3.1.cell (by first | (simp; done) | (simp; omega) | omega)]; go_simp))
    | (go_at_call_of 71 (Value.int IntKind.u64 (D : Int)); refine (K2.out _).mono ?_; rintro e w4 ⟨rfl, g4⟩; have l4_0 : w.heap.size < w4.heap.size := Nat.lt_of_lt_of_le (by first | (simp; done) | (simp; omega) | omega) g4.2; have h4_0_0 : w4.cell? ⟨w.heap.size, 0, none⟩ = some (.int .i64 (f.fractionBits : Int)) := (by rw [g4.1.cell (by first | (simp; done) | (simp; omega) | omega)]; go_simp); have h4_0_1 : w4.cell? ⟨w.heap.size, 1, none⟩ = some (.int .i64 (f.exponentBits : Int)) := (by rw [g4.1.cell (by first | (simp; done) | (simp; omega) | omega)]; go_simp)))
  go_wp2_with fail
  refine (N1.out _).mono ?_
  rintro e w5 ⟨rfl, g5⟩
  have l5_0 : w.heap.size < w5.heap.size := Nat.lt_of_lt_of_le (by first | (simp; done) | (simp; omega) | omega) g5.2
  have h5_0_0 : w5.cell? ⟨w.heap.size, 0, none⟩ = some (.int .i64 (f.fractionBits : Int)) := (by rw [g5.1.cell (by first | (simp; done) | (simp; omega) | omega)]; go_simp)
  have h5_0_1 : w5.cell? ⟨w.heap.size, 1, none⟩ = some (.int .i64 (f.exponentBits : Int)) := (by rw [g5.1.cell (by first | (simp; done) | (simp; omega) | omega)]; go_simp)
  go_wp2
  go_ret
  go_light
  refine ⟨rfl, ?_⟩
  repeat (first | exact Grew.refl _ | refine Grew.drew ?_ | refine Grew.drewN ?_ _ | refine Grew.alloc ?_ _ | refine Grew.set ?_ (by first | (simp; done) | (simp; omega) | omega) _ | refine Grew.trans ?_ g1 | refine Grew.trans ?_ g2 | refine Grew.trans ?_ g3 | refine Grew.trans ?_ g4 | refine Grew.trans ?_ g5 | assumption)
set_option maxRecDepth 100000 in
set_option maxHeartbeats 2000000 in
theorem FCmp_2b {f : Ieee.Format} (a b A D : Nat) (x y : Int) (c : Bool) (w : World)
    (U1 : Hid (∀ w : World, Calls Tryd.prog 58 #[.agg #[.int .i64 (f.fractionBits : Int), .int .i64 (f.exponentBits : Int)], .int .u64 (a : Int)] w fun e w' => e = .returned (.int .u64 (A : Int)) ∧ Grew w w'))
    (U2 : Hid (∀ w : World, Calls Tryd.prog 58 #[.agg #[.int .i64 (f.fractionBits : Int), .int .i64 (f.exponentBits : Int)], .int .u64 (b : Int)] w fun e w' => e = .returned (.int .u64 (D : Int)) ∧ Grew w w'))
    (K1 : Hid (∀ w : World, Calls Tryd.prog 71 #[.agg #[.int .i64 (f.fractionBits : Int), .int .i64 (f.exponentBits : Int)], .int .u64 (A : Int)] w fun e w' => e = .returned (.int .i64 x) ∧ Grew w w'))
    (K2 : Hid (∀ w : World, Calls Tryd.prog 71 #[.agg #[.int .i64 (f.fractionBits : Int), .int .i64 (f.exponentBits : Int)], .int .u64 (D : Int)] w fun e w' => e = .returned (.int .i64 y) ∧ Grew w w'))
    (N1 : Hid (∀ w : World, Calls Tryd.prog 61 #[.agg #[.int .i64 (f.fractionBits : Int), .int .i64 (f.exponentBits : Int)], .int .u64 (A : Int)] w fun e w' => e = .returned (.bool false) ∧ Grew w w'))
    (N2 : Hid (∀ w : World, Calls Tryd.prog 61 #[.agg #[.int .i64 (f.fractionBits : Int), .int .i64 (f.exponentBits : Int)], .int .u64 (D : Int)] w fun e w' => e = .returned (.bool true) ∧ Grew w w')) :
    Calls Tryd.prog 36 #[fv f, .int .i64 2, .int .u64 (a : Int), .int .u64 (b : Int)] w fun e w' => e = .returned (.int .u64 0) ∧ Grew w w' := by
  unfold fv
  go_enter Tryd.func36, Tryd.ntmps36
  go_wp2_with fail
  go_region_held3 (fun w' => w'.cell? ⟨w.heap.size, 0, none⟩ = some (.int .i64 (f.fractionBits : Int)) ∧ w'.cell? ⟨w.heap.size, 1, none⟩ = some (.int .i64 (f.exponentBits : Int))) (go_keep)
    (first
    | (go_at_call_of 58 (Value.int IntKind.u64 (a : Int)); refine (U1.out _).mono ?_; rintro e w1 ⟨rfl, g1⟩; have l1_0 : w.heap.size < w1.heap.size := Nat.lt_of_lt_of_le (by first | (simp; done) | (simp; omega) | omega) g1.2; have h1_0_0 : w1.cell? ⟨w.heap.size, 0, none⟩ = some (.int .i64 (f.fractionBits : Int)) := (by rw [g1.1.cell (by first | (simp; done) | (simp; omega) | omega)]; go_simp); have h1_0_1 : w1.cell? ⟨w.heap.size, 1, none⟩ = some (.int .i64 (f.exponentBits : Int)) := (by rw [g1.1.cell (by first | (simp; done) | (simp; omega) | omega)]; go_simp))
    | (go_at_call_of 58 (Value.int IntKind.u64 (b : Int)); refine (U2.out _).mono ?_; rintro e w2 ⟨rfl, g2⟩; have l2_0 : w.heap.size < w2.heap.size := Nat.lt_of_lt_of_le (by first | (simp; done) | (simp; omega) | omega) g2.2; have h2_0_0 : w2.cell? ⟨w.heap.size, 0, none⟩ = some (.int .i64 (f.fractionBits : Int)) := (by rw [g2.1.cell (by first | (simp; done) | (simp; omega) | omega)]; go_simp); have h2_0_1 : w2.cell? ⟨w.heap.size, 1, none⟩ = some (.int .i64 (f.exponentBits : Int)) := (by rw [g2.1.cell (by first | (simp; done) | (simp; omega) | omega)]; go_simp)))
  go_wp2_with fail
  go_region_held3 (fun w' => w'.cell? ⟨w.heap.size, 0, none⟩ = some (.int .i64 (f.fractionBits : Int)) ∧ w'.cell? ⟨w.heap.size, 1, none⟩ = some (.int .i64 (f.exponentBits : Int))) (go_keep)
    (first
    | (go_at_call_of 71 (Value.int IntKind.u64 (A : Int)); refine (K1.out _).mono ?_; rintro e w3 ⟨rfl, g3⟩; have l3_0 : w.heap.size < w3.heap.size := Nat.lt_of_lt_of_le (by first | (simp; done) | (simp; omega) | omega) g3.2; have h3_0_0 : w3.cell? ⟨w.heap.size, 0, none⟩ = some (.int .i64 (f.fractionBits : Int)) := (by rw [g3.1.cell (by first | (simp; done) | (simp; omega) | omega)]; go_simp); have h3_0_1 : w3.cell? ⟨w.heap.size, 1, none⟩ = some (.int .i64 (f.exponentBits : Int)) := (by rw [g3.1.cell (by first | (simp; done) | (simp; omega) | omega)]; go_simp))
    | (go_at_call_of 71 (Value.int IntKind.u64 (D : Int)); refine (K2.out _).mono ?_; rintro e w4 ⟨rfl, g4⟩; have l4_0 : w.heap.size < w4.heap.size := Nat.lt_of_lt_of_le (by first | (simp; done) | (simp; omega) | omega) g4.2; have h4_0_0 : w4.cell? ⟨w.heap.size, 0, none⟩ = some (.int .i64 (f.fractionBits : Int)) := (by rw [g4.1.cell (by first | (simp; done) | (simp; omega) | omega)]; go_simp); have h4_0_1 : w4.cell? ⟨w.heap.size, 1, none⟩ = some (.int .i64 (f.exponentBits : Int)) := (by rw [g4.1.cell (by first | (simp; done) | (simp; omega) | omega)]; go_simp)))
  go_wp2_with fail
  refine (N1.out _).mono ?_
  rintro e w5 ⟨rfl, g5⟩
  have l5_0 : w.heap.size < w5.heap.size := Nat.lt_of_lt_of_le (by first | (simp; done) | (simp; omega) | omega) g5.2
  have h5_0_0 : w5.cell? ⟨w.heap.size, 0, none⟩ = some (.int .i64 (f.fractionBits : Int)) := (by rw [g5.1.cell (by first | (simp; done) | (simp; omega) | omega)]; go_simp)
  have h5_0_1 : w5.cell? ⟨w.heap.size, 1, none⟩ = some (.int .i64 (f.exponentBits : Int)) := (by rw [g5.1.cell (by first | (simp; done) | (simp; omega) | omega)]; go_simp)
  go_wp2_with fail
  refine (N2.out _).mono ?_
  rintro e w6 ⟨rfl, g6⟩
  have l6_0 : w.heap.size < w6.heap.size := Nat.lt_of_lt_of_le (by first | (simp; done) | (simp; omega) | omega) g6.2
  have h6_0_0 : w6.cell? ⟨w.heap.size, 0, none⟩ = some (.int .i64 (f.fractionBits : Int)) := (by rw [g6.1.cell (by first | (simp; done) | (simp; omega) | omega)]; go_simp)
  have h6_0_1 : w6.cell? ⟨w.heap.size, 1, none⟩ = some (.int .i64 (f.exponentBits : Int)) := (by rw [g6.1.cell (by first | (simp; done) | (simp; omega) | omega)]; go_simp)
  go_wp2
  go_ret
  go_light
  refine ⟨rfl, ?_⟩
  repeat (first | exact Grew.refl _ | refine Grew.drew ?_ | refine Grew.drewN ?_ _ | refine Grew.alloc ?_ _ | refine Grew.set ?_ (by first | (simp; done) | (simp; omega) | omega) _ | refine Grew.trans ?_ g1 | refine Grew.trans ?_ g2 | refine Grew.trans ?_ g3 | refine Grew.trans ?_ g4 | refine Grew.trans ?_ g5 | refine Grew.trans ?_ g6 | assumption)
set_option maxRecDepth 100000 in
set_option maxHeartbeats 2000000 in
theorem FCmp_2n1 {f : Ieee.Format} (a b A D : Nat) (x y : Int) (c : Bool) (w : World) (hc : (decide (x < y)) = true)
    (U1 : Hid (∀ w : World, Calls Tryd.prog 58 #[.agg #[.int .i64 (f.fractionBits : Int), .int .i64 (f.exponentBits : Int)], .int .u64 (a : Int)] w fun e w' => e = .returned (.int .u64 (A : Int)) ∧ Grew w w'))
    (U2 : Hid (∀ w : World, Calls Tryd.prog 58 #[.agg #[.int .i64 (f.fractionBits : Int), .int .i64 (f.exponentBits : Int)], .int .u64 (b : Int)] w fun e w' => e = .returned (.int .u64 (D : Int)) ∧ Grew w w'))
    (K1 : Hid (∀ w : World, Calls Tryd.prog 71 #[.agg #[.int .i64 (f.fractionBits : Int), .int .i64 (f.exponentBits : Int)], .int .u64 (A : Int)] w fun e w' => e = .returned (.int .i64 x) ∧ Grew w w'))
    (K2 : Hid (∀ w : World, Calls Tryd.prog 71 #[.agg #[.int .i64 (f.fractionBits : Int), .int .i64 (f.exponentBits : Int)], .int .u64 (D : Int)] w fun e w' => e = .returned (.int .i64 y) ∧ Grew w w'))
    (N1 : Hid (∀ w : World, Calls Tryd.prog 61 #[.agg #[.int .i64 (f.fractionBits : Int), .int .i64 (f.exponentBits : Int)], .int .u64 (A : Int)] w fun e w' => e = .returned (.bool false) ∧ Grew w w'))
    (N2 : Hid (∀ w : World, Calls Tryd.prog 61 #[.agg #[.int .i64 (f.fractionBits : Int), .int .i64 (f.exponentBits : Int)], .int .u64 (D : Int)] w fun e w' => e = .returned (.bool false) ∧ Grew w w')) :
    Calls Tryd.prog 36 #[fv f, .int .i64 2, .int .u64 (a : Int), .int .u64 (b : Int)] w fun e w' => e = .returned (.int .u64 1) ∧ Grew w w' := by
  unfold fv
  go_enter Tryd.func36, Tryd.ntmps36
  go_wp2_with fail
  go_region_held3 (fun w' => w'.cell? ⟨w.heap.size, 0, none⟩ = some (.int .i64 (f.fractionBits : Int)) ∧ w'.cell? ⟨w.heap.size, 1, none⟩ = some (.int .i64 (f.exponentBits : Int))) (go_keep)
    (first
    | (go_at_call_of 58 (Value.int IntKind.u64 (a : Int)); refine (U1.out _).mono ?_; rintro e w1 ⟨rfl, g1⟩; have l1_0 : w.heap.size < w1.heap.size := Nat.lt_of_lt_of_le (by first | (simp; done) | (simp; omega) | omega) g1.2; have h1_0_0 : w1.cell? ⟨w.heap.size, 0, none⟩ = some (.int .i64 (f.fractionBits : Int)) := (by rw [g1.1.cell (by first | (simp; done) | (simp; omega) | omega)]; go_simp); have h1_0_1 : w1.cell? ⟨w.heap.size, 1, none⟩ = some (.int .i64 (f.exponentBits : Int)) := (by rw [g1.1.cell (by first | (simp; done) | (simp; omega) | omega)]; go_simp))
    | (go_at_call_of 58 (Value.int IntKind.u64 (b : Int)); refine (U2.out _).mono ?_; rintro e w2 ⟨rfl, g2⟩; have l2_0 : w.heap.size < w2.heap.size := Nat.lt_of_lt_of_le (by first | (simp; done) | (simp; omega) | omega) g2.2; have h2_0_0 : w2.cell? ⟨w.heap.size, 0, none⟩ = some (.int .i64 (f.fractionBits : Int)) := (by rw [g2.1.cell (by first | (simp; done) | (simp; omega) | omega)]; go_simp); have h2_0_1 : w2.cell? ⟨w.heap.size, 1, none⟩ = some (.int .i64 (f.exponentBits : Int)) := (by rw [g2.1.cell (by first | (simp; done) | (simp; omega) | omega)]; go_simp)))
  go_wp2_with fail
  go_region_held3 (fun w' => w'.cell? ⟨w.heap.size, 0, none⟩ = some (.int .i64 (f.fractionBits : Int)) ∧ w'.cell? ⟨w.heap.size, 1, none⟩ = some (.int .i64 (f.exponentBits : Int))) (go_keep)
    (first
    | (go_at_call_of 71 (Value.int IntKind.u64 (A : Int)); refine (K1.out _).mono ?_; rintro e w3 ⟨rfl, g3⟩; have l3_0 : w.heap.size < w3.heap.size := Nat.lt_of_lt_of_le (by first | (simp; done) | (simp; omega) | omega) g3.2; have h3_0_0 : w3.cell? ⟨w.heap.size, 0, none⟩ = some (.int .i64 (f.fractionBits : Int)) := (by rw [g3.1.cell (by first | (simp; done) | (simp; omega) | omega)]; go_simp); have h3_0_1 : w3.cell? ⟨w.heap.size, 1, none⟩ = some (.int .i64 (f.exponentBits : Int)) := (by rw [g3.1.cell (by first | (simp; done) | (simp; omega) | omega)]; go_simp))
    | (go_at_call_of 71 (Value.int IntKind.u64 (D : Int)); refine (K2.out _).mono ?_; rintro e w4 ⟨rfl, g4⟩; have l4_0 : w.heap.size < w4.heap.size := Nat.lt_of_lt_of_le (by first | (simp; done) | (simp; omega) | omega) g4.2; have h4_0_0 : w4.cell? ⟨w.heap.size, 0, none⟩ = some (.int .i64 (f.fractionBits : Int)) := (by rw [g4.1.cell (by first | (simp; done) | (simp; omega) | omega)]; go_simp); have h4_0_1 : w4.cell? ⟨w.heap.size, 1, none⟩ = some (.int .i64 (f.exponentBits : Int)) := (by rw [g4.1.cell (by first | (simp; done) | (simp; omega) | omega)]; go_simp)))
  go_wp2_with fail
  refine (N1.out _).mono ?_
  rintro e w5 ⟨rfl, g5⟩
  have l5_0 : w.heap.size < w5.heap.size := Nat.lt_of_lt_of_le (by first | (simp; done) | (simp; omega) | omega) g5.2
  have h5_0_0 : w5.cell? ⟨w.heap.size, 0, none⟩ = some (.int .i64 (f.fractionBits : Int)) := (by rw [g5.1.cell (by first | (simp; done) | (simp; omega) | omega)]; go_simp)
  have h5_0_1 : w5.cell? ⟨w.heap.size, 1, none⟩ = some (.int .i64 (f.exponentBits : Int)) := (by rw [g5.1.cell (by first | (simp; done) | (simp; omega) | omega)]; go_simp)
  go_wp2_with fail
  refine (N2.out _).mono ?_
  rintro e w6 ⟨rfl, g6⟩
  have l6_0 : w.heap.size < w6.heap.size := Nat.lt_of_lt_of_le (by first | (simp; done) | (simp; omega) | omega) g6.2
  have h6_0_0 : w6.cell? ⟨w.heap.size, 0, none⟩ = some (.int .i64 (f.fractionBits : Int)) := (by rw [g6.1.cell (by first | (simp; done) | (simp; omega) | omega)]; go_simp)
  have h6_0_1 : w6.cell? ⟨w.heap.size, 1, none⟩ = some (.int .i64 (f.exponentBits : Int)) := (by rw [g6.1.cell (by first | (simp; done) | (simp; omega) | omega)]; go_simp)
  go_wp2
  go_ret
  go_light
  refine ⟨rfl, ?_⟩
  repeat (first | exact Grew.refl _ | refine Grew.drew ?_ | refine Grew.drewN ?_ _ | refine Grew.alloc ?_ _ | refine Grew.set ?_ (by first | (simp; done) | (simp; omega) | omega) _ | refine Grew.trans ?_ g1 | refine Grew.trans ?_ g2 | refine Grew.trans ?_ g3 | refine Grew.trans ?_ g4 | refine Grew.trans ?_ g5 | refine Grew.trans ?_ g6 | assumption)
set_option maxRecDepth 100000 in
set_option maxHeartbeats 2000000 in
theorem FCmp_2n0 {f : Ieee.Format} (a b A D : Nat) (x y : Int) (c : Bool) (w : World) (hc : (decide (x < y)) = false)
    (U1 : Hid (∀ w : World, Calls Tryd.prog 58 #[.agg #[.int .i64 (f.fractionBits : Int), .int .i64 (f.exponentBits : Int)], .int .u64 (a : Int)] w fun e w' => e = .returned (.int .u64 (A : Int)) ∧ Grew w w'))
    (U2 : Hid (∀ w : World, Calls Tryd.prog 58 #[.agg #[.int .i64 (f.fractionBits : Int), .int .i64 (f.exponentBits : Int)], .int .u64 (b : Int)] w fun e w' => e = .returned (.int .u64 (D : Int)) ∧ Grew w w'))
    (K1 : Hid (∀ w : World, Calls Tryd.prog 71 #[.agg #[.int .i64 (f.fractionBits : Int), .int .i64 (f.exponentBits : Int)], .int .u64 (A : Int)] w fun e w' => e = .returned (.int .i64 x) ∧ Grew w w'))
    (K2 : Hid (∀ w : World, Calls Tryd.prog 71 #[.agg #[.int .i64 (f.fractionBits : Int), .int .i64 (f.exponentBits : Int)], .int .u64 (D : Int)] w fun e w' => e = .returned (.int .i64 y) ∧ Grew w w'))
    (N1 : Hid (∀ w : World, Calls Tryd.prog 61 #[.agg #[.int .i64 (f.fractionBits : Int), .int .i64 (f.exponentBits : Int)], .int .u64 (A : Int)] w fun e w' => e = .returned (.bool false) ∧ Grew w w'))
    (N2 : Hid (∀ w : World, Calls Tryd.prog 61 #[.agg #[.int .i64 (f.fractionBits : Int), .int .i64 (f.exponentBits : Int)], .int .u64 (D : Int)] w fun e w' => e = .returned (.bool false) ∧ Grew w w')) :
    Calls Tryd.prog 36 #[fv f, .int .i64 2, .int .u64 (a : Int), .int .u64 (b : Int)] w fun e w' => e = .returned (.int .u64 0) ∧ Grew w w' := by
  unfold fv
  go_enter Tryd.func36, Tryd.ntmps36
  go_wp2_with fail
  go_region_held3 (fun w' => w'.cell? ⟨w.heap.size, 0, none⟩ = some (.int .i64 (f.fractionBits : Int)) ∧ w'.cell? ⟨w.heap.size, 1, none⟩ = some (.int .i64 (f.exponentBits : Int))) (go_keep)
    (first
    | (go_at_call_of 58 (Value.int IntKind.u64 (a : Int)); refine (U1.out _).mono ?_; rintro e w1 ⟨rfl, g1⟩; have l1_0 : w.heap.size < w1.heap.size := Nat.lt_of_lt_of_le (by first | (simp; done) | (simp; omega) | omega) g1.2; have h1_0_0 : w1.cell? ⟨w.heap.size, 0, none⟩ = some (.int .i64 (f.fractionBits : Int)) := (by rw [g1.1.cell (by first | (simp; done) | (simp; omega) | omega)]; go_simp); have h1_0_1 : w1.cell? ⟨w.heap.size, 1, none⟩ = some (.int .i64 (f.exponentBits : Int)) := (by rw [g1.1.cell (by first | (simp; done) | (simp; omega) | omega)]; go_simp))
    | (go_at_call_of 58 (Value.int IntKind.u64 (b : Int)); refine (U2.out _).mono ?_; rintro e w2 ⟨rfl, g2⟩; have l2_0 : w.heap.size < w2.heap.size := Nat.lt_of_lt_of_le (by first | (simp; done) | (simp; omega) | omega) g2.2; have h2_0_0 : w2.cell? ⟨w.heap.size, 0, none⟩ = some (.int .i64 (f.fractionBits : Int)) := (by rw [g2.1.cell (by first | (simp; done) | (simp; omega) | omega)]; go_simp); have h2_0_1 : w2.cell? ⟨w.heap.size, 1, none⟩ = some (.int .i64 (f.exponentBits : Int)) := (by rw [g2.1.cell (by first | (simp; done) | (simp; omega) | omega)]; go_simp)))
  go_wp2_with fail
  go_region_held3 (fun w' => w'.cell? ⟨w.heap.size, 0, none⟩ = some (.int .i64 (f.fractionBits : Int)) ∧ w'.cell? ⟨w.heap.size, 1, none⟩ = some (.int .i64 (f.exponentBits : Int))) (go_keep)
    (first
    | (go_at_call_of 71 (Value.int IntKind.u64 (A : Int)); refine (K1.out _).mono ?_; rintro e w3 ⟨rfl, g3⟩; have l3_0 : w.heap.size < w3.heap.size := Nat.lt_of_lt_of_le (by first | (simp; done) | (simp; omega) | omega) g3.2; have h3_0_0 : w3.cell? ⟨w.heap.size, 0, none⟩ = some (.int .i64 (f.fractionBits : Int)) := (by rw [g3.1.cell (by first | (simp; done) | (simp; omega) | omega)]; go_simp); have h3_0_1 : w3.cell? ⟨w.heap.size, 1, none⟩ = some (.int .i64 (f.exponentBits : Int)) := (by rw [g3.1.cell (by first | (simp; done) | (simp; omega) | omega)]; go_simp))
    | (go_at_call_of 71 (Value.int IntKind.u64 (D : Int)); refine (K2.out _).mono ?_; rintro e w4 ⟨rfl, g4⟩; have l4_0 : w.heap.size < w4.heap.size := Nat.lt_of_lt_of_le (by first | (simp; done) | (simp; omega) | omega) g4.2; have h4_0_0 : w4.cell? ⟨w.heap.size, 0, none⟩ = some (.int .i64 (f.fractionBits : Int)) := (by rw [g4.1.cell (by first | (simp; done) | (simp; omega) | omega)]; go_simp); have h4_0_1 : w4.cell? ⟨w.heap.size, 1, none⟩ = some (.int .i64 (f.exponentBits : Int)) := (by rw [g4.1.cell (by first | (simp; done) | (simp; omega) | omega)]; go_simp)))
  go_wp2_with fail
  refine (N1.out _).mono ?_
  rintro e w5 ⟨rfl, g5⟩
  have l5_0 : w.heap.size < w5.heap.size := Nat.lt_of_lt_of_le (by first | (simp; done) | (simp; omega) | omega) g5.2
  have h5_0_0 : w5.cell? ⟨w.heap.size, 0, none⟩ = some (.int .i64 (f.fractionBits : Int)) := (by rw [g5.1.cell (by first | (simp; done) | (simp; omega) | omega)]; go_simp)
  have h5_0_1 : w5.cell? ⟨w.heap.size, 1, none⟩ = some (.int .i64 (f.exponentBits : Int)) := (by rw [g5.1.cell (by first | (simp; done) | (simp; omega) | omega)]; go_simp)
  go_wp2_with fail
  refine (N2.out _).mono ?_
  rintro e w6 ⟨rfl, g6⟩
  have l6_0 : w.heap.size < w6.heap.size := Nat.lt_of_lt_of_le (by first | (simp; done) | (simp; omega) | omega) g6.2
  have h6_0_0 : w6.cell? ⟨w.heap.size, 0, none⟩ = some (.int .i64 (f.fractionBits : Int)) := (by rw [g6.1.cell (by first | (simp; done) | (simp; omega) | omega)]; go_simp)
  have h6_0_1 : w6.cell? ⟨w.heap.size, 1, none⟩ = some (.int .i64 (f.exponentBits : Int)) := (by rw [g6.1.cell (by first | (simp; done) | (simp; omega) | omega)]; go_simp)
  go_wp2
  go_ret
  go_light
  refine ⟨rfl, ?_⟩
  repeat (first | exact Grew.refl _ | refine Grew.drew ?_ | refine Grew.drewN ?_ _ | refine Grew.alloc ?_ _ | refine Grew.set ?_ (by first | (simp; done) | (simp; omega) | omega) _ | refine Grew.trans ?_ g1 | refine Grew.trans ?_ g2 | refine Grew.trans ?_ g3 | refine Grew.trans ?_ g4 | refine Grew.trans ?_ g5 | refine Grew.trans ?_ g6 | assumption)
set_option maxRecDepth 100000 in
set_option maxHeartbeats 2000000 in
theorem FCmp_3a {f : Ieee.Format} (a b A D : Nat) (x y : Int) (c : Bool) (w : World)
    (U1 : Hid (∀ w : World, Calls Tryd.prog 58 #[.agg #[.int .i64 (f.fractionBits : Int), .int .i64 (f.exponentBits : Int)], .int .u64 (a : Int)] w fun e w' => e = .returned (.int .u64 (A : Int)) ∧ Grew w w'))
    (U2 : Hid (∀ w : World, Calls Tryd.prog 58 #[.agg #[.int .i64 (f.fractionBits : Int), .int .i64 (f.exponentBits : Int)], .int .u64 (b : Int)] w fun e w' => e = .returned (.int .u64 (D : Int)) ∧ Grew w w'))
    (K1 : Hid (∀ w : World, Calls Tryd.prog 71 #[.agg #[.int .i64 (f.fractionBits : Int), .int .i64 (f.exponentBits : Int)], .int .u64 (A : Int)] w fun e w' => e = .returned (.int .i64 x) ∧ Grew w w'))
    (K2 : Hid (∀ w : World, Calls Tryd.prog 71 #[.agg #[.int .i64 (f.fractionBits : Int), .int .i64 (f.exponentBits : Int)], .int .u64 (D : Int)] w fun e w' => e = .returned (.int .i64 y) ∧ Grew w w'))
    (N1 : Hid (∀ w : World, Calls Tryd.prog 61 #[.agg #[.int .i64 (f.fractionBits : Int), .int .i64 (f.exponentBits : Int)], .int .u64 (A : Int)] w fun e w' => e = .returned (.bool true) ∧ Grew w w')) :
    Calls Tryd.prog 36 #[fv f, .int .i64 3, .int .u64 (a : Int), .int .u64 (b : Int)] w fun e w' => e = .returned (.int .u64 0) ∧ Grew w w' := by
  unfold fv
  go_enter Tryd.func36, Tryd.ntmps36
  go_wp2_with fail
  go_region_held3 (fun w' => w'.cell? ⟨w.heap.size, 0, none⟩ = some (.int .i64 (f.fractionBits : Int)) ∧ w'.cell? ⟨w.heap.size, 1, none⟩ = some (.int .i64 (f.exponentBits : Int))) (go_keep)
    (first
    | (go_at_call_of 58 (Value.int IntKind.u64 (a : Int)); refine (U1.out _).mono ?_; rintro e w1 ⟨rfl, g1⟩; have l1_0 : w.heap.size < w1.heap.size := Nat.lt_of_lt_of_le (by first | (simp; done) | (simp; omega) | omega) g1.2; have h1_0_0 : w1.cell? ⟨w.heap.size, 0, none⟩ = some (.int .i64 (f.fractionBits : Int)) := (by rw [g1.1.cell (by first | (simp; done) | (simp; omega) | omega)]; go_simp); have h1_0_1 : w1.cell? ⟨w.heap.size, 1, none⟩ = some (.int .i64 (f.exponentBits : Int)) := (by rw [g1.1.cell (by first | (simp; done) | (simp; omega) | omega)]; go_simp))
    | (go_at_call_of 58 (Value.int IntKind.u64 (b : Int)); refine (U2.out _).mono ?_; rintro e w2 ⟨rfl, g2⟩; have l2_0 : w.heap.size < w2.heap.size := Nat.lt_of_lt_of_le (by first | (simp; done) | (simp; omega) | omega) g2.2; have h2_0_0 : w2.cell? ⟨w.heap.size, 0, none⟩ = some (.int .i64 (f.fractionBits : Int)) := (by rw [g2.1.cell (by first | (simp; done) | (simp; omega) | omega)]; go_simp); have h2_0_1 : w2.cell? ⟨w.heap.size, 1, none⟩ = some (.int .i64 (f.exponentBits : Int)) := (by rw [g2.1.cell (by first | (simp; done) | (simp; omega) | omega)]; go_simp)))
  go_wp2_with fail
  go_region_held3 (fun w' => w'.cell? ⟨w.heap.size, 0, none⟩ = some (.int .i64 (f.fractionBits : Int)) ∧ w'.cell? ⟨w.heap.size, 1, none⟩ = some (.int .i64 (f.exponentBits : Int))) (go_keep)
    (first
    | (go_at_call_of 71 (Value.int IntKind.u64 (A : Int)); refine (K1.out _).mono ?_; rintro e w3 ⟨rfl, g3⟩; have l3_0 : w.heap.size < w3.heap.size := Nat.lt_of_lt_of_le (by first | (simp; done) | (simp; omega) | omega) g3.2; have h3_0_0 : w3.cell? ⟨w.heap.size, 0, none⟩ = some (.int .i64 (f.fractionBits : Int)) := (by rw [g3.1.cell (by first | (simp; done) | (simp; omega) | omega)]; go_simp); have h3_0_1 : w3.cell? ⟨w.heap.size, 1, none⟩ = some (.int .i64 (f.exponentBits : Int)) := (by rw [g3.1.cell (by first | (simp; done) | (simp; omega) | omega)]; go_simp))
    | (go_at_call_of 71 (Value.int IntKind.u64 (D : Int)); refine (K2.out _).mono ?_; rintro e w4 ⟨rfl, g4⟩; have l4_0 : w.heap.size < w4.heap.size := Nat.lt_of_lt_of_le (by first | (simp; done) | (simp; omega) | omega) g4.2; have h4_0_0 : w4.cell? ⟨w.heap.size, 0, none⟩ = some (.int .i64 (f.fractionBits : Int)) := (by rw [g4.1.cell (by first | (simp; done) | (simp; omega) | omega)]; go_simp); have h4_0_1 : w4.cell? ⟨w.heap.size, 1, none⟩ = some (.int .i64 (f.exponentBits : Int)) := (by rw [g4.1.cell (by first | (simp; done) | (simp; omega) | omega)]; go_simp)))
  go_wp2_with fail
  refine (N1.out _).mono ?_
  rintro e w5 ⟨rfl, g5⟩
  have l5_0 : w.heap.size < w5.heap.size := Nat.lt_of_lt_of_le (by first | (simp; done) | (simp; omega) | omega) g5.2
  have h5_0_0 : w5.cell? ⟨w.heap.size, 0, none⟩ = some (.int .i64 (f.fractionBits : Int)) := (by rw [g5.1.cell (by first | (simp; done) | (simp; omega) | omega)]; go_simp)
  have h5_0_1 : w5.cell? ⟨w.heap.size, 1, none⟩ = some (.int .i64 (f.exponentBits : Int)) := (by rw [g5.1.cell (by first | (simp; done) | (simp; omega) | omega)]; go_simp)
  go_wp2
  go_ret
  go_light
  refine ⟨rfl, ?_⟩
  repeat (first | exact Grew.refl _ | refine Grew.drew ?_ | refine Grew.drewN ?_ _ | refine Grew.alloc ?_ _ | refine Grew.set ?_ (by first | (simp; done) | (simp; omega) | omega) _ | refine Grew.trans ?_ g1 | refine Grew.trans ?_ g2 | refine Grew.trans ?_ g3 | refine Grew.trans ?_ g4 | refine Grew.trans ?_ g5 | assumption)
set_option maxRecDepth 100000 in
set_option maxHeartbeats 2000000 in
theorem FCmp_3b {f : Ieee.Format} (a b A D : Nat) (x y : Int) (c : Bool) (w : World)
    (U1 : Hid (∀ w : World, Calls Tryd.prog 58 #[.agg #[.int .i64 (f.fractionBits : Int), .int .i64 (f.exponentBits : Int)], .int .u64 (a : Int)] w fun e w' => e = .returned (.int .u64 (A : Int)) ∧ Grew w w'))
    (U2 : Hid (∀ w : World, Calls Tryd.prog 58 #[.agg #[.int .i64 (f.fractionBits : Int), .int .i64 (f.exponentBits : Int)], .int .u64 (b : Int)] w fun e w' => e = .returned (.int .u64 (D : Int)) ∧ Grew w w'))
    (K1 : Hid (∀ w : World, Calls Tryd.prog 71 #[.agg #[.int .i64 (f.fractionBits : Int), .int .i64 (f.exponentBits : Int)], .int .u64 (A : Int)] w fun e w' => e = .returned (.int .i64 x) ∧ Grew w w'))
    (K2 : Hid (∀ w : World, Calls Tryd.prog 71 #[.agg #[.int .i64 (f.fractionBits : Int), .int .i64 (f.exponentBits : Int)], .int .u64 (D : Int)] w fun e w' => e = .returned (.int .i64 y) ∧ Grew w w'))
    (N1 : Hid (∀ w : World, Calls Tryd.prog 61 #[.agg #[.int .i64 (f.fractionBits : Int), .int .i64 (f.exponentBits : Int)], .int .u64 (A : Int)] w fun e w' => e = .returned (.bool false) ∧ Grew w w'))
    (N2 : Hid (∀ w : World, Calls Tryd.prog 61 #[.agg #[.int .i64 (f.fractionBits : Int), .int .i64 (f.exponentBits : Int)], .int .u64 (D : Int)] w fun e w' => e = .returned (.bool true) ∧ Grew w w')) :
    Calls Tryd.prog 36 #[fv f, .int .i64 3, .int .u64 (a : Int), .int .u64 (b : Int)] w fun e w' => e = .returned (.int .u64 0) ∧ Grew w w' := by
  unfold fv
  go_enter Tryd.func36, Tryd.ntmps36
  go_wp2_with fail
  go_region_held3 (fun w' => w'.cell? ⟨w.heap.size, 0, none⟩ = some (.int .i64 (f.fractionBits : Int)) ∧ w'.cell? ⟨w.heap.size, 1, none⟩ = some (.int .i64 (f.exponentBits : Int))) (go_keep)
    (first
    | (go_at_call_of 58 (Value.int IntKind.u64 (a : Int)); refine (U1.out _).mono ?_; rintro e w1 ⟨rfl, g1⟩; have l1_0 : w.heap.size < w1.heap.size := Nat.lt_of_lt_of_le (by first | (simp; done) | (simp; omega) | omega) g1.2; have h1_0_0 : w1.cell? ⟨w.heap.size, 0, none⟩ = some (.int .i64 (f.fractionBits : Int)) := (by rw [g1.1.cell (by first | (simp; done) | (simp; omega) | omega)]; go_simp); have h1_0_1 : w1.cell? ⟨w.heap.size, 1, none⟩ = some (.int .i64 (f.exponentBits : Int)) := (by rw [g1.1.cell (by first | (simp; done) | (simp; omega) | omega)]; go_simp))
    | (go_at_call_of 58 (Value.int IntKind.u64 (b : Int)); refine (U2.out _).mono ?_; rintro e w2 ⟨rfl, g2⟩; have l2_0 : w.heap.size < w2.heap.size := Nat.lt_of_lt_of_le (by first | (simp; done) | (simp; omega) | omega) g2.2; have h2_0_0 : w2.cell? ⟨w.heap.size, 0, none⟩ = some (.int .i64 (f.fractionBits : Int)) := (by rw [g2.1.cell (by first | (simp; done) | (simp; omega) | omega)]; go_simp); have h2_0_1 : w2.cell? ⟨w.heap.size, 1, none⟩ = some (.int .i64 (f.exponentBits : Int)) := (by rw [g2.1.cell (by first | (simp; done) | (simp; omega) | omega)]; go_simp)))
  go_wp2_with fail
  go_region_held3 (fun w' => w'.cell? ⟨w.heap.size, 0, none⟩ = some (.int .i64 (f.fractionBits : Int)) ∧ w'.cell? ⟨w.heap.size, 1, none⟩ = some (.int .i64 (f.exponentBits : Int))) (go_keep)
    (first
    | (go_at_call_of 71 (Value.int IntKind.u64 (A : Int)); refine (K1.out _).mono ?_; rintro e w3 ⟨rfl, g3⟩; have l3_0 : w.heap.size < w3.heap.size := Nat.lt_of_lt_of_le (by first | (simp; done) | (simp; omega) | omega) g3.2; have h3_0_0 : w3.cell? ⟨w.heap.size, 0, none⟩ = some (.int .i64 (f.fractionBits : Int)) := (by rw [g3.1.cell (by first | (simp; done) | (simp; omega) | omega)]; go_simp); have h3_0_1 : w3.cell? ⟨w.heap.size, 1, none⟩ = some (.int .i64 (f.exponentBits : Int)) := (by rw [g3.1.cell (by first | (simp; done) | (simp; omega) | omega)]; go_simp))
    | (go_at_call_of 71 (Value.int IntKind.u64 (D : Int)); refine (K2.out _).mono ?_; rintro e w4 ⟨rfl, g4⟩; have l4_0 : w.heap.size < w4.heap.size := Nat.lt_of_lt_of_le (by first | (simp; done) | (simp; omega) | omega) g4.2; have h4_0_0 : w4.cell? ⟨w.heap.size, 0, none⟩ = some (.int .i64 (f.fractionBits : Int)) := (by rw [g4.1.cell (by first | (simp; done) | (simp; omega) | omega)]; go_simp); have h4_0_1 : w4.cell? ⟨w.heap.size, 1, none⟩ = some (.int .i64 (f.exponentBits : Int)) := (by rw [g4.1.cell (by first | (simp; done) | (simp; omega) | omega)]; go_simp)))
  go_wp2_with fail
  refine (N1.out _).mono ?_
  rintro e w5 ⟨rfl, g5⟩
  have l5_0 : w.heap.size < w5.heap.size := Nat.lt_of_lt_of_le (by first | (simp; done) | (simp; omega) | omega) g5.2
  have h5_0_0 : w5.cell? ⟨w.heap.size, 0, none⟩ = some (.int .i64 (f.fractionBits : Int)) := (by rw [g5.1.cell (by first | (simp; done) | (simp; omega) | omega)]; go_simp)
  have h5_0_1 : w5.cell? ⟨w.heap.size, 1, none⟩ = some (.int .i64 (f.exponentBits : Int)) := (by rw [g5.1.cell (by first | (simp; done) | (simp; omega) | omega)]; go_simp)
  go_wp2_with fail
  refine (N2.out _).mono ?_
  rintro e w6 ⟨rfl, g6⟩
  have l6_0 : w.heap.size < w6.heap.size := Nat.lt_of_lt_of_le (by first | (simp; done) | (simp; omega) | omega) g6.2
  have h6_0_0 : w6.cell? ⟨w.heap.size, 0, none⟩ = some (.int .i64 (f.fractionBits : Int)) := (by rw [g6.1.cell (by first | (simp; done) | (simp; omega) | omega)]; go_simp)
  have h6_0_1 : w6.cell? ⟨w.heap.size, 1, none⟩ = some (.int .i64 (f.exponentBits : Int)) := (by rw [g6.1.cell (by first | (simp; done) | (simp; omega) | omega)]; go_simp)
  go_wp2
  go_ret
  go_light
  refine ⟨rfl, ?_⟩
  repeat (first | exact Grew.refl _ | refine Grew.drew ?_ | refine Grew.drewN ?_ _ | refine Grew.alloc ?_ _ | refine Grew.set ?_ (by first | (simp; done) | (simp; omega) | omega) _ | refine Grew.trans ?_ g1 | refine Grew.trans ?_ g2 | refine Grew.trans ?_ g3 | refine Grew.trans ?_ g4 | refine Grew.trans ?_ g5 | refine Grew.trans ?_ g6 | assumption)
set_option maxRecDepth 100000 in
set_option maxHeartbeats 2000000 in
theorem FCmp_3n1 {f : Ieee.Format} (a b A D : Nat) (x y : Int) (c : Bool) (w : World) (hc : (decide (y < x)) = true)
    (U1 : Hid (∀ w : World, Calls Tryd.prog 58 #[.agg #[.int .i64 (f.fractionBits : Int), .int .i64 (f.exponentBits : Int)], .int .u64 (a : Int)] w fun e w' => e = .returned (.int .u64 (A : Int)) ∧ Grew w w'))
    (U2 : Hid (∀ w : World, Calls Tryd.prog 58 #[.agg #[.int .i64 (f.fractionBits : Int), .int .i64 (f.exponentBits : Int)], .int .u64 (b : Int)] w fun e w' => e = .returned (.int .u64 (D : Int)) ∧ Grew w w'))
    (K1 : Hid (∀ w : World, Calls Tryd.prog 71 #[.agg #[.int .i64 (f.fractionBits : Int), .int .i64 (f.exponentBits : Int)], .int .u64 (A : Int)] w fun e w' => e = .returned (.int .i64 x) ∧ Grew w w'))
    (K2 : Hid (∀ w : World, Calls Tryd.prog 71 #[.agg #[.int .i64 (f.fractionBits : Int), .int .i64 (f.exponentBits : Int)], .int .u64 (D : Int)] w fun e w' => e = .returned (.int .i64 y) ∧ Grew w w'))
    (N1 : Hid (∀ w : World, Calls Tryd.prog 61 #[.agg #[.int .i64 (f.fractionBits : Int), .int .i64 (f.exponentBits : Int)], .int .u64 (A : Int)] w fun e w' => e = .returned (.bool false) ∧ Grew w w'))
    (N2 : Hid (∀ w : World, Calls Tryd.prog 61 #[.agg #[.int .i64 (f.fractionBits : Int), .int .i64 (f.exponentBits : Int)], .int .u64 (D : Int)] w fun e w' => e = .returned (.bool false) ∧ Grew w w')) :
    Calls Tryd.prog 36 #[fv f, .int .i64 3, .int .u64 (a : Int), .int .u64 (b : Int)] w fun e w' => e = .returned (.int .u64 1) ∧ Grew w w' := by
  unfold fv
  go_enter Tryd.func36, Tryd.ntmps36
  go_wp2_with fail
  go_region_held3 (fun w' => w'.cell? ⟨w.heap.size, 0, none⟩ = some (.int .i64 (f.fractionBits : Int)) ∧ w'.cell? ⟨w.heap.size, 1, none⟩ = some (.int .i64 (f.exponentBits : Int))) (go_keep)
    (first
    | (go_at_call_of 58 (Value.int IntKind.u64 (a : Int)); refine (U1.out _).mono ?_; rintro e w1 ⟨rfl, g1⟩; have l1_0 : w.heap.size < w1.heap.size := Nat.lt_of_lt_of_le (by first | (simp; done) | (simp; omega) | omega) g1.2; have h1_0_0 : w1.cell? ⟨w.heap.size, 0, none⟩ = some (.int .i64 (f.fractionBits : Int)) := (by rw [g1.1.cell (by first | (simp; done) | (simp; omega) | omega)]; go_simp); have h1_0_1 : w1.cell? ⟨w.heap.size, 1, none⟩ = some (.int .i64 (f.exponentBits : Int)) := (by rw [g1.1.cell (by first | (simp; done) | (simp; omega) | omega)]; go_simp))
    | (go_at_call_of 58 (Value.int IntKind.u64 (b : Int)); refine (U2.out _).mono ?_; rintro e w2 ⟨rfl, g2⟩; have l2_0 : w.heap.size < w2.heap.size := Nat.lt_of_lt_of_le (by first | (simp; done) | (simp; omega) | omega) g2.2; have h2_0_0 : w2.cell? ⟨w.heap.size, 0, none⟩ = some (.int .i64 (f.fractionBits : Int)) := (by rw [g2.1.cell (by first | (simp; done) | (simp; omega) | omega)]; go_simp); have h2_0_1 : w2.cell? ⟨w.heap.size, 1, none⟩ = some (.int .i64 (f.exponentBits : Int)) := (by rw [g2.1.cell (by first | (simp; done) | (simp; omega) | omega)]; go_simp)))
  go_wp2_with fail
  go_region_held3 (fun w' => w'.cell? ⟨w.heap.size, 0, none⟩ = some (.int .i64 (f.fractionBits : Int)) ∧ w'.cell? ⟨w.heap.size, 1, none⟩ = some (.int .i64 (f.exponentBits : Int))) (go_keep)
    (first
    | (go_at_call_of 71 (Value.int IntKind.u64 (A : Int)); refine (K1.out _).mono ?_; rintro e w3 ⟨rfl, g3⟩; have l3_0 : w.heap.size < w3.heap.size := Nat.lt_of_lt_of_le (by first | (simp; done) | (simp; omega) | omega) g3.2; have h3_0_0 : w3.cell? ⟨w.heap.size, 0, none⟩ = some (.int .i64 (f.fractionBits : Int)) := (by rw [g3.1.cell (by first | (simp; done) | (simp; omega) | omega)]; go_simp); have h3_0_1 : w3.cell? ⟨w.heap.size, 1, none⟩ = some (.int .i64 (f.exponentBits : Int)) := (by rw [g3.1.cell (by first | (simp; done) | (simp; omega) | omega)]; go_simp))
    | (go_at_call_of 71 (Value.int IntKind.u64 (D : Int)); refine (K2.out _).mono ?_; rintro e w4 ⟨rfl, g4⟩; have l4_0 : w.heap.size < w4.heap.size := Nat.lt_of_lt_of_le (by first | (simp; done) | (simp; omega) | omega) g4.2; have h4_0_0 : w4.cell? ⟨w.heap.size, 0, none⟩ = some (.int .i64 (f.fractionBits : Int)) := (by rw [g4.1.cell (by first | (simp; done) | (simp; omega) | omega)]; go_simp); have h4_0_1 : w4.cell? ⟨w.heap.size, 1, none⟩ = some (.int .i64 (f.exponentBits : Int)) := (by rw [g4.1.cell (by first | (simp; done) | (simp; omega) | omega)]; go_simp)))
  go_wp2_with fail
  refine (N1.out _).mono ?_
  rintro e w5 ⟨rfl, g5⟩
  have l5_0 : w.heap.size < w5.heap.size := Nat.lt_of_lt_of_le (by first | (simp; done) | (simp; omega) | omega) g5.2
  have h5_0_0 : w5.cell? ⟨w.heap.size, 0, none⟩ = some (.int .i64 (f.fractionBits : Int)) := (by rw [g5.1.cell (by first | (simp; done) | (simp; omega) | omega)]; go_simp)
  have h5_0_1 : w5.cell? ⟨w.heap.size, 1, none⟩ = some (.int .i64 (f.exponentBits : Int)) := (by rw [g5.1.cell (by first | (simp; done) | (simp; omega) | omega)]; go_simp)
  go_wp2_with fail
  refine (N2.out _).mono ?_
  rintro e w6 ⟨rfl, g6⟩
  have l6_0 : w.heap.size < w6.heap.size := Nat.lt_of_lt_of_le (by first | (simp; done) | (simp; omega) | omega) g6.2
  have h6_0_0 : w6.cell? ⟨w.heap.size, 0, none⟩ = some (.int .i64 (f.fractionBits : Int)) := (by rw [g6.1.cell (by first | (simp; done) | (simp; omega) | omega)]; go_simp)
  have h6_0_1 : w6.cell? ⟨w.heap.size, 1, none⟩ = some (.int .i64 (f.exponentBits : Int)) := (by rw [g6.1.cell (by first | (simp; done) | (simp; omega) | omega)]; go_simp)
  go_wp2
  go_ret
  go_light
  refine ⟨rfl, ?_⟩
  repeat (first | exact Grew.refl _ | refine Grew.drew ?_ | refine Grew.drewN ?_ _ | refine Grew.alloc ?_ _ | refine Grew.set ?_ (by first | (simp; done) | (simp; omega) | omega) _ | refine Grew.trans ?_ g1 | refine Grew.trans ?_ g2 | refine Grew.trans ?_ g3 | refine Grew.trans ?_ g4 | refine Grew.trans ?_ g5 | refine Grew.trans ?_ g6 | assumption)
set_option maxRecDepth 100000 in
set_option maxHeartbeats 2000000 in
theorem FCmp_3n0 {f : Ieee.Format} (a b A D : Nat) (x y : Int) (c : Bool) (w : World) (hc : (decide (y < x)) = false)
    (U1 : Hid (∀ w : World, Calls Tryd.prog 58 #[.agg #[.int .i64 (f.fractionBits : Int), .int .i64 (f.exponentBits : Int)], .int .u64 (a : Int)] w fun e w' => e = .returned (.int .u64 (A : Int)) ∧ Grew w w'))
    (U2 : Hid (∀ w : World, Calls Tryd.prog 58 #[.agg #[.int .i64 (f.fractionBits : Int), .int .i64 (f.exponentBits : Int)], .int .u64 (b : Int)] w fun e w' => e = .returned (.int .u64 (D : Int)) ∧ Grew w w'))
    (K1 : Hid (∀ w : World, Calls Tryd.prog 71 #[.agg #[.int .i64 (f.fractionBits : Int), .int .i64 (f.exponentBits : Int)], .int .u64 (A : Int)] w fun e w' => e = .returned (.int .i64 x) ∧ Grew w w'))
    (K2 : Hid (∀ w : World, Calls Tryd.prog 71 #[.agg #[.int .i64 (f.fractionBits : Int), .int .i64 (f.exponentBits : Int)], .int .u64 (D : Int)] w fun e w' => e = .returned (.int .i64 y) ∧ Grew w w'))
    (N1 : Hid (∀ w : World, Calls Tryd.prog 61 #[.agg #[.int .i64 (f.fractionBits : Int), .int .i64 (f.exponentBits : Int)], .int .u64 (A : Int)] w fun e w' => e = .returned (.bool false) ∧ Grew w w'))
    (N2 : Hid (∀ w : World, Calls Tryd.prog 61 #[.agg #[.int .i64 (f.fractionBits : Int), .int .i64 (f.exponentBits : Int)], .int .u64 (D : Int)] w fun e w' => e = .returned (.bool false) ∧ Grew w w')) :
    Calls Tryd.prog 36 #[fv f, .int .i64 3, .int .u64 (a : Int), .int .u64 (b : Int)] w fun e w' => e = .returned (.int .u64 0) ∧ Grew w w' := by
  unfold fv
  go_enter Tryd.func36, Tryd.ntmps36
  go_wp2_with fail
  go_region_held3 (fun w' => w'.cell? ⟨w.heap.size, 0, none⟩ = some (.int .i64 (f.fractionBits : Int)) ∧ w'.cell? ⟨w.heap.size, 1, none⟩ = some (.int .i64 (f.exponentBits : Int))) (go_keep)
    (first
    | (go_at_call_of 58 (Value.int IntKind.u64 (a : Int)); refine (U1.out _).mono ?_; rintro e w1 ⟨rfl, g1⟩; have l1_0 : w.heap.size < w1.heap.size := Nat.lt_of_lt_of_le (by first | (simp; done) | (simp; omega) | omega) g1.2; have h1_0_0 : w1.cell? ⟨w.heap.size, 0, none⟩ = some (.int .i64 (f.fractionBits : Int)) := (by rw [g1.1.cell (by first | (simp; done) | (simp; omega) | omega)]; go_simp); have h1_0_1 : w1.cell? ⟨w.heap.size, 1, none⟩ = some (.int .i64 (f.exponentBits : Int)) := (by rw [g1.1.cell (by first | (simp; done) | (simp; omega) | omega)]; go_simp))
    | (go_at_call_of 58 (Value.int IntKind.u64 (b : Int)); refine (U2.out _).mono ?_; rintro e w2 ⟨rfl, g2⟩; have l2_0 : w.heap.size < w2.heap.size := Nat.lt_of_lt_of_le (by first | (simp; done) | (simp; omega) | omega) g2.2; have h2_0_0 : w2.cell? ⟨w.heap.size, 0, none⟩ = some (.int .i64 (f.fractionBits : Int)) := (by rw [g2.1.cell (by first | (simp; done) | (simp; omega) | omega)]; go_simp); have h2_0_1 : w2.cell? ⟨w.heap.size, 1, none⟩ = some (.int .i64 (f.exponentBits : Int)) := (by rw [g2.1.cell (by first | (simp; done) | (simp; omega) | omega)]; go_simp)))
  go_wp2_with fail
  go_region_held3 (fun w' => w'.cell? ⟨w.heap.size, 0, none⟩ = some (.int .i64 (f.fractionBits : Int)) ∧ w'.cell? ⟨w.heap.size, 1, none⟩ = some (.int .i64 (f.exponentBits : Int))) (go_keep)
    (first
    | (go_at_call_of 71 (Value.int IntKind.u64 (A : Int)); refine (K1.out _).mono ?_; rintro e w3 ⟨rfl, g3⟩; have l3_0 : w.heap.size < w3.heap.size := Nat.lt_of_lt_of_le (by first | (simp; done) | (simp; omega) | omega) g3.2; have h3_0_0 : w3.cell? ⟨w.heap.size, 0, none⟩ = some (.int .i64 (f.fractionBits : Int)) := (by rw [g3.1.cell (by first | (simp; done) | (simp; omega) | omega)]; go_simp); have h3_0_1 : w3.cell? ⟨w.heap.size, 1, none⟩ = some (.int .i64 (f.exponentBits : Int)) := (by rw [g3.1.cell (by first | (simp; done) | (simp; omega) | omega)]; go_simp))
    | (go_at_call_of 71 (Value.int IntKind.u64 (D : Int)); refine (K2.out _).mono ?_; rintro e w4 ⟨rfl, g4⟩; have l4_0 : w.heap.size < w4.heap.size := Nat.lt_of_lt_of_le (by first | (simp; done) | (simp; omega) | omega) g4.2; have h4_0_0 : w4.cell? ⟨w.heap.size, 0, none⟩ = some (.int .i64 (f.fractionBits : Int)) := (by rw [g4.1.cell (by first | (simp; done) | (simp; omega) | omega)]; go_simp); have h4_0_1 : w4.cell? ⟨w.heap.size, 1, none⟩ = some (.int .i64 (f.exponentBits : Int)) := (by rw [g4.1.cell (by first | (simp; done) | (simp; omega) | omega)]; go_simp)))
  go_wp2_with fail
  refine (N1.out _).mono ?_
  rintro e w5 ⟨rfl, g5⟩
  have l5_0 : w.heap.size < w5.heap.size := Nat.lt_of_lt_of_le (by first | (simp; done) | (simp; omega) | omega) g5.2
  have h5_0_0 : w5.cell? ⟨w.heap.size, 0, none⟩ = some (.int .i64 (f.fractionBits : Int)) := (by rw [g5.1.cell (by first | (simp; done) | (simp; omega) | omega)]; go_simp)
  have h5_0_1 : w5.cell? ⟨w.heap.size, 1, none⟩ = some (.int .i64 (f.exponentBits : Int)) := (by rw [g5.1.cell (by first | (simp; done) | (simp; omega) | omega)]; go_simp)
  go_wp2_with fail
  refine (N2.out _).mono ?_
  rintro e w6 ⟨rfl, g6⟩
  have l6_0 : w.heap.size < w6.heap.size := Nat.lt_of_lt_of_le (by first | (simp; done) | (simp; omega) | omega) g6.2
  have h6_0_0 : w6.cell? ⟨w.heap.size, 0, none⟩ = some (.int .i64 (f.fractionBits : Int)) := (by rw [g6.1.cell (by first | (simp; done) | (simp; omega) | omega)]; go_simp)
  have h6_0_1 : w6.cell? ⟨w.heap.size, 1, none⟩ = some (.int .i64 (f.exponentBits : Int)) := (by rw [g6.1.cell (by first | (simp; done) | (simp; omega) | omega)]; go_simp)
  go_wp2
  go_ret
  go_light
  refine ⟨rfl, ?_⟩
  repeat (first | exact Grew.refl _ | refine Grew.drew ?_ | refine Grew.drewN ?_ _ | refine Grew.alloc ?_ _ | refine Grew.set ?_ (by first | (simp; done) | (simp; omega) | omega) _ | refine Grew.trans ?_ g1 | refine Grew.trans ?_ g2 | refine Grew.trans ?_ g3 | refine Grew.trans ?_ g4 | refine Grew.trans ?_ g5 | refine Grew.trans ?_ g6 | assumption)
set_option maxRecDepth 100000 in
set_option maxHeartbeats 2000000 in
theorem FCmp_4a {f : Ieee.Format} (a b A D : Nat) (x y : Int) (c : Bool) (w : World)
    (U1 : Hid (∀ w : World, Calls Tryd.prog 58 #[.agg #[.int .i64 (f.fractionBits : Int), .int .i64 (f.exponentBits : Int)], .int .u64 (a : Int)] w fun e w' => e = .returned (.int .u64 (A : Int)) ∧ Grew w w'))
    (U2 : Hid (∀ w : World, Calls Tryd.prog 58 #[.agg #[.int .i64 (f.fractionBits : Int), .int .i64 (f.exponentBits : Int)], .int .u64 (b : Int)] w fun e w' => e = .returned (.int .u64 (D : Int)) ∧ Grew w w'))
    (K1 : Hid (∀ w : World, Calls Tryd.prog 71 #[.agg #[.int .i64 (f.fractionBits : Int), .int .i64 (f.exponentBits : Int)], .int .u64 (A : Int)] w fun e w' => e = .returned (.int .i64 x) ∧ Grew w w'))
    (K2 : Hid (∀ w : World, Calls Tryd.prog 71 #[.agg #[.int .i64 (f.fractionBits : Int), .int .i64 (f.exponentBits : Int)], .int .u64 (D : Int)] w fun e w' => e = .returned (.int .i64 y) ∧ Grew w w'))
    (N1 : Hid (∀ w : World, Calls Tryd.prog 61 #[.agg #[.int .i64 (f.fractionBits : Int), .int .i64 (f.exponentBits : Int)], .int .u64 (A : Int)] w fun e w' => e = .returned (.bool true) ∧ Grew w w')) :
    Calls Tryd.prog 36 #[fv f, .int .i64 4, .int .u64 (a : Int), .int .u64 (b : Int)] w fun e w' => e = .returned (.int .u64 0) ∧ Grew w w' := by
  unfold fv
  go_enter Tryd.func36, Tryd.ntmps36
  go_wp2_with fail
  go_region_held3 (fun w' => w'.cell? ⟨w.heap.size, 0, none⟩ = some (.int .i64 (f.fractionBits : Int)) ∧ w'.cell? ⟨w.heap.size, 1, none⟩ = some (.int .i64 (f.exponentBits : Int))) (go_keep)
    (first
    | (go_at_call_of 58 (Value.int IntKind.u64 (a : Int)); refine (U1.out _).mono ?_; rintro e w1 ⟨rfl, g1⟩; have l1_0 : w.heap.size < w1.heap.size := Nat.lt_of_lt_of_le (by first | (simp; done) | (simp; omega) | omega) g1.2; have h1_0_0 : w1.cell? ⟨w.heap.size, 0, none⟩ = some (.int .i64 (f.fractionBits : Int)) := (by rw [g1.1.cell (by first | (simp; done) | (simp; omega) | omega)]; go_simp); have h1_0_1 : w1.cell? ⟨w.heap.size, 1, none⟩ = some (.int .i64 (f.exponentBits : Int)) := (by rw [g1.1.cell (by first | (simp; done) | (simp; omega) | omega)]; go_simp))
    | (go_at_call_of 58 (Value.int IntKind.u64 (b : Int)); refine (U2.out _).mono ?_; rintro e w2 ⟨rfl, g2⟩; have l2_0 : w.heap.size < w2.heap.size := Nat.lt_of_lt_of_le (by first | (simp; done) | (simp; omega) | omega) g2.2; have h2_0_0 : w2.cell? ⟨w.heap.size, 0, none⟩ = some (.int .i64 (f.fractionBits : Int)) := (by rw [g2.1.cell (by first | (simp; done) | (simp; omega) | omega)]; go_simp); have h2_0_1 : w2.cell? ⟨w.heap.size, 1, none⟩ = some (.int .i64 (f.exponentBits : Int)) := (by rw [g2.1.cell (by first | (simp; done) | (simp; omega) | omega)]; go_simp)))
  go_wp2_with fail
  go_region_held3 (fun w' => w'.cell? ⟨w.heap.size, 0, none⟩ = some (.int .i64 (f.fractionBits : Int)) ∧ w'.cell? ⟨w.heap.size, 1, none⟩ = some (.int .i64 (f.exponentBits : Int))) (go_keep)
    (first
    | (go_at_call_of 71 (Value.int IntKind.u64 (A : Int)); refine (K1.out _).mono ?_; rintro e w3 ⟨rfl, g3⟩; have l3_0 : w.heap.size < w3.heap.size := Nat.lt_of_lt_of_le (by first | (simp; done) | (simp; omega) | omega) g3.2; have h3_0_0 : w3.cell? ⟨w.heap.size, 0, none⟩ = some (.int .i64 (f.fractionBits : Int)) := (by rw [g3.1.cell (by first | (simp; done) | (simp; omega) | omega)]; go_simp); have h3_0_1 : w3.cell? ⟨w.heap.size, 1, none⟩ = some (.int .i64 (f.exponentBits : Int)) := (by rw [g3.1.cell (by first | (simp; done) | (simp; omega) | omega)]; go_simp))
    | (go_at_call_of 71 (Value.int IntKind.u64 (D : Int)); refine (K2.out _).mono ?_; rintro e w4 ⟨rfl, g4⟩; have l4_0 : w.heap.size < w4.heap.size := Nat.lt_of_lt_of_le (by first | (simp; done) | (simp; omega) | omega) g4.2; have h4_0_0 : w4.cell? ⟨w.heap.size, 0, none⟩ = some (.int .i64 (f.fractionBits : Int)) := (by rw [g4.1.cell (by first | (simp; done) | (simp; omega) | omega)]; go_simp); have h4_0_1 : w4.cell? ⟨w.heap.size, 1, none⟩ = some (.int .i64 (f.exponentBits : Int)) := (by rw [g4.1.cell (by first | (simp; done) | (simp; omega) | omega)]; go_simp)))
  go_wp2_with fail
  refine (N1.out _).mono ?_
  rintro e w5 ⟨rfl, g5⟩
  have l5_0 : w.heap.size < w5.heap.size := Nat.lt_of_lt_of_le (by first | (simp; done) | (simp; omega) | omega) g5.2
  have h5_0_0 : w5.cell? ⟨w.heap.size, 0, none⟩ = some (.int .i64 (f.fractionBits : Int)) := (by rw [g5.1.cell (by first | (simp; done) | (simp; omega) | omega)]; go_simp)
  have h5_0_1 : w5.cell? ⟨w.heap.size, 1, none⟩ = some (.int .i64 (f.exponentBits : Int)) := (by rw [g5.1.cell (by first | (simp; done) | (simp; omega) | omega)]; go_simp)
  go_wp2
  go_ret
  go_light
  refine ⟨rfl, ?_⟩
  repeat (first | exact Grew.refl _ | refine Grew.drew ?_ | refine Grew.drewN ?_ _ | refine Grew.alloc ?_ _ | refine Grew.set ?_ (by first | (simp; done) | (simp; omega) | omega) _ | refine Grew.trans ?_ g1 | refine Grew.trans ?_ g2 | refine Grew.trans ?_ g3 | refine Grew.trans ?_ g4 | refine Grew.trans ?_ g5 | assumption)
set_option maxRecDepth 100000 in
set_option maxHeartbeats 2000000 in
theorem FCmp_4b {f : Ieee.Format} (a b A D : Nat) (x y : Int) (c : Bool) (w : World)
    (U1 : Hid (∀ w : World, Calls Tryd.prog 58 #[.agg #[.int .i64 (f.fractionBits : Int), .int .i64 (f.exponentBits : Int)], .int .u64 (a : Int)] w fun e w' => e = .returned (.int .u64 (A : Int)) ∧ Grew w w'))
    (U2 : Hid (∀ w : World, Calls Tryd.prog 58 #[.agg #[.int .i64 (f.fractionBits : Int), .int .i64 (f.exponentBits : Int)], .int .u64 (b : Int)] w fun e w' => e = .returned (.int .u64 (D : Int)) ∧ Grew w w'))
    (K1 : Hid (∀ w : World, Calls Tryd.prog 71 #[.agg #[.int .i64 (f.fractionBits : Int), .int .i64 (f.exponentBits : Int)], .int .u64 (A : Int)] w fun e w' => e = .returned (.int .i64 x) ∧ Grew w w'))
    (K2 : Hid (∀ w : World, Calls Tryd.prog 71 #[.agg #[.int .i64 (f.fractionBits : Int), .int .i64 (f.exponentBits : Int)], .int .u64 (D : Int)] w fun e w' => e = .returned (.int .i64 y) ∧ Grew w w'))
    (N1 : Hid (∀ w : World, Calls Tryd.prog 61 #[.agg #[.int .i64 (f.fractionBits : Int), .int .i64 (f.exponentBits : Int)], .int .u64 (A : Int)] w fun e w' => e = .returned (.bool false) ∧ Grew w w'))
    (N2 : Hid (∀ w : World, Calls Tryd.prog 61 #[.agg #[.int .i64 (f.fractionBits : Int), .int .i64 (f.exponentBits : Int)], .int .u64 (D : Int)] w fun e w' => e = .returned (.bool true) ∧ Grew w w')) :
    Calls Tryd.prog 36 #[fv f, .int .i64 4, .int .u64 (a : Int), .int .u64 (b : Int)] w fun e w' => e = .returned (.int .u64 0) ∧ Grew w w' := by
  unfold fv
  go_enter Tryd.func36, Tryd.ntmps36
  go_wp2_with fail
  go_region_held3 (fun w' => w'.cell? ⟨w.heap.size, 0, none⟩ = some (.int .i64 (f.fractionBits : Int)) ∧ w'.cell? ⟨w.heap.size, 1, none⟩ = some (.int .i64 (f.exponentBits : Int))) (go_keep)
    (first
    | (go_at_call_of 58 (Value.int IntKind.u64 (a : Int)); refine (U1.out _).mono ?_; rintro e w1 ⟨rfl, g1⟩; have l1_0 : w.heap.size < w1.heap.size := Nat.lt_of_lt_of_le (by first | (simp; done) | (simp; omega) | omega) g1.2; have h1_0_0 : w1.cell? ⟨w.heap.size, 0, none⟩ = some (.int .i64 (f.fractionBits : Int)) := (by rw [g1.1.cell (by first | (simp; done) | (simp; omega) | omega)]; go_simp); have h1_0_1 : w1.cell? ⟨w.heap.size, 1, none⟩ = some (.int .i64 (f.exponentBits : Int)) := (by rw [g1.1.cell (by first | (simp; done) | (simp; omega) | omega)]; go_simp))
    | (go_at_call_of 58 (Value.int IntKind.u64 (b : Int)); refine (U2.out _).mono ?_; rintro e w2 ⟨rfl, g2⟩; have l2_0 : w.heap.size < w2.heap.size := Nat.lt_of_lt_of_le (by first | (simp; done) | (simp; omega) | omega) g2.2; have h2_0_0 : w2.cell? ⟨w.heap.size, 0, none⟩ = some (.int .i64 (f.fractionBits : Int)) := (by rw [g2.1.cell (by first | (simp; done) | (simp; omega) | omega)]; go_simp); have h2_0_1 : w2.cell? ⟨w.heap.size, 1, none⟩ = some (.int .i64 (f.exponentBits : Int)) := (by rw [g2.1.cell (by first | (simp; done) | (simp; omega) | omega)]; go_simp)))
  go_wp2_with fail
  go_region_held3 (fun w' => w'.cell? ⟨w.heap.size, 0, none⟩ = some (.int .i64 (f.fractionBits : Int)) ∧ w'.cell? ⟨w.heap.size, 1, none⟩ = some (.int .i64 (f.exponentBits : Int))) (go_keep)
    (first
    | (go_at_call_of 71 (Value.int IntKind.u64 (A : Int)); refine (K1.out _).mono ?_; rintro e w3 ⟨rfl, g3⟩; have l3_0 : w.heap.size < w3.heap.size := Nat.lt_of_lt_of_le (by first | (simp; done) | (simp; omega) | omega) g3.2; have h3_0_0 : w3.cell? ⟨w.heap.size, 0, none⟩ = some (.int .i64 (f.fractionBits : Int)) := (by rw [g3.1.cell (by first | (simp; done) | (simp; omega) | omega)]; go_simp); have h3_0_1 : w3.cell? ⟨w.heap.size, 1, none⟩ = some (.int .i64 (f.exponentBits : Int)) := (by rw [g3.1.cell (by first | (simp; done) | (simp; omega) | omega)]; go_simp))
    | (go_at_call_of 71 (Value.int IntKind.u64 (D : Int)); refine (K2.out _).mono ?_; rintro e w4 ⟨rfl, g4⟩; have l4_0 : w.heap.size < w4.heap.size := Nat.lt_of_lt_of_le (by first | (simp; done) | (simp; omega) | omega) g4.2; have h4_0_0 : w4.cell? ⟨w.heap.size, 0, none⟩ = some (.int .i64 (f.fractionBits : Int)) := (by rw [g4.1.cell (by first | (simp; done) | (simp; omega) | omega)]; go_simp); have h4_0_1 : w4.cell? ⟨w.heap.size, 1, none⟩ = some (.int .i64 (f.exponentBits : Int)) := (by rw [g4.1.cell (by first | (simp; done) | (simp; omega) | omega)]; go_simp)))
  go_wp2_with fail
  refine (N1.out _).mono ?_
  rintro e w5 ⟨rfl, g5⟩
  have l5_0 : w.heap.size < w5.heap.size := Nat.lt_of_lt_of_le (by first | (simp; done) | (simp; omega) | omega) g5.2
  have h5_0_0 : w5.cell? ⟨w.heap.size, 0, none⟩ = some (.int .i64 (f.fractionBits : Int)) := (by rw [g5.1.cell (by first | (simp; done) | (simp; omega) | omega)]; go_simp)
  have h5_0_1 : w5.cell? ⟨w.heap.size, 1, none⟩ = some (.int .i64 (f.exponentBits : Int)) := (by rw [g5.1.cell (by first | (simp; done) | (simp; omega) | omega)]; go_simp)
  go_wp2_with fail
  refine (N2.out _).mono ?_
  rintro e w6 ⟨rfl, g6⟩
  have l6_0 : w.heap.size < w6.heap.size := Nat.lt_of_lt_of_le (by first | (simp; done) | (simp; omega) | omega) g6.2
  have h6_0_0 : w6.cell? ⟨w.heap.size, 0, none⟩ = some (.int .i64 (f.fractionBits : Int)) := (by rw [g6.1.cell (by first | (simp; done) | (simp; omega) | omega)]; go_simp)
  have h6_0_1 : w6.cell? ⟨w.heap.size, 1, none⟩ = some (.int .i64 (f.exponentBits : Int)) := (by rw [g6.1.cell (by first | (simp; done) | (simp; omega) | omega)]; go_simp)
  go_wp2
  go_ret
  go_light
  refine ⟨rfl, ?_⟩
  repeat (first | exact Grew.refl _ | refine Grew.drew ?_ | refine Grew.drewN ?_ _ | refine Grew.alloc ?_ _ | refine Grew.set ?_ (by first | (simp; done) | (simp; omega) | omega) _ | refine Grew.trans ?_ g1 | refine Grew.trans ?_ g2 | refine Grew.trans ?_ g3 | refine Grew.trans ?_ g4 | refine Grew.trans ?_ g5 | refine Grew.trans ?_ g6 | assumption)
set_option maxRecDepth 100000 in
set_option maxHeartbeats 2000000 in
theorem FCmp_4n1 {f : Ieee.Format} (a b A D : Nat) (x y : Int) (c : Bool) (w : World) (hc : (decide (x ≤ y)) = true)
    (U1 : Hid (∀ w : World, Calls Tryd.prog 58 #[.agg #[.int .i64 (f.fractionBits : Int), .int .i64 (f.exponentBits : Int)], .int .u64 (a : Int)] w fun e w' => e = .returned (.int .u64 (A : Int)) ∧ Grew w w'))
    (U2 : Hid (∀ w : World, Calls Tryd.prog 58 #[.agg #[.int .i64 (f.fractionBits : Int), .int .i64 (f.exponentBits : Int)], .int .u64 (b : Int)] w fun e w' => e = .returned (.int .u64 (D : Int)) ∧ Grew w w'))
    (K1 : Hid (∀ w : World, Calls Tryd.prog 71 #[.agg #[.int .i64 (f.fractionBits : Int), .int .i64 (f.exponentBits : Int)], .int .u64 (A : Int)] w fun e w' => e = .returned (.int .i64 x) ∧ Grew w w'))
    (K2 : Hid (∀ w : World, Calls Tryd.prog 71 #[.agg #[.int .i64 (f.fractionBits : Int), .int .i64 (f.exponentBits : Int)], .int .u64 (D : Int)] w fun e w' => e = .returned (.int .i64 y) ∧ Grew w w'))
    (N1 : Hid (∀ w : World, Calls Tryd.prog 61 #[.agg #[.int .i64 (f.fractionBits : Int), .int .i64 (f.exponentBits : Int)], .int .u64 (A : Int)] w fun e w' => e = .returned (.bool false) ∧ Grew w w'))
    (N2 : Hid (∀ w : World, Calls Tryd.prog 61 #[.agg #[.int .i64 (f.fractionBits : Int), .int .i64 (f.exponentBits : Int)], .int .u64 (D : Int)] w fun e w' => e = .returned (.bool false) ∧ Grew w w')) :
    Calls Tryd.prog 36 #[fv f, .int .i64 4, .int .u64 (a : Int), .int .u64 (b : Int)] w fun e w' => e = .returned (.int .u64 1) ∧ Grew w w' := by
  unfold fv
  go_enter Tryd.func36, Tryd.ntmps36
  go_wp2_with fail
  go_region_held3 (fun w' => w'.cell? ⟨w.heap.size, 0, none⟩ = some (.int .i64 (f.fractionBits : Int)) ∧ w'.cell? ⟨w.heap.size, 1, none⟩ = some (.int .i64 (f.exponentBits : Int))) (go_keep)
    (first
    | (go_at_call_of 58 (Value.int IntKind.u64 (a : Int)); refine (U1.out _).mono ?_; rintro e w1 ⟨rfl, g1⟩; have l1_0 : w.heap.size < w1.heap.size := Nat.lt_of_lt_of_le (by first | (simp; done) | (simp; omega) | omega) g1.2; have h1_0_0 : w1.cell? ⟨w.heap.size, 0, none⟩ = some (.int .i64 (f.fractionBits : Int)) := (by rw [g1.1.cell (by first | (simp; done) | (simp; omega) | omega)]; go_simp); have h1_0_1 : w1.cell? ⟨w.heap.size, 1, none⟩ = some (.int .i64 (f.exponentBits : Int)) := (by rw [g1.1.cell (by first | (simp; done) | (simp; omega) | omega)]; go_simp))
    | (go_at_call_of 58 (Value.int IntKind.u64 (b : Int)); refine (U2.out _).mono ?_; rintro e w2 ⟨rfl, g2⟩; have l2_0 : w.heap.size < w2.heap.size := Nat.lt_of_lt_of_le (by first | (simp; done) | (simp; omega) | omega) g2.2; have h2_0_0 : w2.cell? ⟨w.heap.size, 0, none⟩ = some (.int .i64 (f.fractionBits : Int)) := (by rw [g2.1.cell (by first | (simp; done) | (simp; omega) | omega)]; go_simp); have h2_0_1 : w2.cell? ⟨w.heap.size, 1, none⟩ = some (.int .i64 (f.exponentBits : Int)) := (by rw [g2.1.cell (by first | (simp; done) | (simp; omega) | omega)]; go_simp)))
  go_wp2_with fail
  go_region_held3 (fun w' => w'.cell? ⟨w.heap.size, 0, none⟩ = some (.int .i64 (f.fractionBits : Int)) ∧ w'.cell? ⟨w.heap.size, 1, none⟩ = some (.int .i64 (f.exponentBits : Int))) (go_keep)
    (first
    | (go_at_call_of 71 (Value.int IntKind.u64 (A : Int)); refine (K1.out _).mono ?_; rintro e w3 ⟨rfl, g3⟩; have l3_0 : w.heap.size < w3.heap.size := Nat.lt_of_lt_of_le (by first | (simp; done) | (simp; omega) | omega) g3.2; have h3_0_0 : w3.cell? ⟨w.heap.size, 0, none⟩ = some (.int .i64 (f.fractionBits : Int)) := (by rw [g3.1.cell (by first | (simp; done) | (simp; omega) | omega)]; go_simp); have h3_0_1 : w3.cell? ⟨w.heap.size, 1, none⟩ = some (.int .i64 (f.exponentBits : Int)) := (by rw [g3.1.cell (by first | (simp; done) | (simp; omega) | omega)]; go_simp))
    | (go_at_call_of 71 (Value.int IntKind.u64 (D : Int)); refine (K2.out _).mono ?_; rintro e w4 ⟨rfl, g4⟩; have l4_0 : w.heap.size < w4.heap.size := Nat.lt_of_lt_of_le (by first | (simp; done) | (simp; omega) | omega) g4.2; have h4_0_0 : w4.cell? ⟨w.heap.size, 0, none⟩ = some (.int .i64 (f.fractionBits : Int)) := (by rw [g4.1.cell (by first | (simp; done) | (simp; omega) | omega)]; go_simp); have h4_0_1 : w4.cell? ⟨w.heap.size, 1, none⟩ = some (.int .i64 (f.exponentBits : Int)) := (by rw [g4.1.cell (by first | (simp; done) | (simp; omega) | omega)]; go_simp)))
  go_wp2_with fail
  refine (N1.out _).mono ?_
  rintro e w5 ⟨rfl, g5⟩
  have l5_0 : w.heap.size < w5.heap.size := Nat.lt_of_lt_of_le (by first | (simp; done) | (simp; omega) | omega) g5.2
  have h5_0_0 : w5.cell? ⟨w.heap.size, 0, none⟩ = some (.int .i64 (f.fractionBits : Int)) := (by rw [g5.1.cell (by first | (simp; done) | (simp; omega) | omega)]; go_simp)
  have h5_0_1 : w5.cell? ⟨w.heap.size, 1, none⟩ = some (.int .i64 (f.exponentBits : Int)) := (by rw [g5.1.cell (by first | (simp; done) | (simp; omega) | omega)]; go_simp)
  go_wp2_with fail
  refine (N2.out _).mono ?_
  rintro e w6 ⟨rfl, g6⟩
  have l6_0 : w.heap.size < w6.heap.size := Nat.lt_of_lt_of_le (by first | (simp; done) | (simp; omega) | omega) g6.2
  have h6_0_0 : w6.cell? ⟨w.heap.size, 0, none⟩ = some (.int .i64 (f.fractionBits : Int)) := (by rw [g6.1.cell (by first | (simp; done) | (simp; omega) | omega)]; go_simp)
  have h6_0_1 : w6.cell? ⟨w.heap.size, 1, none⟩ = some (.int .i64 (f.exponentBits : Int)) := (by rw [g6.1.cell (by first | (simp; done) | (simp; omega) | omega)]; go_simp)
  go_wp2
  go_ret
  go_light
  refine ⟨rfl, ?_⟩
  repeat (first | exact Grew.refl _ | refine Grew.drew ?_ | refine Grew.drewN ?_ _ | refine Grew.alloc ?_ _ | refine Grew.set ?_ (by first | (simp; done) | (simp; omega) | omega) _ | refine Grew.trans ?_ g1 | refine Grew.trans ?_ g2 | refine Grew.trans ?_ g3 | refine Grew.trans ?_ g4 | refine Grew.trans ?_ g5 | refine Grew.trans ?_ g6 | assumption)
set_option maxRecDepth 100000 in
set_option maxHeartbeats 2000000 in
theorem FCmp_4n0 {f : Ieee.Format} (a b A D : Nat) (x y : Int) (c : Bool) (w : World) (hc : (decide (x ≤ y)) = false)
    (U1 : Hid (∀ w : World, Calls Tryd.prog 58 #[.agg #[.int .i64 (f.fractionBits : Int), .int .i64 (f.exponentBits : Int)], .int .u64 (a : Int)] w fun e w' => e = .returned (.int .u64 (A : Int)) ∧ Grew w w'))
    (U2 : Hid (∀ w : World, Calls Tryd.prog 58 #[.agg #[.int .i64 (f.fractionBits : Int), .int .i64 (f.exponentBits : Int)], .int .u64 (b : Int)] w fun e w' => e = .returned (.int .u64 (D : Int)) ∧ Grew w w'))
    (K1 : Hid (∀ w : World, Calls Tryd.prog 71 #[.agg #[.int .i64 (f.fractionBits : Int), .int .i64 (f.exponentBits : Int)], .int .u64 (A : Int)] w fun e w' => e = .returned (.int .i64 x) ∧ Grew w w'))
    (K2 : Hid (∀ w : World, Calls Tryd.prog 71 #[.agg #[.int .i64 (f.fractionBits : Int), .int .i64 (f.exponentBits : Int)], .int .u64 (D : Int)] w fun e w' => e = .returned (.int .i64 y) ∧ Grew w w'))
    (N1 : Hid (∀ w : World, Calls Tryd.prog 61 #[.agg #[.int .i64 (f.fractionBits : Int), .int .i64 (f.exponentBits : Int)], .int .u64 (A : Int)] w fun e w' => e = .returned (.bool false) ∧ Grew w w'))
    (N2 : Hid (∀ w : World, Calls Tryd.prog 61 #[.agg #[.int .i64 (f.fractionBits : Int), .int .i64 (f.exponentBits : Int)], .int .u64 (D : Int)] w fun e w' => e = .returned (.bool false) ∧ Grew w w')) :
    Calls Tryd.prog 36 #[fv f, .int .i64 4, .int .u64 (a : Int), .int .u64 (b : Int)] w fun e w' => e = .returned (.int .u64 0) ∧ Grew w w' := by
  unfold fv
  go_enter Tryd.func36, Tryd.ntmps36
  go_wp2_with fail
  go_region_held3 (fun w' => w'.cell? ⟨w.heap.size, 0, none⟩ = some (.int .i64 (f.fractionBits : Int)) ∧ w'.cell? ⟨w.heap.size, 1, none⟩ = some (.int .i64 (f.exponentBits : Int))) (go_keep)
    (first
    | (go_at_call_of 58 (Value.int IntKind.u64 (a : Int)); refine (U1.out _).mono ?_; rintro e w1 ⟨rfl, g1⟩; have l1_0 : w.heap.size < w1.heap.size := Nat.lt_of_lt_of_le (by first | (simp; done) | (simp; omega) | omega) g1.2; have h1_0_0 : w1.cell? ⟨w.heap.size, 0, none⟩ = some (.int .i64 (f.fractionBits : Int)) := (by rw [g1.1.cell (by first | (simp; done) | (simp; omega) | omega)]; go_simp); have h1_0_1 : w1.cell? ⟨w.heap.size, 1, none⟩ = some (.int .i64 (f.exponentBits : Int)) := (by rw [g1.1.cell (by first | (simp; done) | (simp; omega) | omega)]; go_simp))
    | (go_at_call_of 58 (Value.int IntKind.u64 (b : Int)); refine (U2.out _).mono ?_; rintro e w2 ⟨rfl, g2⟩; have l2_0 : w.heap.size < w2.heap.size := Nat.lt_of_lt_of_le (by first | (simp; done) | (simp; omega) | omega) g2.2; have h2_0_0 : w2.cell? ⟨w.heap.size, 0, none⟩ = some (.int .i64 (f.fractionBits : Int)) := (by rw [g2.1.cell (by first | (simp; done) | (simp; omega) | omega)]; go_simp); have h2_0_1 : w2.cell? ⟨w.heap.size, 1, none⟩ = some (.int .i64 (f.exponentBits : Int)) := (by rw [g2.1.cell (by first | (simp; done) | (simp; omega) | omega)]; go_simp)))
  go_wp2_with fail
  go_region_held3 (fun w' => w'.cell? ⟨w.heap.size, 0, none⟩ = some (.int .i64 (f.fractionBits : Int)) ∧ w'.cell? ⟨w.heap.size, 1, none⟩ = some (.int .i64 (f.exponentBits : Int))) (go_keep)
    (first
    | (go_at_call_of 71 (Value.int IntKind.u64 (A : Int)); refine (K1.out _).mono ?_; rintro e w3 ⟨rfl, g3⟩; have l3_0 : w.heap.size < w3.heap.size := Nat.lt_of_lt_of_le (by first | (simp; done) | (simp; omega) | omega) g3.2; have h3_0_0 : w3.cell? ⟨w.heap.size, 0, none⟩ = some (.int .i64 (f.fractionBits : Int)) := (by rw [g3.1.cell (by first | (simp; done) | (simp; omega) | omega)]; go_simp); have h3_0_1 : w3.cell? ⟨w.heap.size, 1, none⟩ = some (.int .i64 (f.exponentBits : Int)) := (by rw [g3.1.cell (by first | (simp; done) | (simp; omega) | omega)]; go_simp))
    | (go_at_call_of 71 (Value.int IntKind.u64 (D : Int)); refine (K2.out _).mono ?_; rintro e w4 ⟨rfl, g4⟩; have l4_0 : w.heap.size < w4.heap.size := Nat.lt_of_lt_of_le (by first | (simp; done) | (simp; omega) | omega) g4.2; have h4_0_0 : w4.cell? ⟨w.heap.size, 0, none⟩ = some (.int .i64 (f.fractionBits : Int)) := (by rw [g4.1.cell (by first | (simp; done) | (simp; omega) | omega)]; go_simp); have h4_0_1 : w4.cell? ⟨w.heap.size, 1, none⟩ = some (.int .i64 (f.exponentBits : Int)) := (by rw [g4.1.cell (by first | (simp; done) | (simp; omega) | omega)]; go_simp)))
  go_wp2_with fail
  refine (N1.out _).mono ?_
  rintro e w5 ⟨rfl, g5⟩
  have l5_0 : w.heap.size < w5.heap.size := Nat.lt_of_lt_of_le (by first | (simp; done) | (simp; omega) | omega) g5.2
  have h5_0_0 : w5.cell? ⟨w.heap.size, 0, none⟩ = some (.int .i64 (f.fractionBits : Int)) := (by rw [g5.1.cell (by first | (simp; done) | (simp; omega) | omega)]; go_simp)
  have h5_0_1 : w5.cell? ⟨w.heap.size, 1, none⟩ = some (.int .i64 (f.exponentBits : Int)) := (by rw [g5.1.cell (by first | (simp; done) | (simp; omega) | omega)]; go_simp)
  go_wp2_with fail
  refine (N2.out _).mono ?_
  rintro e w6 ⟨rfl, g6⟩
  have l6_0 : w.heap.size < w6.heap.size := Nat.lt_of_lt_of_le (by first | (simp; done) | (simp; omega) | omega) g6.2
  have h6_0_0 : w6.cell? ⟨w.heap.size, 0, none⟩ = some (.int .i64 (f.fractionBits : Int)) := (by rw [g6.1.cell (by first | (simp; done) | (simp; omega) | omega)]; go_simp)
  have h6_0_1 : w6.cell? ⟨w.heap.size, 1, none⟩ = some (.int .i64 (f.exponentBits : Int)) := (by rw [g6.1.cell (by first | (simp; done) | (simp; omega) | omega)]; go_simp)
  go_wp2
  go_ret
  go_light
  refine ⟨rfl, ?_⟩
  repeat (first | exact Grew.refl _ | refine Grew.drew ?_ | refine Grew.drewN ?_ _ | refine Grew.alloc ?_ _ | refine Grew.set ?_ (by first | (simp; done) | (simp; omega) | omega) _ | refine Grew.trans ?_ g1 | refine Grew.trans ?_ g2 | refine Grew.trans ?_ g3 | refine Grew.trans ?_ g4 | refine Grew.trans ?_ g5 | refine Grew.trans ?_ g6 | assumption)
set_option maxRecDepth 100000 in
set_option maxHeartbeats 2000000 in
theorem FCmp_5a {f : Ieee.Format} (a b A D : Nat) (x y : Int) (c : Bool) (w : World)
    (U1 : Hid (∀ w : World, Calls Tryd.prog 58 #[.agg #[.int .i64 (f.fractionBits : Int), .int .i64 (f.exponentBits : Int)], .int .u64 (a : Int)] w fun e w' => e = .returned (.int .u64 (A : Int)) ∧ Grew w w'))
    (U2 : Hid (∀ w : World, Calls Tryd.prog 58 #[.agg #[.int .i64 (f.fractionBits : Int), .int .i64 (f.exponentBits : Int)], .int .u64 (b : Int)] w fun e w' => e = .returned (.int .u64 (D : Int)) ∧ Grew w w'))
    (K1 : Hid (∀ w : World, Calls Tryd.prog 71 #[.agg #[.int .i64 (f.fractionBits : Int), .int .i64 (f.exponentBits : Int)], .int .u64 (A : Int)] w fun e w' => e = .returned (.int .i64 x) ∧ Grew w w'))
    (K2 : Hid (∀ w : World, Calls Tryd.prog 71 #[.agg #[.int .i64 (f.fractionBits : Int), .int .i64 (f.exponentBits : Int)], .int .u64 (D : Int)] w fun e w' => e = .returned (.int .i64 y) ∧ Grew w w'))
    (N1 : Hid (∀ w : World, Calls Tryd.prog 61 #[.agg #[.int .i64 (f.fractionBits : Int), .int .i64 (f.exponentBits : Int)], .int .u64 (A : Int)] w fun e w' => e = .returned (.bool true) ∧ Grew w w')) :
    Calls Tryd.prog 36 #[fv f, .int .i64 5, .int .u64 (a : Int), .int .u64 (b : Int)] w fun e w' => e = .returned (.int .u64 0) ∧ Grew w w' := by
  unfold fv
  go_enter Tryd.func36, Tryd.ntmps36
  go_wp2_with fail
  go_region_held3 (fun w' => w'.cell? ⟨w.heap.size, 0, none⟩ = some (.int .i64 (f.fractionBits : Int)) ∧ w'.cell? ⟨w.heap.size, 1, none⟩ = some (.int .i64 (f.exponentBits : Int))) (go_keep)
    (first
    | (go_at_call_of 58 (Value.int IntKind.u64 (a : Int)); refine (U1.out _).mono ?_; rintro e w1 ⟨rfl, g1⟩; have l1_0 : w.heap.size < w1.heap.size := Nat.lt_of_lt_of_le (by first | (simp; done) | (simp; omega) | omega) g1.2; have h1_0_0 : w1.cell? ⟨w.heap.size, 0, none⟩ = some (.int .i64 (f.fractionBits : Int)) := (by rw [g1.1.cell (by first | (simp; done) | (simp; omega) | omega)]; go_simp); have h1_0_1 : w1.cell? ⟨w.heap.size, 1, none⟩ = some (.int .i64 (f.exponentBits : Int)) := (by rw [g1.1.cell (by first | (simp; done) | (simp; omega) | omega)]; go_simp))
    | (go_at_call_of 58 (Value.int IntKind.u64 (b : Int)); refine (U2.out _).mono ?_; rintro e w2 ⟨rfl, g2⟩; have l2_0 : w.heap.size < w2.heap.size := Nat.lt_of_lt_of_le (by first | (simp; done) | (simp; omega) | omega) g2.2; have h2_0_0 : w2.cell? ⟨w.heap.size, 0, none⟩ = some (.int .i64 (f.fractionBits : Int)) := (by rw [g2.1.cell (by first | (simp; done) | (simp; omega) | omega)]; go_simp); have h2_0_1 : w2.cell? ⟨w.heap.size, 1, none⟩ = some (.int .i64 (f.exponentBits : Int)) := (by rw [g2.1.cell (by first | (simp; done) | (simp; omega) | omega)]; go_simp)))
  go_wp2_with fail
  go_region_held3 (fun w' => w'.cell? ⟨w.heap.size, 0, none⟩ = some (.int .i64 (f.fractionBits : Int)) ∧ w'.cell? ⟨w.heap.size, 1, none⟩ = some (.int .i64 (f.exponentBits : Int))) (go_keep)
    (first
    | (go_at_call_of 71 (Value.int IntKind.u64 (A : Int)); refine (K1.out _).mono ?_; rintro e w3 ⟨rfl, g3⟩; have l3_0 : w.heap.size < w3.heap.size := Nat.lt_of_lt_of_le (by first | (simp; done) | (simp; omega) | omega) g3.2; have h3_0_0 : w3.cell? ⟨w.heap.size, 0, none⟩ = some (.int .i64 (f.fractionBits : Int)) := (by rw [g3.1.cell (by first | (simp; done) | (simp; omega) | omega)]; go_simp); have h3_0_1 : w3.cell? ⟨w.heap.size, 1, none⟩ = some (.int .i64 (f.exponentBits : Int)) := (by rw [g3.1.cell (by first | (simp; done) | (simp; omega) | omega)]; go_simp))
    | (go_at_call_of 71 (Value.int IntKind.u64 (D : Int)); refine (K2.out _).mono ?_; rintro e w4 ⟨rfl, g4⟩; have l4_0 : w.heap.size < w4.heap.size := Nat.lt_of_lt_of_le (by first | (simp; done) | (simp; omega) | omega) g4.2; have h4_0_0 : w4.cell? ⟨w.heap.size, 0, none⟩ = some (.int .i64 (f.fractionBits : Int)) := (by rw [g4.1.cell (by first | (simp; done) | (simp; omega) | omega)]; go_simp); have h4_0_1 : w4.cell? ⟨w.heap.size, 1, none⟩ = some (.int .i64 (f.exponentBits : Int)) := (by rw [g4.1.cell (by first | (simp; done) | (simp; omega) | omega)]; go_simp)))
  go_wp2_with fail
  refine (N1.out _).mono ?_
  rintro e w5 ⟨rfl, g5⟩
  have l5_0 : w.heap.size < w5.heap.size := Nat.lt_of_lt_of_le (by first | (simp; done) | (simp; omega) | omega) g5.2
  have h5_0_0 : w5.cell? ⟨w.heap.size, 0, none⟩ = some (.int .i64 (f.fractionBits : Int)) := (by rw [g5.1.cell (by first | (simp; done) | (simp; omega) | omega)]; go_simp)
  have h5_0_1 : w5.cell? ⟨w.heap.size, 1, none⟩ = some (.int .i64 (f.exponentBits : Int)) := (by rw [g5.1.cell (by first | (simp; done) | (simp; omega) | omega)]; go_simp)
  go_wp2
  go_ret
  go_light
  refine ⟨rfl, ?_⟩
  repeat (first | exact Grew.refl _ | refine Grew.drew ?_ | refine Grew.drewN ?_ _ | refine Grew.alloc ?_ _ | refine Grew.set ?_ (by first | (simp; done) | (simp; omega) | omega) _ | refine Grew.trans ?_ g1 | refine Grew.trans ?_ g2 | refine Grew.trans ?_ g3 | refine Grew.trans ?_ g4 | refine Grew.trans ?_ g5 | assumption)
set_option maxRecDepth 100000 in
set_option maxHeartbeats 2000000 in
theorem FCmp_5b {f : Ieee.Format} (a b A D : Nat) (x y : Int) (c : Bool) (w : World)
    (U1 : Hid (∀ w : World, Calls Tryd.prog 58 #[.agg #[.int .i64 (f.fractionBits : Int), .int .i64 (f.exponentBits : Int)], .int .u64 (a : Int)] w fun e w' => e = .returned (.int .u64 (A : Int)) ∧ Grew w w'))
    (U2 : Hid (∀ w : World, Calls Tryd.prog 58 #[.agg #[.int .i64 (f.fractionBits : Int), .int .i64 (f.exponentBits : Int)], .int .u64 (b : Int)] w fun e w' => e = .returned (.int .u64 (D : Int)) ∧ Grew w w'))
    (K1 : Hid (∀ w : World, Calls Tryd.prog 71 #[.agg #[.int .i64 (f.fractionBits : Int), .int .i64 (f.exponentBits : Int)], .int .u64 (A : Int)] w fun e w' => e = .returned (.int .i64 x) ∧ Grew w w'))
    (K2 : Hid (∀ w : World, Calls Tryd.prog 71 #[.agg #[.int .i64 (f.fractionBits : Int), .int .i64 (f.exponentBits : Int)], .int .u64 (D : Int)] w fun e w' => e = .returned (.int .i64 y) ∧ Grew w w'))
    (N1 : Hid (∀ w : World, Calls Tryd.prog 61 #[.agg #[.int .i64 (f.fractionBits : Int), .int .i64 (f.exponentBits : Int)], .int .u64 (A : Int)] w fun e w' => e = .returned (.bool false) ∧ Grew w w'))
    (N2 : Hid (∀ w : World, Calls Tryd.prog 61 #[.agg #[.int .i64 (f.fractionBits : Int), .int .i64 (f.exponentBits : Int)], .int .u64 (D : Int)] w fun e w' => e = .returned (.bool true) ∧ Grew w w')) :
    Calls Tryd.prog 36 #[fv f, .int .i64 5, .int .u64 (a : Int), .int .u64 (b : Int)] w fun e w' => e = .returned (.int .u64 0) ∧ Grew w w' := by
  unfold fv
  go_enter Tryd.func36, Tryd.ntmps36
  go_wp2_with fail
  go_region_held3 (fun w' => w'.cell? ⟨w.heap.size, 0, none⟩ = some (.int .i64 (f.fractionBits : Int)) ∧ w'.cell? ⟨w.heap.size, 1, none⟩ = some (.int .i64 (f.exponentBits : Int))) (go_keep)
    (first
    | (go_at_call_of 58 (Value.int IntKind.u64 (a : Int)); refine (U1.out _).mono ?_; rintro e w1 ⟨rfl, g1⟩; have l1_0 : w.heap.size < w1.heap.size := Nat.lt_of_lt_of_le (by first | (simp; done) | (simp; omega) | omega) g1.2; have h1_0_0 : w1.cell? ⟨w.heap.size, 0, none⟩ = some (.int .i64 (f.fractionBits : Int)) := (by rw [g1.1.cell (by first | (simp; done) | (simp; omega) | omega)]; go_simp); have h1_0_1 : w1.cell? ⟨w.heap.size, 1, none⟩ = some (.int .i64 (f.exponentBits : Int)) := (by rw [g1.1.cell (by first | (simp; done) | (simp; omega) | omega)]; go_simp))
    | (go_at_call_of 58 (Value.int IntKind.u64 (b : Int)); refine (U2.out _).mono ?_; rintro e w2 ⟨rfl, g2⟩; have l2_0 : w.heap.size < w2.heap.size := Nat.lt_of_lt_of_le (by first | (simp; done) | (simp; omega) | omega) g2.2; have h2_0_0 : w2.cell? ⟨w.heap.size, 0, none⟩ = some (.int .i64 (f.fractionBits : Int)) := (by rw [g2.1.cell (by first | (simp; done) | (simp; omega) | omega)]; go_simp); have h2_0_1 : w2.cell? ⟨w.heap.size, 1, none⟩ = some (.int .i64 (f.exponentBits : Int)) := (by rw [g2.1.cell (by first | (simp; done) | (simp; omega) | omega)]; go_simp)))
  go_wp2_with fail
  go_region_held3 (fun w' => w'.cell? ⟨w.heap.size, 0, none⟩ = some (.int .i64 (f.fractionBits : Int)) ∧ w'.cell? ⟨w.heap.size, 1, none⟩ = some (.int .i64 (f.exponentBits : Int))) (go_keep)
    (first
    | (go_at_call_of 71 (Value.int IntKind.u64 (A : Int)); refine (K1.out _).mono ?_; rintro e w3 ⟨rfl, g3⟩; have l3_0 : w.heap.size < w3.heap.size := Nat.lt_of_lt_of_le (by first | (simp; done) | (simp; omega) | omega) g3.2; have h3_0_0 : w3.cell? ⟨w.heap.size, 0, none⟩ = some (.int .i64 (f.fractionBits : Int)) := (by rw [g3.1.cell (by first | (simp; done) | (simp; omega) | omega)]; go_simp); have h3_0_1 : w3.cell? ⟨w.heap.size, 1, none⟩ = some (.int .i64 (f.exponentBits : Int)) := (by rw [g3.1.cell (by first | (simp; done) | (simp; omega) | omega)]; go_simp))
    | (go_at_call_of 71 (Value.int IntKind.u64 (D : Int)); refine (K2.out _).mono ?_; rintro e w4 ⟨rfl, g4⟩; have l4_0 : w.heap.size < w4.heap.size := Nat.lt_of_lt_of_le (by first | (simp; done) | (simp; omega) | omega) g4.2; have h4_0_0 : w4.cell? ⟨w.heap.size, 0, none⟩ = some (.int .i64 (f.fractionBits : Int)) := (by rw [g4.1.cell (by first | (simp; done) | (simp; omega) | omega)]; go_simp); have h4_0_1 : w4.cell? ⟨w.heap.size, 1, none⟩ = some (.int .i64 (f.exponentBits : Int)) := (by rw [g4.1.cell (by first | (simp; done) | (simp; omega) | omega)]; go_simp)))
  go_wp2_with fail
  refine (N1.out _).mono ?_
  rintro e w5 ⟨rfl, g5⟩
  have l5_0 : w.heap.size < w5.heap.size := Nat.lt_of_lt_of_le (by first | (simp; done) | (simp; omega) | omega) g5.2
  have h5_0_0 : w5.cell? ⟨w.heap.size, 0, none⟩ = some (.int .i64 (f.fractionBits : Int)) := (by rw [g5.1.cell (by first | (simp; done) | (simp; omega) | omega)]; go_simp)
  have h5_0_1 : w5.cell? ⟨w.heap.size, 1, none⟩ = some (.int .i64 (f.exponentBits : Int)) := (by rw [g5.1.cell (by first | (simp; done) | (simp; omega) | omega)]; go_simp)
  go_wp2_with fail
  refine (N2.out _).mono ?_
  rintro e w6 ⟨rfl, g6⟩
  have l6_0 : w.heap.size < w6.heap.size := Nat.lt_of_lt_of_le (by first | (simp; done) | (simp; omega) | omega) g6.2
  have h6_0_0 : w6.cell? ⟨w.heap.size, 0, none⟩ = some (.int .i64 (f.fractionBits : Int)) := (by rw [g6.1.cell (by first | (simp; done) | (simp; omega) | omega)]; go_simp)
  have h6_0_1 : w6.cell? ⟨w.heap.size, 1, none⟩ = some (.int .i64 (f.exponentBits : Int)) := (by rw [g6.1.cell (by first | (simp; done) | (simp; omega) | omega)]; go_simp)
  go_wp2
  go_ret
  go_light
  refine ⟨rfl, ?_⟩
  repeat (first | exact Grew.refl _ | refine Grew.drew ?_ | refine Grew.drewN ?_ _ | refine Grew.alloc ?_ _ | refine Grew.set ?_ (by first | (simp; done) | (simp; omega) | omega) _ | refine Grew.trans ?_ g1 | refine Grew.trans ?_ g2 | refine Grew.trans ?_ g3 | refine Grew.trans ?_ g4 | refine Grew.trans ?_ g5 | refine Grew.trans ?_ g6 | assumption)
set_option maxRecDepth 100000 in
set_option maxHeartbeats 2000000 in
theorem FCmp_5n1 {f : Ieee.Format} (a b A D : Nat) (x y : Int) (c : Bool) (w : World) (hc : (decide (y ≤ x)) = true)
    (U1 : Hid (∀ w : World, Calls Tryd.prog 58 #[.agg #[.int .i64 (f.fractionBits : Int), .int .i64 (f.exponentBits : Int)], .int .u64 (a : Int)] w fun e w' => e = .returned (.int .u64 (A : Int)) ∧ Grew w w'))
    (U2 : Hid (∀ w : World, Calls Tryd.prog 58 #[.agg #[.int .i64 (f.fractionBits : Int), .int .i64 (f.exponentBits : Int)], .int .u64 (b : Int)] w fun e w' => e = .returned (.int .u64 (D : Int)) ∧ Grew w w'))
    (K1 : Hid (∀ w : World, Calls Tryd.prog 71 #[.agg #[.int .i64 (f.fractionBits : Int), .int .i64 (f.exponentBits : Int)], .int .u64 (A : Int)] w fun e w' => e = .returned (.int .i64 x) ∧ Grew w w'))
    (K2 : Hid (∀ w : World, Calls Tryd.prog 71 #[.agg #[.int .i64 (f.fractionBits : Int), .int .i64 (f.exponentBits : Int)], .int .u64 (D : Int)] w fun e w' => e = .returned (.int .i64 y) ∧ Grew w w'))
    (N1 : Hid (∀ w : World, Calls Tryd.prog 61 #[.agg #[.int .i64 (f.fractionBits : Int), .int .i64 (f.exponentBits : Int)], .int .u64 (A : Int)] w fun e w' => e = .returned (.bool false) ∧ Grew w w'))
    (N2 : Hid (∀ w : World, Calls Tryd.prog 61 #[.agg #[.int .i64 (f.fractionBits : Int), .int .i64 (f.exponentBits : Int)], .int .u64 (D : Int)] w fun e w' => e = .returned (.bool false) ∧ Grew w w')) :
    Calls Tryd.prog 36 #[fv f, .int .i64 5, .int .u64 (a : Int), .int .u64 (b : Int)] w fun e w' => e = .returned (.int .u64 1) ∧ Grew w w' := by
  unfold fv
  go_enter Tryd.func36, Tryd.ntmps36
  go_wp2_with fail
  go_region_held3 (fun w' => w'.cell? ⟨w.heap.size, 0, none⟩ = some (.int .i64 (f.fractionBits : Int)) ∧ w'.cell? ⟨w.heap.size, 1, none⟩ = some (.int .i64 (f.exponentBits : Int))) (go_keep)
    (first
    | (go_at_call_of 58 (Value.int IntKind.u64 (a : Int)); refine (U1.out _).mono ?_; rintro e w1 ⟨rfl, g1⟩; have l1_0 : w.heap.size < w1.heap.size := Nat.lt_of_lt_of_le (by first | (simp; done) | (simp; omega) | omega) g1.2; have h1_0_0 : w1.cell? ⟨w.heap.size, 0, none⟩ = some (.int .i64 (f.fractionBits : Int)) := (by rw [g1.1.cell (by first | (simp; done) | (simp; omega) | omega)]; go_simp); have h1_0_1 : w1.cell? ⟨w.heap.size, 1, none⟩ = some (.int .i64 (f.exponentBits : Int)) := (by rw [g1.1.cell (by first | (simp; done) | (simp; omega) | omega)]; go_simp))
    | (go_at_call_of 58 (Value.int IntKind.u64 (b : Int)); refine (U2.out _).mono ?_; rintro e w2 ⟨rfl, g2⟩; have l2_0 : w.heap.size < w2.heap.size := Nat.lt_of_lt_of_le (by first | (simp; done) | (simp; omega) | omega) g2.2; have h2_0_0 : w2.cell? ⟨w.heap.size, 0, none⟩ = some (.int .i64 (f.fractionBits : Int)) := (by rw [g2.1.cell (by first | (simp; done) | (simp; omega) | omega)]; go_simp); have h2_0_1 : w2.cell? ⟨w.heap.size, 1, none⟩ = some (.int .i64 (f.exponentBits : Int)) := (by rw [g2.1.cell (by first | (simp; done) | (simp; omega) | omega)]; go_simp)))
  go_wp2_with fail
  go_region_held3 (fun w' => w'.cell? ⟨w.heap.size, 0, none⟩ = some (.int .i64 (f.fractionBits : Int)) ∧ w'.cell? ⟨w.heap.size, 1, none⟩ = some (.int .i64 (f.exponentBits : Int))) (go_keep)
    (first
    | (go_at_call_of 71 (Value.int IntKind.u64 (A : Int)); refine (K1.out _).mono ?_; rintro e w3 ⟨rfl, g3⟩; have l3_0 : w.heap.size < w3.heap.size := Nat.lt_of_lt_of_le (by first | (simp; done) | (simp; omega) | omega) g3.2; have h3_0_0 : w3.cell? ⟨w.heap.size, 0, none⟩ = some (.int .i64 (f.fractionBits : Int)) := (by rw [g3.1.cell (by first | (simp; done) | (simp; omega) | omega)]; go_simp); have h3_0_1 : w3.cell? ⟨w.heap.size, 1, none⟩ = some (.int .i64 (f.exponentBits : Int)) := (by rw [g3.1.cell (by first | (simp; done) | (simp; omega) | omega)]; go_simp))
    | (go_at_call_of 71 (Value.int IntKind.u64 (D : Int)); refine (K2.out _).mono ?_; rintro e w4 ⟨rfl, g4⟩; have l4_0 : w.heap.size < w4.heap.size := Nat.lt_of_lt_of_le (by first | (simp; done) | (simp; omega) | omega) g4.2; have h4_0_0 : w4.cell? ⟨w.heap.size, 0, none⟩ = some (.int .i64 (f.fractionBits : Int)) := (by rw [g4.1.cell (by first | (simp; done) | (simp; omega) | omega)]; go_simp); have h4_0_1 : w4.cell? ⟨w.heap.size, 1, none⟩ = some (.int .i64 (f.exponentBits : Int)) := (by rw [g4.1.cell (by first | (simp; done) | (simp; omega) | omega)]; go_simp)))
  go_wp2_with fail
  refine (N1.out _).mono ?_
  rintro e w5 ⟨rfl, g5⟩
  have l5_0 : w.heap.size < w5.heap.size := Nat.lt_of_lt_of_le (by first | (simp; done) | (simp; omega) | omega) g5.2
  have h5_0_0 : w5.cell? ⟨w.heap.size, 0, none⟩ = some (.int .i64 (f.fractionBits : Int)) := (by rw [g5.1.cell (by first | (simp; done) | (simp; omega) | omega)]; go_simp)
  have h5_0_1 : w5.cell? ⟨w.heap.size, 1, none⟩ = some (.int .i64 (f.exponentBits : Int)) := (by rw [g5.1.cell (by first | (simp; done) | (simp; omega) | omega)]; go_simp)
  go_wp2_with fail
  refine (N2.out _).mono ?_
  rintro e w6 ⟨rfl, g6⟩
  have l6_0 : w.heap.size < w6.heap.size := Nat.lt_of_lt_of_le (by first | (simp; done) | (simp; omega) | omega) g6.2
  have h6_0_0 : w6.cell? ⟨w.heap.size, 0, none⟩ = some (.int .i64 (f.fractionBits : Int)) := (by rw [g6.1.cell (by first | (simp; done) | (simp; omega) | omega)]; go_simp)
  have h6_0_1 : w6.cell? ⟨w.heap.size, 1, none⟩ = some (.int .i64 (f.exponentBits : Int)) := (by rw [g6.1.cell (by first | (simp; done) | (simp; omega) | omega)]; go_simp)
  go_wp2
  go_ret
  go_light
  refine ⟨rfl, ?_⟩
  repeat (first | exact Grew.refl _ | refine Grew.drew ?_ | refine Grew.drewN ?_ _ | refine Grew.alloc ?_ _ | refine Grew.set ?_ (by first | (simp; done) | (simp; omega) | omega) _ | refine Grew.trans ?_ g1 | refine Grew.trans ?_ g2 | refine Grew.trans ?_ g3 | refine Grew.trans ?_ g4 | refine Grew.trans ?_ g5 | refine Grew.trans ?_ g6 | assumption)
set_option maxRecDepth 100000 in
set_option maxHeartbeats 2000000 in
theorem FCmp_5n0 {f : Ieee.Format} (a b A D : Nat) (x y : Int) (c : Bool) (w : World) (hc : (decide (y ≤ x)) = false)
    (U1 : Hid (∀ w : World, Calls Tryd.prog 58 #[.agg #[.int .i64 (f.fractionBits : Int), .int .i64 (f.exponentBits : Int)], .int .u64 (a : Int)] w fun e w' => e = .returned (.int .u64 (A : Int)) ∧ Grew w w'))
    (U2 : Hid (∀ w : World, Calls Tryd.prog 58 #[.agg #[.int .i64 (f.fractionBits : Int), .int .i64 (f.exponentBits : Int)], .int .u64 (b : Int)] w fun e w' => e = .returned (.int .u64 (D : Int)) ∧ Grew w w'))
    (K1 : Hid (∀ w : World, Calls Tryd.prog 71 #[.agg #[.int .i64 (f.fractionBits : Int), .int .i64 (f.exponentBits : Int)], .int .u64 (A : Int)] w fun e w' => e = .returned (.int .i64 x) ∧ Grew w w'))
    (K2 : Hid (∀ w : World, Calls Tryd.prog 71 #[.agg #[.int .i64 (f.fractionBits : Int), .int .i64 (f.exponentBits : Int)], .int .u64 (D : Int)] w fun e w' => e = .returned (.int .i64 y) ∧ Grew w w'))
    (N1 : Hid (∀ w : World, Calls Tryd.prog 61 #[.agg #[.int .i64 (f.fractionBits : Int), .int .i64 (f.exponentBits : Int)], .int .u64 (A : Int)] w fun e w' => e = .returned (.bool false) ∧ Grew w w'))
    (N2 : Hid (∀ w : World, Calls Tryd.prog 61 #[.agg #[.int .i64 (f.fractionBits : Int), .int .i64 (f.exponentBits : Int)], .int .u64 (D : Int)] w fun e w' => e = .returned (.bool false) ∧ Grew w w')) :
    Calls Tryd.prog 36 #[fv f, .int .i64 5, .int .u64 (a : Int), .int .u64 (b : Int)] w fun e w' => e = .returned (.int .u64 0) ∧ Grew w w' := by
  unfold fv
  go_enter Tryd.func36, Tryd.ntmps36
  go_wp2_with fail
  go_region_held3 (fun w' => w'.cell? ⟨w.heap.size, 0, none⟩ = some (.int .i64 (f.fractionBits : Int)) ∧ w'.cell? ⟨w.heap.size, 1, none⟩ = some (.int .i64 (f.exponentBits : Int))) (go_keep)
    (first
    | (go_at_call_of 58 (Value.int IntKind.u64 (a : Int)); refine (U1.out _).mono ?_; rintro e w1 ⟨rfl, g1⟩; have l1_0 : w.heap.size < w1.heap.size := Nat.lt_of_lt_of_le (by first | (simp; done) | (simp; omega) | omega) g1.2; have h1_0_0 : w1.cell? ⟨w.heap.size, 0, none⟩ = some (.int .i64 (f.fractionBits : Int)) := (by rw [g1.1.cell (by first | (simp; done) | (simp; omega) | omega)]; go_simp); have h1_0_1 : w1.cell? ⟨w.heap.size, 1, none⟩ = some (.int .i64 (f.exponentBits : Int)) := (by rw [g1.1.cell (by first | (simp; done) | (simp; omega) | omega)]; go_simp))
    | (go_at_call_of 58 (Value.int IntKind.u64 (b : Int)); refine (U2.out _).mono ?_; rintro e w2 ⟨rfl, g2⟩; have l2_0 : w.heap.size < w2.heap.size := Nat.lt_of_lt_of_le (by first | (simp; done) | (simp; omega) | omega) g2.2; have h2_0_0 : w2.cell? ⟨w.heap.size, 0, none⟩ = some (.int .i64 (f.fractionBits : Int)) := (by rw [g2.1.cell (by first | (simp; done) | (simp; omega) | omega)]; go_simp); have h2_0_1 : w2.cell? ⟨w.heap.size, 1, none⟩ = some (.int .i64 (f.exponentBits : Int)) := (by rw [g2.1.cell (by first | (simp; done) | (simp; omega) | omega)]; go_simp)))
  go_wp2_with fail
  go_region_held3 (fun w' => w'.cell? ⟨w.heap.size, 0, none⟩ = some (.int .i64 (f.fractionBits : Int)) ∧ w'.cell? ⟨w.heap.size, 1, none⟩ = some (.int .i64 (f.exponentBits : Int))) (go_keep)
    (first
    | (go_at_call_of 71 (Value.int IntKind.u64 (A : Int)); refine (K1.out _).mono ?_; rintro e w3 ⟨rfl, g3⟩; have l3_0 : w.heap.size < w3.heap.size := Nat.lt_of_lt_of_le (by first | (simp; done) | (simp; omega) | omega) g3.2; have h3_0_0 : w3.cell? ⟨w.heap.size, 0, none⟩ = some (.int .i64 (f.fractionBits : Int)) := (by rw [g3.1.cell (by first | (simp; done) | (simp; omega) | omega)]; go_simp); have h3_0_1 : w3.cell? ⟨w.heap.size, 1, none⟩ = some (.int .i64 (f.exponentBits : Int)) := (by rw [g3.1.cell (by first | (simp; done) | (simp; omega) | omega)]; go_simp))
    | (go_at_call_of 71 (Value.int IntKind.u64 (D : Int)); refine (K2.out _).mono ?_; rintro e w4 ⟨rfl, g4⟩; have l4_0 : w.heap.size < w4.heap.size := Nat.lt_of_lt_of_le (by first | (simp; done) | (simp; omega) | omega) g4.2; have h4_0_0 : w4.cell? ⟨w.heap.size, 0, none⟩ = some (.int .i64 (f.fractionBits : Int)) := (by rw [g4.1.cell (by first | (simp; done) | (simp; omega) | omega)]; go_simp); have h4_0_1 : w4.cell? ⟨w.heap.size, 1, none⟩ = some (.int .i64 (f.exponentBits : Int)) := (by rw [g4.1.cell (by first | (simp; done) | (simp; omega) | omega)]; go_simp)))
  go_wp2_with fail
  refine (N1.out _).mono ?_
  rintro e w5 ⟨rfl, g5⟩
  have l5_0 : w.heap.size < w5.heap.size := Nat.lt_of_lt_of_le (by first | (simp; done) | (simp; omega) | omega) g5.2
  have h5_0_0 : w5.cell? ⟨w.heap.size, 0, none⟩ = some (.int .i64 (f.fractionBits : Int)) := (by rw [g5.1.cell (by first | (simp; done) | (simp; omega) | omega)]; go_simp)
  have h5_0_1 : w5.cell? ⟨w.heap.size, 1, none⟩ = some (.int .i64 (f.exponentBits : Int)) := (by rw [g5.1.cell (by first | (simp; done) | (simp; omega) | omega)]; go_simp)
  go_wp2_with fail
  refine (N2.out _).mono ?_
  rintro e w6 ⟨rfl, g6⟩
  have l6_0 : w.heap.size < w6.heap.size := Nat.lt_of_lt_of_le (by first | (simp; done) | (simp; omega) | omega) g6.2
  have h6_0_0 : w6.cell? ⟨w.heap.size, 0, none⟩ = some (.int .i64 (f.fractionBits : Int)) := (by rw [g6.1.cell (by first | (simp; done) | (simp; omega) | omega)]; go_simp)
  have h6_0_1 : w6.cell? ⟨w.heap.size, 1, none⟩ = some (.int .i64 (f.exponentBits : Int)) := (by rw [g6.1.cell (by first | (simp; done) | (simp; omega) | omega)]; go_simp)
  go_wp2
  go_ret
  go_light
  refine ⟨rfl, ?_⟩
  repeat (first | exact Grew.refl _ | refine Grew.drew ?_ | refine Grew.drewN ?_ _ | refine Grew.alloc ?_ _ | refine Grew.set ?_ (by first | (simp; done) | (simp; omega) | omega) _ | refine Grew.trans ?_ g1 | refine Grew.trans ?_ g2 | refine Grew.trans ?_ g3 | refine Grew.trans ?_ g4 | refine Grew.trans ?_ g5 | refine Grew.trans ?_ g6 | assumption)
theorem FCmp_any {f : Ieee.Format} (ht : Two f) (k : Nat) (hk : k < 6) (a b : Nat) (ha : a < 18446744073709551616) (hb : b < 18446744073709551616) (w : World) :
    Calls Tryd.prog 36 #[fv f, .int .i64 (k : Int), .int .u64 (a : Int), .int .u64 (b : Int)] w fun e w' => e = .returned (.int .u64 (if rcop f k (a % 2 ^ f.width) (b % 2 ^ f.width) then 1 else 0)) ∧ Grew w w' := by
  have U1 := fun w : World => cutF_any ht a ha w
  have U2 := fun w : World => cutF_any ht b hb w
  have hw : 2 ^ f.width ≤ 18446744073709551616 := by rcases ht with rfl | rfl <;> decide
  have hA : a % 2 ^ f.width < 18446744073709551616 := Nat.lt_of_lt_of_le (Nat.mod_lt _ (Nat.two_pow_pos _)) hw
  have hD : b % 2 ^ f.width < 18446744073709551616 := Nat.lt_of_lt_of_le (Nat.mod_lt _ (Nat.two_pow_pos _)) hw
  generalize a % 2 ^ f.width = A at *
  generalize b % 2 ^ f.width = D at *
  have K1 := fun w : World => key_any ht A hA w
  have K2 := fun w : World => key_any ht D hD w
  have N1 := fun w : World => isNan_any ht A hA w
  have N2 := fun w : World => isNan_any ht D hD w
  have hk' : k = 0 ∨ k = 1 ∨ k = 2 ∨ k = 3 ∨ k = 4 ∨ k = 5 := by omega
  unfold rcop
  by_cases n1 : f.infRung < sz f A
  · simp only [n1, decide_true] at N1
    simp only [n1, true_or, if_true]
    rcases hk' with rfl | rfl | rfl | rfl | rfl | rfl
    · exact FCmp_0a _ _ _ _ _ _ false w U1 U2 K1 K2 N1
    · exact FCmp_1a _ _ _ _ _ _ false w U1 U2 K1 K2 N1
    · exact FCmp_2a _ _ _ _ _ _ false w U1 U2 K1 K2 N1
    · exact FCmp_3a _ _ _ _ _ _ false w U1 U2 K1 K2 N1
    · exact FCmp_4a _ _ _ _ _ _ false w U1 U2 K1 K2 N1
    · exact FCmp_5a _ _ _ _ _ _ false w U1 U2 K1 K2 N1
  · simp only [n1, decide_false] at N1
    by_cases n2 : f.infRung < sz f D
    · simp only [n2, decide_true] at N2
      simp only [n1, n2, or_true, if_true]
      rcases hk' with rfl | rfl | rfl | rfl | rfl | rfl
      · exact FCmp_0b _ _ _ _ _ _ false w U1 U2 K1 K2 N1 N2
      · exact FCmp_1b _ _ _ _ _ _ false w U1 U2 K1 K2 N1 N2
      · exact FCmp_2b _ _ _ _ _ _ false w U1 U2 K1 K2 N1 N2
      · exact FCmp_3b _ _ _ _ _ _ false w U1 U2 K1 K2 N1 N2
      · exact FCmp_4b _ _ _ _ _ _ false w U1 U2 K1 K2 N1 N2
      · exact FCmp_5b _ _ _ _ _ _ false w U1 U2 K1 K2 N1 N2
    · simp only [n2, decide_false] at N2
      simp only [n1, n2, or_self, if_false]
      generalize key f A = x at *
      generalize key f D = y at *
      rcases hk' with rfl | rfl | rfl | rfl | rfl | rfl
      · show Calls _ _ _ _ fun e w' => e = .returned (.int .u64 (if (x == y) then 1 else 0)) ∧ _
        cases hc : (x == y)
        · exact FCmp_0n0 _ _ _ _ _ _ false w hc U1 U2 K1 K2 N1 N2
        · exact FCmp_0n1 _ _ _ _ _ _ false w hc U1 U2 K1 K2 N1 N2
      · show Calls _ _ _ _ fun e w' => e = .returned (.int .u64 (if (x != y) then 1 else 0)) ∧ _
        cases hc : (x != y)
        · exact FCmp_1n0 _ _ _ _ _ _ false w hc U1 U2 K1 K2 N1 N2
        · exact FCmp_1n1 _ _ _ _ _ _ false w hc U1 U2 K1 K2 N1 N2
      · show Calls _ _ _ _ fun e w' => e = .returned (.int .u64 (if (decide (x < y)) then 1 else 0)) ∧ _
        cases hc : (decide (x < y))
        · exact FCmp_2n0 _ _ _ _ _ _ false w hc U1 U2 K1 K2 N1 N2
        · exact FCmp_2n1 _ _ _ _ _ _ false w hc U1 U2 K1 K2 N1 N2
      · show Calls _ _ _ _ fun e w' => e = .returned (.int .u64 (if (decide (x > y)) then 1 else 0)) ∧ _
        cases hc : (decide (x > y))
        · exact FCmp_3n0 _ _ _ _ _ _ false w hc U1 U2 K1 K2 N1 N2
        · exact FCmp_3n1 _ _ _ _ _ _ false w hc U1 U2 K1 K2 N1 N2
      · show Calls _ _ _ _ fun e w' => e = .returned (.int .u64 (if (decide (x ≤ y)) then 1 else 0)) ∧ _
        cases hc : (decide (x ≤ y))
        · exact FCmp_4n0 _ _ _ _ _ _ false w hc U1 U2 K1 K2 N1 N2
        · exact FCmp_4n1 _ _ _ _ _ _ false w hc U1 U2 K1 K2 N1 N2
      · show Calls _ _ _ _ fun e w' => e = .returned (.int .u64 (if (decide (x ≥ y)) then 1 else 0)) ∧ _
        cases hc : (decide (x ≥ y))
        · exact FCmp_5n0 _ _ _ _ _ _ false w hc U1 U2 K1 K2 N1 N2
        · exact FCmp_5n1 _ _ _ _ _ _ false w hc U1 U2 K1 K2 N1 N2
set_option maxRecDepth 100000 in
set_option maxHeartbeats 2000000 in
theorem rCompare_1 (k : Nat) (hk : k < 6) (R a b : Int) (w : World)
    (C : Hid (∀ w : World, Calls Tryd.prog 36 #[fv Ieee.single, .int .i64 (k : Int), .int .u64 a, .int .u64 b] w fun e w' => e = .returned (.int .u64 R) ∧ Grew w w')) :
    Calls Tryd.prog 13 #[.int .i64 ((91 + k : Nat) : Int), .int .u64 a, .int .u64 b] w fun e w' => e = .returned (.tuple #[.int .u64 R, .int .i64 0]) ∧ Grew w w' := by
  have F' := fun w : World => format_1 ((91 + k : Nat) : Int) 91 97 6 w (by omega) (by omega) (by omega) (by omega) (by omega) (by omega) (by omega) (by omega) (by omega) (by omega)
  have e1 : ((91 + k : Nat) : Int) - 91 = (k : Int) := by omega
  rw [e1] at F'
  generalize ((91 + k : Nat) : Int) = op at *
  generalize (k : Int) = K at *
  have F : Hid (∀ w : World, Calls Tryd.prog 28 #[.int .i64 op, .int .i64 91, .int .i64 97, .int .i64 6] w fun e w' => e = .returned (.tuple #[fv Ieee.single, .int .i64 K, .bool true]) ∧ Grew w w') := F'
  clear F' e1
  rw [fv1] at F C
  go_enter Tryd.func13, Tryd.ntmps13
  go_wp2_with fail
  refine (F.out _).mono ?_
  rintro e w1 ⟨rfl, g1⟩
  go_wp2_with fail
  refine (C.out _).mono ?_
  rintro e w2 ⟨rfl, g2⟩
  go_wp2
  go_ret2
  go_light
  refine ⟨rfl, ?_⟩
  repeat (first | exact Grew.refl _ | refine Grew.drew ?_ | refine Grew.drewN ?_ _ | refine Grew.alloc ?_ _ | refine Grew.set ?_ (by first | (simp; done) | (simp; omega) | omega) _ | refine Grew.trans ?_ g1 | refine Grew.trans ?_ g2 | assumption)
set_option maxRecDepth 100000 in
set_option maxHeartbeats 2000000 in
theorem rCompare_2 (k : Nat) (hk : k < 6) (R a b : Int) (w : World)
    (C : Hid (∀ w : World, Calls Tryd.prog 36 #[fv Ieee.double, .int .i64 (k : Int), .int .u64 a, .int .u64 b] w fun e w' => e = .returned (.int .u64 R) ∧ Grew w w')) :
    Calls Tryd.prog 13 #[.int .i64 ((97 + k : Nat) : Int), .int .u64 a, .int .u64 b] w fun e w' => e = .returned (.tuple #[.int .u64 R, .int .i64 0]) ∧ Grew w w' := by
  have F' := fun w : World => format_2 ((97 + k : Nat) : Int) 91 97 6 w (by omega) (by omega) (by omega) (by omega) (by omega) (by omega) (by omega) (by omega) (by omega) (by omega) (by omega)
  have e1 : ((97 + k : Nat) : Int) - 97 = (k : Int) := by omega
  rw [e1] at F'
  generalize ((97 + k : Nat) : Int) = op at *
  generalize (k : Int) = K at *
  have F : Hid (∀ w : World, Calls Tryd.prog 28 #[.int .i64 op, .int .i64 91, .int .i64 97, .int .i64 6] w fun e w' => e = .returned (.tuple #[fv Ieee.double, .int .i64 K, .bool true]) ∧ Grew w w') := F'
  clear F' e1
  rw [fv2] at F C
  go_enter Tryd.func13, Tryd.ntmps13
  go_wp2_with fail
  refine (F.out _).mono ?_
  rintro e w1 ⟨rfl, g1⟩
  go_wp2_with fail
  refine (C.out _).mono ?_
  rintro e w2 ⟨rfl, g2⟩
  go_wp2
  go_ret2
  go_light
  refine ⟨rfl, ?_⟩
  repeat (first | exact Grew.refl _ | refine Grew.drew ?_ | refine Grew.drewN ?_ _ | refine Grew.alloc ?_ _ | refine Grew.set ?_ (by first | (simp; done) | (simp; omega) | omega) _ | refine Grew.trans ?_ g1 | refine Grew.trans ?_ g2 | assumption)
set_option maxRecDepth 100000 in
set_option maxHeartbeats 2000000 in
theorem rCompare_no (op a b : Int) (w : World) (o0 : -9223372036854775808 ≤ op) (o1 : op ≤ 9223372036854775807) (h1 : op < 91 ∨ 97 ≤ op) (h2 : op < 97 ∨ 103 ≤ op) :
    Calls Tryd.prog 13 #[.int .i64 op, .int .u64 a, .int .u64 b] w fun e w' => e = .returned (.tuple #[.int .u64 0, .int .i64 1]) ∧ Grew w w' := by
  have F : Hid (∀ w : World, Calls Tryd.prog 28 #[.int .i64 op, .int .i64 91, .int .i64 97, .int .i64 6] w fun e w' => ∃ k : Int, e = .returned (.tuple #[.agg #[.int .i64 52, .int .i64 11], .int .i64 k, .bool false]) ∧ Grew w w') :=
    fun w => format_3 op 91 97 6 w o0 o1 (by omega) (by omega) (by omega) (by omega) (by omega) (by omega) (by omega) (by omega)
  go_enter Tryd.func13, Tryd.ntmps13
  go_wp2_with fail
  refine (F.out _).mono ?_
  rintro e w1 ⟨k, rfl, g1⟩
  go_wp2
  go_ret2
  go_light
  refine ⟨rfl, ?_⟩
  repeat (first | exact Grew.refl _ | refine Grew.drew ?_ | refine Grew.drewN ?_ _ | refine Grew.alloc ?_ _ | refine Grew.set ?_ (by first | (simp; done) | (simp; omega) | omega) _ | refine Grew.trans ?_ g1 | assumption)
end Go.Proofs.YtjkebimmddlccaaDoor
