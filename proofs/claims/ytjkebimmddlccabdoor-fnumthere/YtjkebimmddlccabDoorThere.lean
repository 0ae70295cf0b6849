/-
  The walks of fnum's conversions: there and back; no statement is proved here.
-/
import Derived.Test.YtjkebimmddlccabDoorConv
import Derived.Test.YtjkebimmddlccabDoorThI
import Derived.Test.YtjkebimmddlccabDoorAns
import Derived.BigQuiet
namespace Go.Proofs.YtjkebimmddlccabDoor
open Go.RowKit
set_option linter.unusedVariables false
set_option linter.unusedSimpArgs false

set_option maxRecDepth 100000 in
set_option maxHeartbeats 2000000 in
theorem rnd_s (n s : Int) (hs : IntKind.i64.wrap n = s) (w : World) :
    Calls Tryd.prog 46 #[.int .u64 n, .bool true] w fun e w' => e = .returned (.float .f64 (floatOfInt .f64 s)) ∧ w' = w := by
  go_enter Tryd.func46, Tryd.ntmps46
  go_wp2
  go_ret
  go_light
  exact ⟨by first | rfl | simp [hs], rfl⟩
set_option maxRecDepth 100000 in
set_option maxHeartbeats 2000000 in
theorem rnd_u (n : Int) (w : World) :
    Calls Tryd.prog 46 #[.int .u64 n, .bool false] w fun e w' => e = .returned (.float .f64 (floatOfInt .f64 n)) ∧ w' = w := by
  go_enter Tryd.func46, Tryd.ntmps46
  go_wp2
  go_ret
  go_light
  exact ⟨by first | rfl | simp, rfl⟩
set_option maxRecDepth 100000 in
set_option maxHeartbeats 2000000 in
theorem num_170 (a : Nat) (ha : a < 18446744073709551616) (w : World) :
    Calls Tryd.prog 25 #[.agg #[.int .i64 21, .int .i64 64, .int .i64 32, .bool true], .int .u64 (a : Int)] w fun e w' => e = .returned (.float .f64 (a % 2 ^ 64)) ∧ Grew w w' := by
  have T : Hid (∀ w : World, Calls Tryd.prog 20 #[.int .u64 (a : Int)] w fun e w' => e = .returned (.float .f64 (a % 2 ^ 64)) ∧ w' = w) := fun w => take64_any a ha w
  generalize a % 2 ^ 64 = A at *
  go_enter Tryd.func25, Tryd.ntmps25
  go_wp2_with fail
  refine (T.out _).mono ?_
  rintro e w1 ⟨rfl, hw1⟩
  subst hw1
  go_wp2
  go_ret
  go_light
  refine ⟨by first | rfl | simp, ?_⟩
  repeat (first | exact Grew.refl _ | assumption | refine Grew.drew ?_ | refine Grew.drewN ?_ _ | refine Grew.alloc ?_ _ | refine Grew.set ?_ (by first | (simp; done) | (simp; omega) | omega) _ | refine Grew.trans ?_ (by assumption))
set_option maxRecDepth 100000 in
set_option maxHeartbeats 2000000 in
theorem num_171 (a : Nat) (ha : a < 18446744073709551616) (w : World) :
    Calls Tryd.prog 25 #[.agg #[.int .i64 21, .int .i64 64, .int .i64 32, .bool false], .int .u64 (a : Int)] w fun e w' => e = .returned (.float .f64 (a % 2 ^ 64)) ∧ Grew w w' := by
  have T : Hid (∀ w : World, Calls Tryd.prog 20 #[.int .u64 (a : Int)] w fun e w' => e = .returned (.float .f64 (a % 2 ^ 64)) ∧ w' = w) := fun w => take64_any a ha w
  generalize a % 2 ^ 64 = A at *
  go_enter Tryd.func25, Tryd.ntmps25
  go_wp2_with fail
  refine (T.out _).mono ?_
  rintro e w1 ⟨rfl, hw1⟩
  subst hw1
  go_wp2
  go_ret
  go_light
  refine ⟨by first | rfl | simp, ?_⟩
  repeat (first | exact Grew.refl _ | assumption | refine Grew.drew ?_ | refine Grew.drewN ?_ _ | refine Grew.alloc ?_ _ | refine Grew.set ?_ (by first | (simp; done) | (simp; omega) | omega) _ | refine Grew.trans ?_ (by assumption))
set_option maxRecDepth 100000 in
set_option maxHeartbeats 2000000 in
theorem ends_170 (w : World) :
    Calls Tryd.prog 43 #[.agg #[.int .i64 21, .int .i64 64, .int .i64 32, .bool true]] w fun e w' => e = .returned (.tuple #[.float .f64 13970166044103278592, .float .f64 4746794007248502784]) ∧ Grew w w' := by
  have d1 := fun w : World => run_float_arith (P := Tryd.prog) w .quo 42 .f64 13974669643730649088 4611686018427387904 13970166044103278592 (by decide)
  have d2 := fun w : World => run_float_arith (P := Tryd.prog) w .quo 42 .f64 4751297606875873280 4611686018427387904 4746794007248502784 (by decide)
  have n1 := fun w : World => (show (Op.unary .neg (.float .f64 4751297606875873280)).run Tryd.prog w = .ok (.float .f64 13974669643730649088) w by kernel_rfl)
  go_enter Tryd.func43, Tryd.ntmps43
  go_wp2
  go_ret2
  go_light
  refine ⟨by first | rfl | simp, ?_⟩
  repeat (first | exact Grew.refl _ | assumption | refine Grew.drew ?_ | refine Grew.drewN ?_ _ | refine Grew.alloc ?_ _ | refine Grew.set ?_ (by first | (simp; done) | (simp; omega) | omega) _ | refine Grew.trans ?_ (by assumption))
set_option maxRecDepth 100000 in
set_option maxHeartbeats 2000000 in
theorem ends_171 (w : World) :
    Calls Tryd.prog 43 #[.agg #[.int .i64 21, .int .i64 64, .int .i64 32, .bool false]] w fun e w' => e = .returned (.tuple #[.float .f64 0, .float .f64 4751297606875873280]) ∧ Grew w w' := by
  go_enter Tryd.func43, Tryd.ntmps43
  go_wp2
  go_ret2
  go_light
  refine ⟨by first | rfl | simp, ?_⟩
  repeat (first | exact Grew.refl _ | assumption | refine Grew.drew ?_ | refine Grew.drewN ?_ _ | refine Grew.alloc ?_ _ | refine Grew.set ?_ (by first | (simp; done) | (simp; omega) | omega) _ | refine Grew.trans ?_ (by assumption))
set_option maxRecDepth 100000 in
set_option maxHeartbeats 2000000 in
theorem tw_170 (y : Nat) (n u R : Int) (w : World) (lt : (FloatKind.f64.format.order y 13970166044103278592 == some Ordering.lt) = false) (g1 : (FloatKind.f64.format.order y 4746794007248502784 == some Ordering.gt) = false) (g2 : (FloatKind.f64.format.order y 4746794007248502784 == some Ordering.eq) = false) (cv : ∀ w : World, (convert 42 2 (.float .f64 y)).run Tryd.prog w = .ok (.int .i64 n) w) (wr : IntKind.u64.wrap n = u)
    (M : Hid (∀ w : World, Calls Tryd.prog 39 #[.float .f64 y] w fun e w' => e = .returned (.float .f64 y) ∧ Grew w w'))
    (E : Hid (∀ w : World, Calls Tryd.prog 43 #[.agg #[.int .i64 21, .int .i64 64, .int .i64 32, .bool true]] w fun e w' => e = .returned (.tuple #[.float .f64 13970166044103278592, .float .f64 4746794007248502784]) ∧ Grew w w'))
    (I : Hid (∀ w : World, Calls Tryd.prog 28 #[.float .f64 y] w fun e w' => e = .returned (.bool false) ∧ w' = w))
    (Ct : Hid (∀ w : World, Calls Tryd.prog 13 #[.int .u64 u, .int .i64 32] w fun e w' => e = .returned (.int .u64 R) ∧ w' = w)) :
    Calls Tryd.prog 24 #[.agg #[.int .i64 21, .int .i64 64, .int .i64 32, .bool true], .float .f64 y] w fun e w' => e = .returned (.tuple #[.int .u64 R, .int .i64 0]) ∧ Grew w w' := by
  go_enter Tryd.func24, Tryd.ntmps24
  go_wp2_with fail
  refine (M.out _).mono ?_
  rintro e w1 ⟨rfl, g1⟩
  have l1_0 : w.heap.size < w1.heap.size := Nat.lt_of_lt_of_le (by first | (simp; done) | (simp; omega) | omega) g1.2
  have h1_0_0 : w1.cell? ⟨w.heap.size, 0, none⟩ = some (.int .i64 21) := (by rw [g1.1.cell (by first | (simp; done) | (simp; omega) | omega)]; go_simp)
  have h1_0_1 : w1.cell? ⟨w.heap.size, 1, none⟩ = some (.int .i64 64) := (by rw [g1.1.cell (by first | (simp; done) | (simp; omega) | omega)]; go_simp)
  have h1_0_2 : w1.cell? ⟨w.heap.size, 2, none⟩ = some (.int .i64 32) := (by rw [g1.1.cell (by first | (simp; done) | (simp; omega) | omega)]; go_simp)
  have h1_0_3 : w1.cell? ⟨w.heap.size, 3, none⟩ = some (.bool true) := (by rw [g1.1.cell (by first | (simp; done) | (simp; omega) | omega)]; go_simp)
  go_wp2_with fail
  refine (E.out _).mono ?_
  rintro e w2 ⟨rfl, g2⟩
  have l2_0 : w.heap.size < w2.heap.size := Nat.lt_of_lt_of_le (by first | (simp; done) | (simp; omega) | omega) g2.2
  have h2_0_0 : w2.cell? ⟨w.heap.size, 0, none⟩ = some (.int .i64 21) := (by rw [g2.1.cell (by first | (simp; done) | (simp; omega) | omega)]; go_simp)
  have h2_0_1 : w2.cell? ⟨w.heap.size, 1, none⟩ = some (.int .i64 64) := (by rw [g2.1.cell (by first | (simp; done) | (simp; omega) | omega)]; go_simp)
  have h2_0_2 : w2.cell? ⟨w.heap.size, 2, none⟩ = some (.int .i64 32) := (by rw [g2.1.cell (by first | (simp; done) | (simp; omega) | omega)]; go_simp)
  have h2_0_3 : w2.cell? ⟨w.heap.size, 3, none⟩ = some (.bool true) := (by rw [g2.1.cell (by first | (simp; done) | (simp; omega) | omega)]; go_simp)
  go_wp2_with fail
  refine (I.out _).mono ?_
  rintro e w3 ⟨rfl, hw3⟩
  subst hw3
  go_wp2_with fail
  refine (Ct.out _).mono ?_
  rintro e w4 ⟨rfl, hw4⟩
  subst hw4
  go_wp2
  go_ret2
  go_light
  refine ⟨by first | rfl | simp, ?_⟩
  repeat (first | exact Grew.refl _ | assumption | refine Grew.drew ?_ | refine Grew.drewN ?_ _ | refine Grew.alloc ?_ _ | refine Grew.set ?_ (by first | (simp; done) | (simp; omega) | omega) _ | refine Grew.trans ?_ (by assumption))
set_option maxRecDepth 100000 in
set_option maxHeartbeats 2000000 in
theorem tw_171 (y : Nat) (n u R : Int) (w : World) (lt : (FloatKind.f64.format.order y 0 == some Ordering.lt) = false) (g1 : (FloatKind.f64.format.order y 4751297606875873280 == some Ordering.gt) = false) (g2 : (FloatKind.f64.format.order y 4751297606875873280 == some Ordering.eq) = false) (cv : ∀ w : World, (convert 42 22 (.float .f64 y)).run Tryd.prog w = .ok (.int .u64 R) w)
    (M : Hid (∀ w : World, Calls Tryd.prog 39 #[.float .f64 y] w fun e w' => e = .returned (.float .f64 y) ∧ Grew w w'))
    (E : Hid (∀ w : World, Calls Tryd.prog 43 #[.agg #[.int .i64 21, .int .i64 64, .int .i64 32, .bool false]] w fun e w' => e = .returned (.tuple #[.float .f64 0, .float .f64 4751297606875873280]) ∧ Grew w w'))
    (I : Hid (∀ w : World, Calls Tryd.prog 28 #[.float .f64 y] w fun e w' => e = .returned (.bool false) ∧ w' = w)) :
    Calls Tryd.prog 24 #[.agg #[.int .i64 21, .int .i64 64, .int .i64 32, .bool false], .float .f64 y] w fun e w' => e = .returned (.tuple #[.int .u64 R, .int .i64 0]) ∧ Grew w w' := by
  go_enter Tryd.func24, Tryd.ntmps24
  go_wp2_with fail
  refine (M.out _).mono ?_
  rintro e w1 ⟨rfl, g1⟩
  have l1_0 : w.heap.size < w1.heap.size := Nat.lt_of_lt_of_le (by first | (simp; done) | (simp; omega) | omega) g1.2
  have h1_0_0 : w1.cell? ⟨w.heap.size, 0, none⟩ = some (.int .i64 21) := (by rw [g1.1.cell (by first | (simp; done) | (simp; omega) | omega)]; go_simp)
  have h1_0_1 : w1.cell? ⟨w.heap.size, 1, none⟩ = some (.int .i64 64) := (by rw [g1.1.cell (by first | (simp; done) | (simp; omega) | omega)]; go_simp)
  have h1_0_2 : w1.cell? ⟨w.heap.size, 2, none⟩ = some (.int .i64 32) := (by rw [g1.1.cell (by first | (simp; done) | (simp; omega) | omega)]; go_simp)
  have h1_0_3 : w1.cell? ⟨w.heap.size, 3, none⟩ = some (.bool false) := (by rw [g1.1.cell (by first | (simp; done) | (simp; omega) | omega)]; go_simp)
  go_wp2_with fail
  refine (E.out _).mono ?_
  rintro e w2 ⟨rfl, g2⟩
  have l2_0 : w.heap.size < w2.heap.size := Nat.lt_of_lt_of_le (by first | (simp; done) | (simp; omega) | omega) g2.2
  have h2_0_0 : w2.cell? ⟨w.heap.size, 0, none⟩ = some (.int .i64 21) := (by rw [g2.1.cell (by first | (simp; done) | (simp; omega) | omega)]; go_simp)
  have h2_0_1 : w2.cell? ⟨w.heap.size, 1, none⟩ = some (.int .i64 64) := (by rw [g2.1.cell (by first | (simp; done) | (simp; omega) | omega)]; go_simp)
  have h2_0_2 : w2.cell? ⟨w.heap.size, 2, none⟩ = some (.int .i64 32) := (by rw [g2.1.cell (by first | (simp; done) | (simp; omega) | omega)]; go_simp)
  have h2_0_3 : w2.cell? ⟨w.heap.size, 3, none⟩ = some (.bool false) := (by rw [g2.1.cell (by first | (simp; done) | (simp; omega) | omega)]; go_simp)
  go_wp2_with fail
  refine (I.out _).mono ?_
  rintro e w3 ⟨rfl, hw3⟩
  subst hw3
  go_wp2
  go_ret2
  go_light
  refine ⟨by first | rfl | simp, ?_⟩
  repeat (first | exact Grew.refl _ | assumption | refine Grew.drew ?_ | refine Grew.drewN ?_ _ | refine Grew.alloc ?_ _ | refine Grew.set ?_ (by first | (simp; done) | (simp; omega) | omega) _ | refine Grew.trans ?_ (by assumption))
set_option maxRecDepth 100000 in
set_option maxHeartbeats 2000000 in
theorem fw_183 (a A n t R : Int) (z : Nat) (w : World) (wr : IntKind.i32.wrap a = t) (wr2 : IntKind.u64.wrap t = n)
    (Ct : Hid (∀ w : World, Calls Tryd.prog 13 #[.int .u64 a, .int .i64 32] w fun e w' => e = .returned (.int .u64 A) ∧ w' = w))
    (Rn : Hid (∀ w : World, Calls Tryd.prog 46 #[.int .u64 n, .bool true] w fun e w' => e = .returned (.float .f64 z) ∧ w' = w))
    (L : Hid (∀ w : World, Calls Tryd.prog 18 #[.float .f64 z] w fun e w' => e = .returned (.int .u64 R) ∧ w' = w)) :
    Calls Tryd.prog 26 #[.agg #[.int .i64 23, .int .i64 32, .int .i64 64, .bool true], .int .u64 a] w fun e w' => e = .returned (.int .u64 R) ∧ Grew w w' := by
  go_enter Tryd.func26, Tryd.ntmps26
  go_wp2_with fail
  refine (Ct.out _).mono ?_
  rintro e w1 ⟨rfl, hw1⟩
  subst hw1
  go_wp2_with fail
  refine (Rn.out _).mono ?_
  rintro e w2 ⟨rfl, hw2⟩
  subst hw2
  go_wp2_with fail
  refine (L.out _).mono ?_
  rintro e w3 ⟨rfl, hw3⟩
  subst hw3
  go_wp2
  go_ret
  go_light
  refine ⟨by first | rfl | simp, ?_⟩
  repeat (first | exact Grew.refl _ | assumption | refine Grew.drew ?_ | refine Grew.drewN ?_ _ | refine Grew.alloc ?_ _ | refine Grew.set ?_ (by first | (simp; done) | (simp; omega) | omega) _ | refine Grew.trans ?_ (by assumption))
set_option maxRecDepth 100000 in
set_option maxHeartbeats 2000000 in
theorem fw_184 (a A n t R : Int) (z : Nat) (w : World) 
    (Ct : Hid (∀ w : World, Calls Tryd.prog 13 #[.int .u64 a, .int .i64 32] w fun e w' => e = .returned (.int .u64 A) ∧ w' = w))
    (Rn : Hid (∀ w : World, Calls Tryd.prog 46 #[.int .u64 A, .bool false] w fun e w' => e = .returned (.float .f64 z) ∧ w' = w))
    (L : Hid (∀ w : World, Calls Tryd.prog 18 #[.float .f64 z] w fun e w' => e = .returned (.int .u64 R) ∧ w' = w)) :
    Calls Tryd.prog 26 #[.agg #[.int .i64 23, .int .i64 32, .int .i64 64, .bool false], .int .u64 a] w fun e w' => e = .returned (.int .u64 R) ∧ Grew w w' := by
  go_enter Tryd.func26, Tryd.ntmps26
  go_wp2_with fail
  refine (Ct.out _).mono ?_
  rintro e w1 ⟨rfl, hw1⟩
  subst hw1
  go_wp2_with fail
  refine (Rn.out _).mono ?_
  rintro e w2 ⟨rfl, hw2⟩
  subst hw2
  go_wp2_with fail
  refine (L.out _).mono ?_
  rintro e w3 ⟨rfl, hw3⟩
  subst hw3
  go_wp2
  go_ret
  go_light
  refine ⟨by first | rfl | simp, ?_⟩
  repeat (first | exact Grew.refl _ | assumption | refine Grew.drew ?_ | refine Grew.drewN ?_ _ | refine Grew.alloc ?_ _ | refine Grew.set ?_ (by first | (simp; done) | (simp; omega) | omega) _ | refine Grew.trans ?_ (by assumption))
/- A world that has grown out of W; four cells of the block B are as they were. -/
def C4 (W : World) (B : Nat) (c0 c1 c2 c3 : Value) (w' : World) : Prop := B < W.heap.size ∧ Grew W w' ∧ w'.cell? ⟨B, 0, none⟩ = some c0 ∧ w'.cell? ⟨B, 1, none⟩ = some c1 ∧ w'.cell? ⟨B, 2, none⟩ = some c2 ∧ w'.cell? ⟨B, 3, none⟩ = some c3
theorem C4.step {W : World} {B : Nat} {c0 c1 c2 c3 : Value} {w' w'' : World} (h : C4 W B c0 c1 c2 c3 w') (g : Grew w' w'') : C4 W B c0 c1 c2 c3 w'' := by
  obtain ⟨hB, g0, h0, h1, h2, h3⟩ := h
  have hl : B < w'.heap.size := Nat.lt_of_lt_of_le hB g0.2
  exact ⟨hB, g0.trans g, by rw [g.1.cell hl]; exact h0, by rw [g.1.cell hl]; exact h1, by rw [g.1.cell hl]; exact h2, by rw [g.1.cell hl]; exact h3⟩
theorem C4.call {P : Program} {f : FuncId} {args : Array Value} {W : World} {B : Nat} {c0 c1 c2 c3 v : Value} {w' : World} (hc : C4 W B c0 c1 c2 c3 w')
    (h : Calls P f args w' fun e w'' => e = .returned v ∧ Grew w' w'') : Calls P f args w' fun e w'' => e = .returned v ∧ C4 W B c0 c1 c2 c3 w'' :=
  h.mono fun _ _ ⟨he, hg⟩ => ⟨he, hc.step hg⟩
theorem wp_region_c4 {P : Program} {id : Nat} {Q : Exit → Act → World → Prop} {a : Act} {w : World} {l : List Oper} {B : Nat} {c0 c1 c2 c3 : Value} (hm : P.follows .mixedOrders = true) (hB : Region.lexB .any l.toArray = true)
    (hb : B < w.heap.size) (h0 : w.cell? ⟨B, 0, none⟩ = some c0) (h1 : w.cell? ⟨B, 1, none⟩ = some c1) (h2 : w.cell? ⟨B, 2, none⟩ = some c2) (h3 : w.cell? ⟨B, 3, none⟩ = some c3)
    (h : wpQuiet P l.toArray (C4 w B c0 c1 c2 c3) (fun a' => ∀ w', C4 w B c0 c1 c2 c3 w' → Q .normal a' w') l a) : (Code.region id l.toArray true).wp P Q a w :=
  wp_region_quiet (C := C4 w B c0 c1 c2 c3) hm hB ⟨hb, (Grew.refl w).drew, h0, h1, h2, h3⟩ (by simpa using h)
set_option maxRecDepth 100000 in
set_option maxHeartbeats 2000000 in
theorem conv_187 (a x : Nat) (hx : x < 2 ^ 32) (o : Option Nat) (w : World) (hT : Cvs w) (ho : Hid (∀ z, Cnv .f32 .f64 x z → Res Ieee.double o z)) (hno : Hid (∀ r, o = some r → ¬ Ieee.double.infRung < sz Ieee.double r))
    (T : Hid (∀ w : World, Calls Tryd.prog 17 #[.int .u64 (a : Int)] w fun e w' => e = .returned (.float .f32 x) ∧ w' = w)) :
    Calls Tryd.prog 9 #[.int .i64 187, .int .u64 (a : Int)] w fun e w' => e = .returned (.tuple #[.int .u64 ((o.getD (cn Ieee.double) : Nat) : Int), .int .i64 0]) ∧ Grew w w' := by
  have F : Hid (∀ w : World, Cvs w → Calls Tryd.prog 23 #[.int .i64 187] w fun e w' => e = .returned (.agg #[.int .i64 25, .int .i64 32, .int .i64 64, .bool false]) ∧ Grew w w') := fun w h => fc_187 w h
  have HT : Hid (Cvs w) := hT
  clear hT
  generalize hR : ((o.getD (cn Ieee.double) : Nat) : Int) = R
  have HR : Hid (((o.getD (cn Ieee.double) : Nat) : Int) = R) := hR
  clear hR
  go_enter Tryd.func9, Tryd.ntmps9
  go_wp2_with fail
  refine (F.out _ (by first | exact HT.out | exact HT.out.grew ((Grew.refl _).alloc _))).mono ?_
  rintro e w1 ⟨rfl, g1⟩
  go_wp2_with fail
  refine (T.out _).mono ?_
  rintro e w2 ⟨rfl, hw2⟩
  have G1 : Hid (Grew w w2) := (by rw [hw2]; exact g1.alloc _)
  clear hw2 g1
  obtain ⟨z, w3, hr, hz, g3⟩ := run_cnv (P := Tryd.prog) .f32 .f64 38 42 x hx Tryd.underlying38 Tryd.underlying42 w2
  have L : Hid (∀ w : World, Calls Tryd.prog 18 #[.float .f64 z] w fun e w' => e = .returned (.int .u64 R) ∧ w' = w) := fun w => by
    have h := lay64_any o z (ho.out z hz) hno.out w
    rw [HR.out] at h
    exact h
  have G3 : Hid (Grew w w3) := G1.out.trans g3
  clear hz g3 G1
  go_wp2_with fail
  refine (L.out _).mono ?_
  rintro e w4 ⟨rfl, hw4⟩
  subst hw4
  go_wp2
  go_ret2
  go_light
  refine ⟨by first | rfl | simp, ?_⟩
  exact G3.out
set_option maxRecDepth 100000 in
set_option maxHeartbeats 2000000 in
theorem conv_182 (a x : Nat) (hx : x < 2 ^ 64) (o : Option Nat) (w : World) (hT : Cvs w) (ho : Hid (∀ z, Cnv .f64 .f32 x z → Res Ieee.single o z)) (hno : Hid (∀ r, o = some r → ¬ Ieee.single.infRung < sz Ieee.single r))
    (T : Hid (∀ w : World, Calls Tryd.prog 20 #[.int .u64 (a : Int)] w fun e w' => e = .returned (.float .f64 x) ∧ w' = w)) :
    Calls Tryd.prog 9 #[.int .i64 182, .int .u64 (a : Int)] w fun e w' => e = .returned (.tuple #[.int .u64 ((o.getD (cn Ieee.single) : Nat) : Int), .int .i64 0]) ∧ Grew w w' := by
  have F : Hid (∀ w : World, Cvs w → Calls Tryd.prog 23 #[.int .i64 182] w fun e w' => e = .returned (.agg #[.int .i64 24, .int .i64 64, .int .i64 32, .bool false]) ∧ Grew w w') := fun w h => fc_182 w h
  have HT : Hid (Cvs w) := hT
  clear hT
  generalize hR : ((o.getD (cn Ieee.single) : Nat) : Int) = R
  have HR : Hid (((o.getD (cn Ieee.single) : Nat) : Int) = R) := hR
  clear hR
  go_enter Tryd.func9, Tryd.ntmps9
  go_wp2_with fail
  refine (F.out _ (by first | exact HT.out | exact HT.out.grew ((Grew.refl _).alloc _))).mono ?_
  rintro e w1 ⟨rfl, g1⟩
  go_wp2_with fail
  refine (T.out _).mono ?_
  rintro e w2 ⟨rfl, hw2⟩
  have G1 : Hid (Grew w w2) := (by rw [hw2]; exact g1.alloc _)
  clear hw2 g1
  obtain ⟨z, w3, hr, hz, g3⟩ := run_cnv (P := Tryd.prog) .f64 .f32 42 38 x hx Tryd.underlying42 Tryd.underlying38 w2
  have L : Hid (∀ w : World, Calls Tryd.prog 15 #[.float .f32 z] w fun e w' => e = .returned (.int .u64 R) ∧ w' = w) := fun w => by
    have h := lay32_any o z (ho.out z hz) hno.out w
    rw [HR.out] at h
    exact h
  have G3 : Hid (Grew w w3) := G1.out.trans g3
  clear hz g3 G1
  go_wp2_with fail
  refine (L.out _).mono ?_
  rintro e w4 ⟨rfl, hw4⟩
  subst hw4
  go_wp2
  go_ret2
  go_light
  refine ⟨by first | rfl | simp, ?_⟩
  exact G3.out
set_option maxRecDepth 100000 in
set_option maxHeartbeats 2000000 in
theorem conv_183 (a R : Int) (y : Nat) (w : World) (hT : Cvs w)
    (W : Hid (∀ w : World, Calls Tryd.prog 26 #[.agg #[.int .i64 23, .int .i64 32, .int .i64 64, .bool true], .int .u64 a] w fun e w' => e = .returned (.int .u64 R) ∧ Grew w w')) :
    Calls Tryd.prog 9 #[.int .i64 183, .int .u64 a] w fun e w' => e = .returned (.tuple #[.int .u64 R, .int .i64 0]) ∧ Grew w w' := by
  have F : Hid (∀ w : World, Cvs w → Calls Tryd.prog 23 #[.int .i64 183] w fun e w' => e = .returned (.agg #[.int .i64 23, .int .i64 32, .int .i64 64, .bool true]) ∧ Grew w w') := fun w h => fc_183 w h
  have HT : Hid (Cvs w) := hT
  clear hT
  go_enter Tryd.func9, Tryd.ntmps9
  go_wp2_with fail
  refine (F.out _ (by first | exact HT.out | exact HT.out.grew ((Grew.refl _).alloc _))).mono ?_
  rintro e w1 ⟨rfl, g1⟩
  go_wp2_with fail
  refine (W.out _).mono ?_
  rintro e w3 ⟨rfl, g3⟩
  have l3_0 : w1.heap.size < w3.heap.size := Nat.lt_of_lt_of_le (by first | (simp; done) | (simp; omega) | omega) g3.2
  have h3_0_0 : w3.cell? ⟨w1.heap.size, 0, none⟩ = some (.int .i64 23) := (by rw [g3.1.cell (by first | (simp; done) | (simp; omega) | omega)]; go_simp)
  have h3_0_1 : w3.cell? ⟨w1.heap.size, 1, none⟩ = some (.int .i64 32) := (by rw [g3.1.cell (by first | (simp; done) | (simp; omega) | omega)]; go_simp)
  have h3_0_2 : w3.cell? ⟨w1.heap.size, 2, none⟩ = some (.int .i64 64) := (by rw [g3.1.cell (by first | (simp; done) | (simp; omega) | omega)]; go_simp)
  have h3_0_3 : w3.cell? ⟨w1.heap.size, 3, none⟩ = some (.bool true) := (by rw [g3.1.cell (by first | (simp; done) | (simp; omega) | omega)]; go_simp)
  go_wp2
  go_ret2
  go_light
  refine ⟨by first | rfl | simp, ?_⟩
  repeat (first | exact Grew.refl _ | assumption | refine Grew.drew ?_ | refine Grew.drewN ?_ _ | refine Grew.alloc ?_ _ | refine Grew.set ?_ (by first | (simp; done) | (simp; omega) | omega) _ | refine Grew.trans ?_ (by assumption))
set_option maxRecDepth 100000 in
set_option maxHeartbeats 2000000 in
theorem conv_184 (a R : Int) (y : Nat) (w : World) (hT : Cvs w)
    (W : Hid (∀ w : World, Calls Tryd.prog 26 #[.agg #[.int .i64 23, .int .i64 32, .int .i64 64, .bool false], .int .u64 a] w fun e w' => e = .returned (.int .u64 R) ∧ Grew w w')) :
    Calls Tryd.prog 9 #[.int .i64 184, .int .u64 a] w fun e w' => e = .returned (.tuple #[.int .u64 R, .int .i64 0]) ∧ Grew w w' := by
  have F : Hid (∀ w : World, Cvs w → Calls Tryd.prog 23 #[.int .i64 184] w fun e w' => e = .returned (.agg #[.int .i64 23, .int .i64 32, .int .i64 64, .bool false]) ∧ Grew w w') := fun w h => fc_184 w h
  have HT : Hid (Cvs w) := hT
  clear hT
  go_enter Tryd.func9, Tryd.ntmps9
  go_wp2_with fail
  refine (F.out _ (by first | exact HT.out | exact HT.out.grew ((Grew.refl _).alloc _))).mono ?_
  rintro e w1 ⟨rfl, g1⟩
  go_wp2_with fail
  refine (W.out _).mono ?_
  rintro e w3 ⟨rfl, g3⟩
  have l3_0 : w1.heap.size < w3.heap.size := Nat.lt_of_lt_of_le (by first | (simp; done) | (simp; omega) | omega) g3.2
  have h3_0_0 : w3.cell? ⟨w1.heap.size, 0, none⟩ = some (.int .i64 23) := (by rw [g3.1.cell (by first | (simp; done) | (simp; omega) | omega)]; go_simp)
  have h3_0_1 : w3.cell? ⟨w1.heap.size, 1, none⟩ = some (.int .i64 32) := (by rw [g3.1.cell (by first | (simp; done) | (simp; omega) | omega)]; go_simp)
  have h3_0_2 : w3.cell? ⟨w1.heap.size, 2, none⟩ = some (.int .i64 64) := (by rw [g3.1.cell (by first | (simp; done) | (simp; omega) | omega)]; go_simp)
  have h3_0_3 : w3.cell? ⟨w1.heap.size, 3, none⟩ = some (.bool false) := (by rw [g3.1.cell (by first | (simp; done) | (simp; omega) | omega)]; go_simp)
  go_wp2
  go_ret2
  go_light
  refine ⟨by first | rfl | simp, ?_⟩
  repeat (first | exact Grew.refl _ | assumption | refine Grew.drew ?_ | refine Grew.drewN ?_ _ | refine Grew.alloc ?_ _ | refine Grew.set ?_ (by first | (simp; done) | (simp; omega) | omega) _ | refine Grew.trans ?_ (by assumption))
set_option maxRecDepth 100000 in
set_option maxHeartbeats 2000000 in
theorem conv_170 (a R : Int) (y : Nat) (w : World) (hT : Cvs w)
    (Nu : Hid (∀ w : World, Calls Tryd.prog 25 #[.agg #[.int .i64 21, .int .i64 64, .int .i64 32, .bool true], .int .u64 a] w fun e w' => e = .returned (.float .f64 y) ∧ Grew w w'))
    (W : Hid (∀ w : World, Calls Tryd.prog 24 #[.agg #[.int .i64 21, .int .i64 64, .int .i64 32, .bool true], .float .f64 y] w fun e w' => e = .returned (.tuple #[.int .u64 R, .int .i64 0]) ∧ Grew w w')) :
    Calls Tryd.prog 9 #[.int .i64 170, .int .u64 a] w fun e w' => e = .returned (.tuple #[.int .u64 R, .int .i64 0]) ∧ Grew w w' := by
  have F : Hid (∀ w : World, Cvs w → Calls Tryd.prog 23 #[.int .i64 170] w fun e w' => e = .returned (.agg #[.int .i64 21, .int .i64 64, .int .i64 32, .bool true]) ∧ Grew w w') := fun w h => fc_170 w h
  have HT : Hid (Cvs w) := hT
  clear hT
  go_enter Tryd.func9, Tryd.ntmps9
  go_wp2_with fail
  refine (F.out _ (by first | exact HT.out | exact HT.out.grew ((Grew.refl _).alloc _))).mono ?_
  rintro e w1 ⟨rfl, g1⟩
  go_wp2_with fail
  refine wp_region_c4 (B := w1.heap.size) (c0 := .int .i64 21) (c1 := .int .i64 64) (c2 := .int .i64 32) (c3 := .bool true) (by kernel_rfl) (by kernel_rfl) (by simp) (by go_simp) (by go_simp) (by go_simp) (by go_simp) ?_
  repeat (first
    | go_big_quiet_skip
    | (go_big_quiet_want
       go_big_quiet_op
       first
       | go_big_quiet_on
       | (refine ⟨_, fun _ _ => rfl, ?_⟩; go_big_quiet_on)
       | (refine ⟨.agg #[.int .i64 21, .int .i64 64, .int .i64 32, .bool true], fun w' hw' => ?_, ?_⟩
          · (obtain ⟨_, _, hc0, hc1, hc2, hc3⟩ := hw'; go_simp; done)
          go_big_quiet_on)
       | (apply Exists.intro
          refine ⟨fun w' hw' => ?_, ?_⟩
          · (first
             | (go_at_call 25; exact hw'.call (Nu.out _))
             | (go_at_call 24; exact hw'.call (W.out _)))
          go_big_quiet_on)))
  refine wpQuiet_nil ?_
  rintro w9 ⟨_, g9, _⟩
  go_wp2
  go_ret2
  go_light
  refine ⟨by first | rfl | simp, ?_⟩
  repeat (first | exact Grew.refl _ | assumption | refine Grew.drew ?_ | refine Grew.drewN ?_ _ | refine Grew.alloc ?_ _ | refine Grew.set ?_ (by first | (simp; done) | (simp; omega) | omega) _ | refine Grew.trans ?_ (by assumption))
set_option maxRecDepth 100000 in
set_option maxHeartbeats 2000000 in
theorem conv_171 (a R : Int) (y : Nat) (w : World) (hT : Cvs w)
    (Nu : Hid (∀ w : World, Calls Tryd.prog 25 #[.agg #[.int .i64 21, .int .i64 64, .int .i64 32, .bool false], .int .u64 a] w fun e w' => e = .returned (.float .f64 y) ∧ Grew w w'))
    (W : Hid (∀ w : World, Calls Tryd.prog 24 #[.agg #[.int .i64 21, .int .i64 64, .int .i64 32, .bool false], .float .f64 y] w fun e w' => e = .returned (.tuple #[.int .u64 R, .int .i64 0]) ∧ Grew w w')) :
    Calls Tryd.prog 9 #[.int .i64 171, .int .u64 a] w fun e w' => e = .returned (.tuple #[.int .u64 R, .int .i64 0]) ∧ Grew w w' := by
  have F : Hid (∀ w : World, Cvs w → Calls Tryd.prog 23 #[.int .i64 171] w fun e w' => e = .returned (.agg #[.int .i64 21, .int .i64 64, .int .i64 32, .bool false]) ∧ Grew w w') := fun w h => fc_171 w h
  have HT : Hid (Cvs w) := hT
  clear hT
  go_enter Tryd.func9, Tryd.ntmps9
  go_wp2_with fail
  refine (F.out _ (by first | exact HT.out | exact HT.out.grew ((Grew.refl _).alloc _))).mono ?_
  rintro e w1 ⟨rfl, g1⟩
  go_wp2_with fail
  refine wp_region_c4 (B := w1.heap.size) (c0 := .int .i64 21) (c1 := .int .i64 64) (c2 := .int .i64 32) (c3 := .bool false) (by kernel_rfl) (by kernel_rfl) (by simp) (by go_simp) (by go_simp) (by go_simp) (by go_simp) ?_
  repeat (first
    | go_big_quiet_skip
    | (go_big_quiet_want
       go_big_quiet_op
       first
       | go_big_quiet_on
       | (refine ⟨_, fun _ _ => rfl, ?_⟩; go_big_quiet_on)
       | (refine ⟨.agg #[.int .i64 21, .int .i64 64, .int .i64 32, .bool false], fun w' hw' => ?_, ?_⟩
          · (obtain ⟨_, _, hc0, hc1, hc2, hc3⟩ := hw'; go_simp; done)
          go_big_quiet_on)
       | (apply Exists.intro
          refine ⟨fun w' hw' => ?_, ?_⟩
          · (first
             | (go_at_call 25; exact hw'.call (Nu.out _))
             | (go_at_call 24; exact hw'.call (W.out _)))
          go_big_quiet_on)))
  refine wpQuiet_nil ?_
  rintro w9 ⟨_, g9, _⟩
  go_wp2
  go_ret2
  go_light
  refine ⟨by first | rfl | simp, ?_⟩
  repeat (first | exact Grew.refl _ | assumption | refine Grew.drew ?_ | refine Grew.drewN ?_ _ | refine Grew.alloc ?_ _ | refine Grew.set ?_ (by first | (simp; done) | (simp; omega) | omega) _ | refine Grew.trans ?_ (by assumption))
end Go.Proofs.YtjkebimmddlccabDoor
