/-
  FnumOrder: for all words a, b of both kinds of floats: of two that are no NaNs just one of less, equal, greater goes, with a NaN none of them, and min is not above max. It holds where the table ratchet/fnum.rows starts as its text lays it (the card ties it to the text of the pruned copy); no other condition.
-/
import Derived.Test.YtjkebimmddlccabDoorCards
import Derived.Test.YtjkebimmddlccabDoorTie
import Derived.Test.YtjkebimmddlccabDoorAns
import Derived.Test.YtjkebimmddlccabDoorLaid
import Derived.Deep.DeepHandedRow
import Derived.Lib.LaidTab
namespace Go.Proofs.YtjkebimmddlccabDoor
open Go.RowKit
set_option linter.unusedVariables false
set_option linter.unusedSimpArgs false

theorem cop_nan {f : Ieee.Format} (ht : Two f) {x y : Nat} (h : f.infRung < sz f x ∨ f.infRung < sz f y) : cop f 0 x y = false ∧ cop f 2 x y = false ∧ cop f 3 x y = false := by
  unfold cop
  rw [order_nan ht h]
  exact ⟨rfl, rfl, rfl⟩
/- Of two numbers just one of less, equal, greater goes. -/
theorem cop_one {f : Ieee.Format} (ht : Two f) {x y : Nat} (hx : sz f x ≤ f.infRung) (hy : sz f y ≤ f.infRung) :
    (cop f 0 x y = true ∧ cop f 2 x y = false ∧ cop f 3 x y = false) ∨ (cop f 0 x y = false ∧ cop f 2 x y = true ∧ cop f 3 x y = false) ∨ (cop f 0 x y = false ∧ cop f 2 x y = false ∧ cop f 3 x y = true) := by
  unfold cop
  rw [order_key ht hx hy]
  cases compare (key f x) (key f y)
  · exact Or.inr (Or.inl ⟨rfl, rfl, rfl⟩)
  · exact Or.inl ⟨rfl, rfl, rfl⟩
  · exact Or.inr (Or.inr ⟨rfl, rfl, rfl⟩)
theorem cop_le {f : Ieee.Format} (ht : Two f) {x y : Nat} (hx : sz f x ≤ f.infRung) (hy : sz f y ≤ f.infRung) (h : key f x ≤ key f y) : cop f 4 x y = true := by
  unfold cop
  rw [order_key ht hx hy]
  rcases Int.lt_or_eq_of_le h with h1 | h1
  · have : compare (key f x) (key f y) = .lt := by simp [compare, compareOfLessAndEq, h1]
    rw [this]; rfl
  · rw [h1]; simp
theorem mm_le {f : Ieee.Format} (ht : Two f) {x y : Nat} (hx : sz f x ≤ f.infRung) (hy : sz f y ≤ f.infRung) : ∃ lo hi, mm f false x y = some lo ∧ mm f true x y = some hi ∧ (lo = x ∨ lo = y) ∧ (hi = x ∨ hi = y) ∧ cop f 4 lo hi = true := by
  unfold mm
  rw [order_key ht hx hy]
  rcases Int.lt_trichotomy (key f x) (key f y) with h | h | h
  · have : compare (key f x) (key f y) = .lt := by simp [compare, compareOfLessAndEq, h]
    rw [this]
    exact ⟨x, y, rfl, rfl, Or.inl rfl, Or.inr rfl, cop_le ht hx hy (by omega)⟩
  · have : compare (key f x) (key f y) = .eq := by rw [h]; simp
    rw [this]
    cases hn : (f.read x).neg
    · exact ⟨y, x, by simp, by simp, Or.inr rfl, Or.inl rfl, cop_le ht hy hx (by omega)⟩
    · exact ⟨x, y, by simp, by simp, Or.inl rfl, Or.inr rfl, cop_le ht hx hy (by omega)⟩
  · have : compare (key f x) (key f y) = .gt := by
      have n1 : ¬ key f x < key f y := by omega
      have n2 : ¬ key f x = key f y := by omega
      simp [compare, compareOfLessAndEq, n1, n2]
    rw [this]
    exact ⟨y, x, rfl, rfl, Or.inr rfl, Or.inl rfl, cop_le ht hy hx (by omega)⟩
set_option maxRecDepth 100000 in
set_option maxHeartbeats 2000000 in
theorem order_np32 (a b : Int) (r1 r2 : Bool) (w : World)
    (L : Hid (Calls Tryd.prog 6 #[] w fun e w' => e = .returned (.bool true) ∧ Grew w w'))
    (P : Hid (∀ w : World, Calls Tryd.prog 10 #[.int .i64 32, .int .u64 a] w fun e w' => e = .returned (.tuple #[.bool true, .bool r1, .int .i64 0]) ∧ w' = w))
    (Q : Hid (∀ w : World, Calls Tryd.prog 10 #[.int .i64 32, .int .u64 b] w fun e w' => e = .returned (.tuple #[.bool false, .bool r2, .int .i64 0]) ∧ w' = w))
    (X1 : Hid (∀ w1 : World, Grew w w1 → Calls Tryd.prog 11 #[.int .i64 91, .int .u64 a, .int .u64 b] w1 fun e w' => e = .returned (.tuple #[.int .u64 0, .int .i64 0]) ∧ Grew w1 w'))
    (X2 : Hid (∀ w1 : World, Grew w w1 → Calls Tryd.prog 11 #[.int .i64 93, .int .u64 a, .int .u64 b] w1 fun e w' => e = .returned (.tuple #[.int .u64 0, .int .i64 0]) ∧ Grew w1 w'))
    (X3 : Hid (∀ w1 : World, Grew w w1 → Calls Tryd.prog 11 #[.int .i64 94, .int .u64 a, .int .u64 b] w1 fun e w' => e = .returned (.tuple #[.int .u64 0, .int .i64 0]) ∧ Grew w1 w')) :
    Calls Tryd.prog 5 #[.int .u64 a, .int .u64 b, .bool false] w fun e w' => e = .returned (.bool true) ∧ Grew w w' := by
  go_enter Tryd.func5, Tryd.ntmps5
  go_wp2_with fail
  refine (L.out).mono ?_
  rintro e w0 ⟨rfl, g0⟩
  have G0 : Hid (Grew w w0) := g0
  clear g0
  go_wp2_with fail
  refine (P.out _).mono ?_
  rintro e wp ⟨rfl, hwp⟩
  obtain rfl := hwp.symm
  go_wp2_with fail
  refine (Q.out _).mono ?_
  rintro e wq ⟨rfl, hwq⟩
  obtain rfl := hwq.symm
  go_wp2_with fail
  refine (X1.out _ G0.out).mono ?_
  rintro e w1 ⟨rfl, g1⟩
  have G1 : Hid (Grew w w1) := G0.out.trans g1
  clear g1
  go_wp2_with fail
  refine (X2.out _ G1.out).mono ?_
  rintro e w2 ⟨rfl, g2⟩
  have G2 : Hid (Grew w w2) := G1.out.trans g2
  clear g2
  go_wp2_with fail
  refine (X3.out _ G2.out).mono ?_
  rintro e w3 ⟨rfl, g3⟩
  have G3 : Hid (Grew w w3) := G2.out.trans g3
  clear g3
  go_wp2
  go_ret
  go_light
  exact ⟨by first | rfl | simp, G3.out⟩
set_option maxRecDepth 100000 in
set_option maxHeartbeats 2000000 in
theorem order_nq32 (a b : Int) (r1 r2 : Bool) (w : World)
    (L : Hid (Calls Tryd.prog 6 #[] w fun e w' => e = .returned (.bool true) ∧ Grew w w'))
    (P : Hid (∀ w : World, Calls Tryd.prog 10 #[.int .i64 32, .int .u64 a] w fun e w' => e = .returned (.tuple #[.bool false, .bool r1, .int .i64 0]) ∧ w' = w))
    (Q : Hid (∀ w : World, Calls Tryd.prog 10 #[.int .i64 32, .int .u64 b] w fun e w' => e = .returned (.tuple #[.bool true, .bool r2, .int .i64 0]) ∧ w' = w))
    (X1 : Hid (∀ w1 : World, Grew w w1 → Calls Tryd.prog 11 #[.int .i64 91, .int .u64 a, .int .u64 b] w1 fun e w' => e = .returned (.tuple #[.int .u64 0, .int .i64 0]) ∧ Grew w1 w'))
    (X2 : Hid (∀ w1 : World, Grew w w1 → Calls Tryd.prog 11 #[.int .i64 93, .int .u64 a, .int .u64 b] w1 fun e w' => e = .returned (.tuple #[.int .u64 0, .int .i64 0]) ∧ Grew w1 w'))
    (X3 : Hid (∀ w1 : World, Grew w w1 → Calls Tryd.prog 11 #[.int .i64 94, .int .u64 a, .int .u64 b] w1 fun e w' => e = .returned (.tuple #[.int .u64 0, .int .i64 0]) ∧ Grew w1 w')) :
    Calls Tryd.prog 5 #[.int .u64 a, .int .u64 b, .bool false] w fun e w' => e = .returned (.bool true) ∧ Grew w w' := by
  go_enter Tryd.func5, Tryd.ntmps5
  go_wp2_with fail
  refine (L.out).mono ?_
  rintro e w0 ⟨rfl, g0⟩
  have G0 : Hid (Grew w w0) := g0
  clear g0
  go_wp2_with fail
  refine (P.out _).mono ?_
  rintro e wp ⟨rfl, hwp⟩
  obtain rfl := hwp.symm
  go_wp2_with fail
  refine (Q.out _).mono ?_
  rintro e wq ⟨rfl, hwq⟩
  obtain rfl := hwq.symm
  go_wp2_with fail
  refine (X1.out _ G0.out).mono ?_
  rintro e w1 ⟨rfl, g1⟩
  have G1 : Hid (Grew w w1) := G0.out.trans g1
  clear g1
  go_wp2_with fail
  refine (X2.out _ G1.out).mono ?_
  rintro e w2 ⟨rfl, g2⟩
  have G2 : Hid (Grew w w2) := G1.out.trans g2
  clear g2
  go_wp2_with fail
  refine (X3.out _ G2.out).mono ?_
  rintro e w3 ⟨rfl, g3⟩
  have G3 : Hid (Grew w w3) := G2.out.trans g3
  clear g3
  go_wp2
  go_ret
  go_light
  exact ⟨by first | rfl | simp, G3.out⟩
set_option maxRecDepth 100000 in
set_option maxHeartbeats 2000000 in
theorem order_nr32 (a b : Int) (r1 r2 : Bool) (w : World)
    (L : Hid (Calls Tryd.prog 6 #[] w fun e w' => e = .returned (.bool true) ∧ Grew w w'))
    (P : Hid (∀ w : World, Calls Tryd.prog 10 #[.int .i64 32, .int .u64 a] w fun e w' => e = .returned (.tuple #[.bool true, .bool r1, .int .i64 0]) ∧ w' = w))
    (Q : Hid (∀ w : World, Calls Tryd.prog 10 #[.int .i64 32, .int .u64 b] w fun e w' => e = .returned (.tuple #[.bool true, .bool r2, .int .i64 0]) ∧ w' = w))
    (X1 : Hid (∀ w1 : World, Grew w w1 → Calls Tryd.prog 11 #[.int .i64 91, .int .u64 a, .int .u64 b] w1 fun e w' => e = .returned (.tuple #[.int .u64 0, .int .i64 0]) ∧ Grew w1 w'))
    (X2 : Hid (∀ w1 : World, Grew w w1 → Calls Tryd.prog 11 #[.int .i64 93, .int .u64 a, .int .u64 b] w1 fun e w' => e = .returned (.tuple #[.int .u64 0, .int .i64 0]) ∧ Grew w1 w'))
    (X3 : Hid (∀ w1 : World, Grew w w1 → Calls Tryd.prog 11 #[.int .i64 94, .int .u64 a, .int .u64 b] w1 fun e w' => e = .returned (.tuple #[.int .u64 0, .int .i64 0]) ∧ Grew w1 w')) :
    Calls Tryd.prog 5 #[.int .u64 a, .int .u64 b, .bool false] w fun e w' => e = .returned (.bool true) ∧ Grew w w' := by
  go_enter Tryd.func5, Tryd.ntmps5
  go_wp2_with fail
  refine (L.out).mono ?_
  rintro e w0 ⟨rfl, g0⟩
  have G0 : Hid (Grew w w0) := g0
  clear g0
  go_wp2_with fail
  refine (P.out _).mono ?_
  rintro e wp ⟨rfl, hwp⟩
  obtain rfl := hwp.symm
  go_wp2_with fail
  refine (Q.out _).mono ?_
  rintro e wq ⟨rfl, hwq⟩
  obtain rfl := hwq.symm
  go_wp2_with fail
  refine (X1.out _ G0.out).mono ?_
  rintro e w1 ⟨rfl, g1⟩
  have G1 : Hid (Grew w w1) := G0.out.trans g1
  clear g1
  go_wp2_with fail
  refine (X2.out _ G1.out).mono ?_
  rintro e w2 ⟨rfl, g2⟩
  have G2 : Hid (Grew w w2) := G1.out.trans g2
  clear g2
  go_wp2_with fail
  refine (X3.out _ G2.out).mono ?_
  rintro e w3 ⟨rfl, g3⟩
  have G3 : Hid (Grew w w3) := G2.out.trans g3
  clear g3
  go_wp2
  go_ret
  go_light
  exact ⟨by first | rfl | simp, G3.out⟩
set_option maxRecDepth 100000 in
set_option maxHeartbeats 2000000 in
theorem order_e32 (a b lo hi : Int) (r1 r2 : Bool) (w : World)
    (L : Hid (Calls Tryd.prog 6 #[] w fun e w' => e = .returned (.bool true) ∧ Grew w w'))
    (P : Hid (∀ w : World, Calls Tryd.prog 10 #[.int .i64 32, .int .u64 a] w fun e w' => e = .returned (.tuple #[.bool false, .bool r1, .int .i64 0]) ∧ w' = w))
    (Q : Hid (∀ w : World, Calls Tryd.prog 10 #[.int .i64 32, .int .u64 b] w fun e w' => e = .returned (.tuple #[.bool false, .bool r2, .int .i64 0]) ∧ w' = w))
    (X1 : Hid (∀ w1 : World, Grew w w1 → Calls Tryd.prog 11 #[.int .i64 91, .int .u64 a, .int .u64 b] w1 fun e w' => e = .returned (.tuple #[.int .u64 1, .int .i64 0]) ∧ Grew w1 w'))
    (X2 : Hid (∀ w1 : World, Grew w w1 → Calls Tryd.prog 11 #[.int .i64 93, .int .u64 a, .int .u64 b] w1 fun e w' => e = .returned (.tuple #[.int .u64 0, .int .i64 0]) ∧ Grew w1 w'))
    (X3 : Hid (∀ w1 : World, Grew w w1 → Calls Tryd.prog 11 #[.int .i64 94, .int .u64 a, .int .u64 b] w1 fun e w' => e = .returned (.tuple #[.int .u64 0, .int .i64 0]) ∧ Grew w1 w'))
    (X4 : Hid (∀ w1 : World, Grew w w1 → Calls Tryd.prog 7 #[.int .i64 150, .int .u64 a, .int .u64 b] w1 fun e w' => e = .returned (.tuple #[.int .u64 lo, .int .i64 0]) ∧ Grew w1 w'))
    (X5 : Hid (∀ w1 : World, Grew w w1 → Calls Tryd.prog 7 #[.int .i64 151, .int .u64 a, .int .u64 b] w1 fun e w' => e = .returned (.tuple #[.int .u64 hi, .int .i64 0]) ∧ Grew w1 w'))
    (X6 : Hid (∀ w1 : World, Grew w w1 → Calls Tryd.prog 11 #[.int .i64 95, .int .u64 lo, .int .u64 hi] w1 fun e w' => e = .returned (.tuple #[.int .u64 1, .int .i64 0]) ∧ Grew w1 w')) :
    Calls Tryd.prog 5 #[.int .u64 a, .int .u64 b, .bool false] w fun e w' => e = .returned (.bool true) ∧ Grew w w' := by
  go_enter Tryd.func5, Tryd.ntmps5
  go_wp2_with fail
  refine (L.out).mono ?_
  rintro e w0 ⟨rfl, g0⟩
  have G0 : Hid (Grew w w0) := g0
  clear g0
  go_wp2_with fail
  refine (P.out _).mono ?_
  rintro e wp ⟨rfl, hwp⟩
  obtain rfl := hwp.symm
  go_wp2_with fail
  refine (Q.out _).mono ?_
  rintro e wq ⟨rfl, hwq⟩
  obtain rfl := hwq.symm
  go_wp2_with fail
  refine (X1.out _ G0.out).mono ?_
  rintro e w1 ⟨rfl, g1⟩
  have G1 : Hid (Grew w w1) := G0.out.trans g1
  clear g1
  go_wp2_with fail
  refine (X2.out _ G1.out).mono ?_
  rintro e w2 ⟨rfl, g2⟩
  have G2 : Hid (Grew w w2) := G1.out.trans g2
  clear g2
  go_wp2_with fail
  refine (X3.out _ G2.out).mono ?_
  rintro e w3 ⟨rfl, g3⟩
  have G3 : Hid (Grew w w3) := G2.out.trans g3
  clear g3
  go_wp2_with fail
  refine (X4.out _ G3.out).mono ?_
  rintro e w4 ⟨rfl, g4⟩
  have G4 : Hid (Grew w w4) := G3.out.trans g4
  clear g4
  go_wp2_with fail
  refine (X5.out _ G4.out).mono ?_
  rintro e w5 ⟨rfl, g5⟩
  have G5 : Hid (Grew w w5) := G4.out.trans g5
  clear g5
  go_wp2_with fail
  refine (X6.out _ G5.out).mono ?_
  rintro e w6 ⟨rfl, g6⟩
  have G6 : Hid (Grew w w6) := G5.out.trans g6
  clear g6
  go_wp2
  go_ret
  go_light
  exact ⟨by first | rfl | simp, G6.out⟩
set_option maxRecDepth 100000 in
set_option maxHeartbeats 2000000 in
theorem order_l32 (a b lo hi : Int) (r1 r2 : Bool) (w : World)
    (L : Hid (Calls Tryd.prog 6 #[] w fun e w' => e = .returned (.bool true) ∧ Grew w w'))
    (P : Hid (∀ w : World, Calls Tryd.prog 10 #[.int .i64 32, .int .u64 a] w fun e w' => e = .returned (.tuple #[.bool false, .bool r1, .int .i64 0]) ∧ w' = w))
    (Q : Hid (∀ w : World, Calls Tryd.prog 10 #[.int .i64 32, .int .u64 b] w fun e w' => e = .returned (.tuple #[.bool false, .bool r2, .int .i64 0]) ∧ w' = w))
    (X1 : Hid (∀ w1 : World, Grew w w1 → Calls Tryd.prog 11 #[.int .i64 91, .int .u64 a, .int .u64 b] w1 fun e w' => e = .returned (.tuple #[.int .u64 0, .int .i64 0]) ∧ Grew w1 w'))
    (X2 : Hid (∀ w1 : World, Grew w w1 → Calls Tryd.prog 11 #[.int .i64 93, .int .u64 a, .int .u64 b] w1 fun e w' => e = .returned (.tuple #[.int .u64 1, .int .i64 0]) ∧ Grew w1 w'))
    (X3 : Hid (∀ w1 : World, Grew w w1 → Calls Tryd.prog 11 #[.int .i64 94, .int .u64 a, .int .u64 b] w1 fun e w' => e = .returned (.tuple #[.int .u64 0, .int .i64 0]) ∧ Grew w1 w'))
    (X4 : Hid (∀ w1 : World, Grew w w1 → Calls Tryd.prog 7 #[.int .i64 150, .int .u64 a, .int .u64 b] w1 fun e w' => e = .returned (.tuple #[.int .u64 lo, .int .i64 0]) ∧ Grew w1 w'))
    (X5 : Hid (∀ w1 : World, Grew w w1 → Calls Tryd.prog 7 #[.int .i64 151, .int .u64 a, .int .u64 b] w1 fun e w' => e = .returned (.tuple #[.int .u64 hi, .int .i64 0]) ∧ Grew w1 w'))
    (X6 : Hid (∀ w1 : World, Grew w w1 → Calls Tryd.prog 11 #[.int .i64 95, .int .u64 lo, .int .u64 hi] w1 fun e w' => e = .returned (.tuple #[.int .u64 1, .int .i64 0]) ∧ Grew w1 w')) :
    Calls Tryd.prog 5 #[.int .u64 a, .int .u64 b, .bool false] w fun e w' => e = .returned (.bool true) ∧ Grew w w' := by
  go_enter Tryd.func5, Tryd.ntmps5
  go_wp2_with fail
  refine (L.out).mono ?_
  rintro e w0 ⟨rfl, g0⟩
  have G0 : Hid (Grew w w0) := g0
  clear g0
  go_wp2_with fail
  refine (P.out _).mono ?_
  rintro e wp ⟨rfl, hwp⟩
  obtain rfl := hwp.symm
  go_wp2_with fail
  refine (Q.out _).mono ?_
  rintro e wq ⟨rfl, hwq⟩
  obtain rfl := hwq.symm
  go_wp2_with fail
  refine (X1.out _ G0.out).mono ?_
  rintro e w1 ⟨rfl, g1⟩
  have G1 : Hid (Grew w w1) := G0.out.trans g1
  clear g1
  go_wp2_with fail
  refine (X2.out _ G1.out).mono ?_
  rintro e w2 ⟨rfl, g2⟩
  have G2 : Hid (Grew w w2) := G1.out.trans g2
  clear g2
  go_wp2_with fail
  refine (X3.out _ G2.out).mono ?_
  rintro e w3 ⟨rfl, g3⟩
  have G3 : Hid (Grew w w3) := G2.out.trans g3
  clear g3
  go_wp2_with fail
  refine (X4.out _ G3.out).mono ?_
  rintro e w4 ⟨rfl, g4⟩
  have G4 : Hid (Grew w w4) := G3.out.trans g4
  clear g4
  go_wp2_with fail
  refine (X5.out _ G4.out).mono ?_
  rintro e w5 ⟨rfl, g5⟩
  have G5 : Hid (Grew w w5) := G4.out.trans g5
  clear g5
  go_wp2_with fail
  refine (X6.out _ G5.out).mono ?_
  rintro e w6 ⟨rfl, g6⟩
  have G6 : Hid (Grew w w6) := G5.out.trans g6
  clear g6
  go_wp2
  go_ret
  go_light
  exact ⟨by first | rfl | simp, G6.out⟩
set_option maxRecDepth 100000 in
set_option maxHeartbeats 2000000 in
theorem order_g32 (a b lo hi : Int) (r1 r2 : Bool) (w : World)
    (L : Hid (Calls Tryd.prog 6 #[] w fun e w' => e = .returned (.bool true) ∧ Grew w w'))
    (P : Hid (∀ w : World, Calls Tryd.prog 10 #[.int .i64 32, .int .u64 a] w fun e w' => e = .returned (.tuple #[.bool false, .bool r1, .int .i64 0]) ∧ w' = w))
    (Q : Hid (∀ w : World, Calls Tryd.prog 10 #[.int .i64 32, .int .u64 b] w fun e w' => e = .returned (.tuple #[.bool false, .bool r2, .int .i64 0]) ∧ w' = w))
    (X1 : Hid (∀ w1 : World, Grew w w1 → Calls Tryd.prog 11 #[.int .i64 91, .int .u64 a, .int .u64 b] w1 fun e w' => e = .returned (.tuple #[.int .u64 0, .int .i64 0]) ∧ Grew w1 w'))
    (X2 : Hid (∀ w1 : World, Grew w w1 → Calls Tryd.prog 11 #[.int .i64 93, .int .u64 a, .int .u64 b] w1 fun e w' => e = .returned (.tuple #[.int .u64 0, .int .i64 0]) ∧ Grew w1 w'))
    (X3 : Hid (∀ w1 : World, Grew w w1 → Calls Tryd.prog 11 #[.int .i64 94, .int .u64 a, .int .u64 b] w1 fun e w' => e = .returned (.tuple #[.int .u64 1, .int .i64 0]) ∧ Grew w1 w'))
    (X4 : Hid (∀ w1 : World, Grew w w1 → Calls Tryd.prog 7 #[.int .i64 150, .int .u64 a, .int .u64 b] w1 fun e w' => e = .returned (.tuple #[.int .u64 lo, .int .i64 0]) ∧ Grew w1 w'))
    (X5 : Hid (∀ w1 : World, Grew w w1 → Calls Tryd.prog 7 #[.int .i64 151, .int .u64 a, .int .u64 b] w1 fun e w' => e = .returned (.tuple #[.int .u64 hi, .int .i64 0]) ∧ Grew w1 w'))
    (X6 : Hid (∀ w1 : World, Grew w w1 → Calls Tryd.prog 11 #[.int .i64 95, .int .u64 lo, .int .u64 hi] w1 fun e w' => e = .returned (.tuple #[.int .u64 1, .int .i64 0]) ∧ Grew w1 w')) :
    Calls Tryd.prog 5 #[.int .u64 a, .int .u64 b, .bool false] w fun e w' => e = .returned (.bool true) ∧ Grew w w' := by
  go_enter Tryd.func5, Tryd.ntmps5
  go_wp2_with fail
  refine (L.out).mono ?_
  rintro e w0 ⟨rfl, g0⟩
  have G0 : Hid (Grew w w0) := g0
  clear g0
  go_wp2_with fail
  refine (P.out _).mono ?_
  rintro e wp ⟨rfl, hwp⟩
  obtain rfl := hwp.symm
  go_wp2_with fail
  refine (Q.out _).mono ?_
  rintro e wq ⟨rfl, hwq⟩
  obtain rfl := hwq.symm
  go_wp2_with fail
  refine (X1.out _ G0.out).mono ?_
  rintro e w1 ⟨rfl, g1⟩
  have G1 : Hid (Grew w w1) := G0.out.trans g1
  clear g1
  go_wp2_with fail
  refine (X2.out _ G1.out).mono ?_
  rintro e w2 ⟨rfl, g2⟩
  have G2 : Hid (Grew w w2) := G1.out.trans g2
  clear g2
  go_wp2_with fail
  refine (X3.out _ G2.out).mono ?_
  rintro e w3 ⟨rfl, g3⟩
  have G3 : Hid (Grew w w3) := G2.out.trans g3
  clear g3
  go_wp2_with fail
  refine (X4.out _ G3.out).mono ?_
  rintro e w4 ⟨rfl, g4⟩
  have G4 : Hid (Grew w w4) := G3.out.trans g4
  clear g4
  go_wp2_with fail
  refine (X5.out _ G4.out).mono ?_
  rintro e w5 ⟨rfl, g5⟩
  have G5 : Hid (Grew w w5) := G4.out.trans g5
  clear g5
  go_wp2_with fail
  refine (X6.out _ G5.out).mono ?_
  rintro e w6 ⟨rfl, g6⟩
  have G6 : Hid (Grew w w6) := G5.out.trans g6
  clear g6
  go_wp2
  go_ret
  go_light
  exact ⟨by first | rfl | simp, G6.out⟩
set_option maxRecDepth 100000 in
set_option maxHeartbeats 2000000 in
theorem order_np64 (a b : Int) (r1 r2 : Bool) (w : World)
    (L : Hid (Calls Tryd.prog 6 #[] w fun e w' => e = .returned (.bool true) ∧ Grew w w'))
    (P : Hid (∀ w : World, Calls Tryd.prog 10 #[.int .i64 64, .int .u64 a] w fun e w' => e = .returned (.tuple #[.bool true, .bool r1, .int .i64 0]) ∧ w' = w))
    (Q : Hid (∀ w : World, Calls Tryd.prog 10 #[.int .i64 64, .int .u64 b] w fun e w' => e = .returned (.tuple #[.bool false, .bool r2, .int .i64 0]) ∧ w' = w))
    (X1 : Hid (∀ w1 : World, Grew w w1 → Calls Tryd.prog 11 #[.int .i64 97, .int .u64 a, .int .u64 b] w1 fun e w' => e = .returned (.tuple #[.int .u64 0, .int .i64 0]) ∧ Grew w1 w'))
    (X2 : Hid (∀ w1 : World, Grew w w1 → Calls Tryd.prog 11 #[.int .i64 99, .int .u64 a, .int .u64 b] w1 fun e w' => e = .returned (.tuple #[.int .u64 0, .int .i64 0]) ∧ Grew w1 w'))
    (X3 : Hid (∀ w1 : World, Grew w w1 → Calls Tryd.prog 11 #[.int .i64 100, .int .u64 a, .int .u64 b] w1 fun e w' => e = .returned (.tuple #[.int .u64 0, .int .i64 0]) ∧ Grew w1 w')) :
    Calls Tryd.prog 5 #[.int .u64 a, .int .u64 b, .bool true] w fun e w' => e = .returned (.bool true) ∧ Grew w w' := by
  go_enter Tryd.func5, Tryd.ntmps5
  go_wp2_with fail
  refine (L.out).mono ?_
  rintro e w0 ⟨rfl, g0⟩
  have G0 : Hid (Grew w w0) := g0
  clear g0
  go_wp2_with fail
  refine (P.out _).mono ?_
  rintro e wp ⟨rfl, hwp⟩
  obtain rfl := hwp.symm
  go_wp2_with fail
  refine (Q.out _).mono ?_
  rintro e wq ⟨rfl, hwq⟩
  obtain rfl := hwq.symm
  go_wp2_with fail
  refine (X1.out _ G0.out).mono ?_
  rintro e w1 ⟨rfl, g1⟩
  have G1 : Hid (Grew w w1) := G0.out.trans g1
  clear g1
  go_wp2_with fail
  refine (X2.out _ G1.out).mono ?_
  rintro e w2 ⟨rfl, g2⟩
  have G2 : Hid (Grew w w2) := G1.out.trans g2
  clear g2
  go_wp2_with fail
  refine (X3.out _ G2.out).mono ?_
  rintro e w3 ⟨rfl, g3⟩
  have G3 : Hid (Grew w w3) := G2.out.trans g3
  clear g3
  go_wp2
  go_ret
  go_light
  exact ⟨by first | rfl | simp, G3.out⟩
set_option maxRecDepth 100000 in
set_option maxHeartbeats 2000000 in
theorem order_nq64 (a b : Int) (r1 r2 : Bool) (w : World)
    (L : Hid (Calls Tryd.prog 6 #[] w fun e w' => e = .returned (.bool true) ∧ Grew w w'))
    (P : Hid (∀ w : World, Calls Tryd.prog 10 #[.int .i64 64, .int .u64 a] w fun e w' => e = .returned (.tuple #[.bool false, .bool r1, .int .i64 0]) ∧ w' = w))
    (Q : Hid (∀ w : World, Calls Tryd.prog 10 #[.int .i64 64, .int .u64 b] w fun e w' => e = .returned (.tuple #[.bool true, .bool r2, .int .i64 0]) ∧ w' = w))
    (X1 : Hid (∀ w1 : World, Grew w w1 → Calls Tryd.prog 11 #[.int .i64 97, .int .u64 a, .int .u64 b] w1 fun e w' => e = .returned (.tuple #[.int .u64 0, .int .i64 0]) ∧ Grew w1 w'))
    (X2 : Hid (∀ w1 : World, Grew w w1 → Calls Tryd.prog 11 #[.int .i64 99, .int .u64 a, .int .u64 b] w1 fun e w' => e = .returned (.tuple #[.int .u64 0, .int .i64 0]) ∧ Grew w1 w'))
    (X3 : Hid (∀ w1 : World, Grew w w1 → Calls Tryd.prog 11 #[.int .i64 100, .int .u64 a, .int .u64 b] w1 fun e w' => e = .returned (.tuple #[.int .u64 0, .int .i64 0]) ∧ Grew w1 w')) :
    Calls Tryd.prog 5 #[.int .u64 a, .int .u64 b, .bool true] w fun e w' => e = .returned (.bool true) ∧ Grew w w' := by
  go_enter Tryd.func5, Tryd.ntmps5
  go_wp2_with fail
  refine (L.out).mono ?_
  rintro e w0 ⟨rfl, g0⟩
  have G0 : Hid (Grew w w0) := g0
  clear g0
  go_wp2_with fail
  refine (P.out _).mono ?_
  rintro e wp ⟨rfl, hwp⟩
  obtain rfl := hwp.symm
  go_wp2_with fail
  refine (Q.out _).mono ?_
  rintro e wq ⟨rfl, hwq⟩
  obtain rfl := hwq.symm
  go_wp2_with fail
  refine (X1.out _ G0.out).mono ?_
  rintro e w1 ⟨rfl, g1⟩
  have G1 : Hid (Grew w w1) := G0.out.trans g1
  clear g1
  go_wp2_with fail
  refine (X2.out _ G1.out).mono ?_
  rintro e w2 ⟨rfl, g2⟩
  have G2 : Hid (Grew w w2) := G1.out.trans g2
  clear g2
  go_wp2_with fail
  refine (X3.out _ G2.out).mono ?_
  rintro e w3 ⟨rfl, g3⟩
  have G3 : Hid (Grew w w3) := G2.out.trans g3
  clear g3
  go_wp2
  go_ret
  go_light
  exact ⟨by first | rfl | simp, G3.out⟩
set_option maxRecDepth 100000 in
set_option maxHeartbeats 2000000 in
theorem order_nr64 (a b : Int) (r1 r2 : Bool) (w : World)
    (L : Hid (Calls Tryd.prog 6 #[] w fun e w' => e = .returned (.bool true) ∧ Grew w w'))
    (P : Hid (∀ w : World, Calls Tryd.prog 10 #[.int .i64 64, .int .u64 a] w fun e w' => e = .returned (.tuple #[.bool true, .bool r1, .int .i64 0]) ∧ w' = w))
    (Q : Hid (∀ w : World, Calls Tryd.prog 10 #[.int .i64 64, .int .u64 b] w fun e w' => e = .returned (.tuple #[.bool true, .bool r2, .int .i64 0]) ∧ w' = w))
    (X1 : Hid (∀ w1 : World, Grew w w1 → Calls Tryd.prog 11 #[.int .i64 97, .int .u64 a, .int .u64 b] w1 fun e w' => e = .returned (.tuple #[.int .u64 0, .int .i64 0]) ∧ Grew w1 w'))
    (X2 : Hid (∀ w1 : World, Grew w w1 → Calls Tryd.prog 11 #[.int .i64 99, .int .u64 a, .int .u64 b] w1 fun e w' => e = .returned (.tuple #[.int .u64 0, .int .i64 0]) ∧ Grew w1 w'))
    (X3 : Hid (∀ w1 : World, Grew w w1 → Calls Tryd.prog 11 #[.int .i64 100, .int .u64 a, .int .u64 b] w1 fun e w' => e = .returned (.tuple #[.int .u64 0, .int .i64 0]) ∧ Grew w1 w')) :
    Calls Tryd.prog 5 #[.int .u64 a, .int .u64 b, .bool true] w fun e w' => e = .returned (.bool true) ∧ Grew w w' := by
  go_enter Tryd.func5, Tryd.ntmps5
  go_wp2_with fail
  refine (L.out).mono ?_
  rintro e w0 ⟨rfl, g0⟩
  have G0 : Hid (Grew w w0) := g0
  clear g0
  go_wp2_with fail
  refine (P.out _).mono ?_
  rintro e wp ⟨rfl, hwp⟩
  obtain rfl := hwp.symm
  go_wp2_with fail
  refine (Q.out _).mono ?_
  rintro e wq ⟨rfl, hwq⟩
  obtain rfl := hwq.symm
  go_wp2_with fail
  refine (X1.out _ G0.out).mono ?_
  rintro e w1 ⟨rfl, g1⟩
  have G1 : Hid (Grew w w1) := G0.out.trans g1
  clear g1
  go_wp2_with fail
  refine (X2.out _ G1.out).mono ?_
  rintro e w2 ⟨rfl, g2⟩
  have G2 : Hid (Grew w w2) := G1.out.trans g2
  clear g2
  go_wp2_with fail
  refine (X3.out _ G2.out).mono ?_
  rintro e w3 ⟨rfl, g3⟩
  have G3 : Hid (Grew w w3) := G2.out.trans g3
  clear g3
  go_wp2
  go_ret
  go_light
  exact ⟨by first | rfl | simp, G3.out⟩
set_option maxRecDepth 100000 in
set_option maxHeartbeats 2000000 in
theorem order_e64 (a b lo hi : Int) (r1 r2 : Bool) (w : World)
    (L : Hid (Calls Tryd.prog 6 #[] w fun e w' => e = .returned (.bool true) ∧ Grew w w'))
    (P : Hid (∀ w : World, Calls Tryd.prog 10 #[.int .i64 64, .int .u64 a] w fun e w' => e = .returned (.tuple #[.bool false, .bool r1, .int .i64 0]) ∧ w' = w))
    (Q : Hid (∀ w : World, Calls Tryd.prog 10 #[.int .i64 64, .int .u64 b] w fun e w' => e = .returned (.tuple #[.bool false, .bool r2, .int .i64 0]) ∧ w' = w))
    (X1 : Hid (∀ w1 : World, Grew w w1 → Calls Tryd.prog 11 #[.int .i64 97, .int .u64 a, .int .u64 b] w1 fun e w' => e = .returned (.tuple #[.int .u64 1, .int .i64 0]) ∧ Grew w1 w'))
    (X2 : Hid (∀ w1 : World, Grew w w1 → Calls Tryd.prog 11 #[.int .i64 99, .int .u64 a, .int .u64 b] w1 fun e w' => e = .returned (.tuple #[.int .u64 0, .int .i64 0]) ∧ Grew w1 w'))
    (X3 : Hid (∀ w1 : World, Grew w w1 → Calls Tryd.prog 11 #[.int .i64 100, .int .u64 a, .int .u64 b] w1 fun e w' => e = .returned (.tuple #[.int .u64 0, .int .i64 0]) ∧ Grew w1 w'))
    (X4 : Hid (∀ w1 : World, Grew w w1 → Calls Tryd.prog 7 #[.int .i64 164, .int .u64 a, .int .u64 b] w1 fun e w' => e = .returned (.tuple #[.int .u64 lo, .int .i64 0]) ∧ Grew w1 w'))
    (X5 : Hid (∀ w1 : World, Grew w w1 → Calls Tryd.prog 7 #[.int .i64 165, .int .u64 a, .int .u64 b] w1 fun e w' => e = .returned (.tuple #[.int .u64 hi, .int .i64 0]) ∧ Grew w1 w'))
    (X6 : Hid (∀ w1 : World, Grew w w1 → Calls Tryd.prog 11 #[.int .i64 101, .int .u64 lo, .int .u64 hi] w1 fun e w' => e = .returned (.tuple #[.int .u64 1, .int .i64 0]) ∧ Grew w1 w')) :
    Calls Tryd.prog 5 #[.int .u64 a, .int .u64 b, .bool true] w fun e w' => e = .returned (.bool true) ∧ Grew w w' := by
  go_enter Tryd.func5, Tryd.ntmps5
  go_wp2_with fail
  refine (L.out).mono ?_
  rintro e w0 ⟨rfl, g0⟩
  have G0 : Hid (Grew w w0) := g0
  clear g0
  go_wp2_with fail
  refine (P.out _).mono ?_
  rintro e wp ⟨rfl, hwp⟩
  obtain rfl := hwp.symm
  go_wp2_with fail
  refine (Q.out _).mono ?_
  rintro e wq ⟨rfl, hwq⟩
  obtain rfl := hwq.symm
  go_wp2_with fail
  refine (X1.out _ G0.out).mono ?_
  rintro e w1 ⟨rfl, g1⟩
  have G1 : Hid (Grew w w1) := G0.out.trans g1
  clear g1
  go_wp2_with fail
  refine (X2.out _ G1.out).mono ?_
  rintro e w2 ⟨rfl, g2⟩
  have G2 : Hid (Grew w w2) := G1.out.trans g2
  clear g2
  go_wp2_with fail
  refine (X3.out _ G2.out).mono ?_
  rintro e w3 ⟨rfl, g3⟩
  have G3 : Hid (Grew w w3) := G2.out.trans g3
  clear g3
  go_wp2_with fail
  refine (X4.out _ G3.out).mono ?_
  rintro e w4 ⟨rfl, g4⟩
  have G4 : Hid (Grew w w4) := G3.out.trans g4
  clear g4
  go_wp2_with fail
  refine (X5.out _ G4.out).mono ?_
  rintro e w5 ⟨rfl, g5⟩
  have G5 : Hid (Grew w w5) := G4.out.trans g5
  clear g5
  go_wp2_with fail
  refine (X6.out _ G5.out).mono ?_
  rintro e w6 ⟨rfl, g6⟩
  have G6 : Hid (Grew w w6) := G5.out.trans g6
  clear g6
  go_wp2
  go_ret
  go_light
  exact ⟨by first | rfl | simp, G6.out⟩
set_option maxRecDepth 100000 in
set_option maxHeartbeats 2000000 in
theorem order_l64 (a b lo hi : Int) (r1 r2 : Bool) (w : World)
    (L : Hid (Calls Tryd.prog 6 #[] w fun e w' => e = .returned (.bool true) ∧ Grew w w'))
    (P : Hid (∀ w : World, Calls Tryd.prog 10 #[.int .i64 64, .int .u64 a] w fun e w' => e = .returned (.tuple #[.bool false, .bool r1, .int .i64 0]) ∧ w' = w))
    (Q : Hid (∀ w : World, Calls Tryd.prog 10 #[.int .i64 64, .int .u64 b] w fun e w' => e = .returned (.tuple #[.bool false, .bool r2, .int .i64 0]) ∧ w' = w))
    (X1 : Hid (∀ w1 : World, Grew w w1 → Calls Tryd.prog 11 #[.int .i64 97, .int .u64 a, .int .u64 b] w1 fun e w' => e = .returned (.tuple #[.int .u64 0, .int .i64 0]) ∧ Grew w1 w'))
    (X2 : Hid (∀ w1 : World, Grew w w1 → Calls Tryd.prog 11 #[.int .i64 99, .int .u64 a, .int .u64 b] w1 fun e w' => e = .returned (.tuple #[.int .u64 1, .int .i64 0]) ∧ Grew w1 w'))
    (X3 : Hid (∀ w1 : World, Grew w w1 → Calls Tryd.prog 11 #[.int .i64 100, .int .u64 a, .int .u64 b] w1 fun e w' => e = .returned (.tuple #[.int .u64 0, .int .i64 0]) ∧ Grew w1 w'))
    (X4 : Hid (∀ w1 : World, Grew w w1 → Calls Tryd.prog 7 #[.int .i64 164, .int .u64 a, .int .u64 b] w1 fun e w' => e = .returned (.tuple #[.int .u64 lo, .int .i64 0]) ∧ Grew w1 w'))
    (X5 : Hid (∀ w1 : World, Grew w w1 → Calls Tryd.prog 7 #[.int .i64 165, .int .u64 a, .int .u64 b] w1 fun e w' => e = .returned (.tuple #[.int .u64 hi, .int .i64 0]) ∧ Grew w1 w'))
    (X6 : Hid (∀ w1 : World, Grew w w1 → Calls Tryd.prog 11 #[.int .i64 101, .int .u64 lo, .int .u64 hi] w1 fun e w' => e = .returned (.tuple #[.int .u64 1, .int .i64 0]) ∧ Grew w1 w')) :
    Calls Tryd.prog 5 #[.int .u64 a, .int .u64 b, .bool true] w fun e w' => e = .returned (.bool true) ∧ Grew w w' := by
  go_enter Tryd.func5, Tryd.ntmps5
  go_wp2_with fail
  refine (L.out).mono ?_
  rintro e w0 ⟨rfl, g0⟩
  have G0 : Hid (Grew w w0) := g0
  clear g0
  go_wp2_with fail
  refine (P.out _).mono ?_
  rintro e wp ⟨rfl, hwp⟩
  obtain rfl := hwp.symm
  go_wp2_with fail
  refine (Q.out _).mono ?_
  rintro e wq ⟨rfl, hwq⟩
  obtain rfl := hwq.symm
  go_wp2_with fail
  refine (X1.out _ G0.out).mono ?_
  rintro e w1 ⟨rfl, g1⟩
  have G1 : Hid (Grew w w1) := G0.out.trans g1
  clear g1
  go_wp2_with fail
  refine (X2.out _ G1.out).mono ?_
  rintro e w2 ⟨rfl, g2⟩
  have G2 : Hid (Grew w w2) := G1.out.trans g2
  clear g2
  go_wp2_with fail
  refine (X3.out _ G2.out).mono ?_
  rintro e w3 ⟨rfl, g3⟩
  have G3 : Hid (Grew w w3) := G2.out.trans g3
  clear g3
  go_wp2_with fail
  refine (X4.out _ G3.out).mono ?_
  rintro e w4 ⟨rfl, g4⟩
  have G4 : Hid (Grew w w4) := G3.out.trans g4
  clear g4
  go_wp2_with fail
  refine (X5.out _ G4.out).mono ?_
  rintro e w5 ⟨rfl, g5⟩
  have G5 : Hid (Grew w w5) := G4.out.trans g5
  clear g5
  go_wp2_with fail
  refine (X6.out _ G5.out).mono ?_
  rintro e w6 ⟨rfl, g6⟩
  have G6 : Hid (Grew w w6) := G5.out.trans g6
  clear g6
  go_wp2
  go_ret
  go_light
  exact ⟨by first | rfl | simp, G6.out⟩
set_option maxRecDepth 100000 in
set_option maxHeartbeats 2000000 in
theorem order_g64 (a b lo hi : Int) (r1 r2 : Bool) (w : World)
    (L : Hid (Calls Tryd.prog 6 #[] w fun e w' => e = .returned (.bool true) ∧ Grew w w'))
    (P : Hid (∀ w : World, Calls Tryd.prog 10 #[.int .i64 64, .int .u64 a] w fun e w' => e = .returned (.tuple #[.bool false, .bool r1, .int .i64 0]) ∧ w' = w))
    (Q : Hid (∀ w : World, Calls Tryd.prog 10 #[.int .i64 64, .int .u64 b] w fun e w' => e = .returned (.tuple #[.bool false, .bool r2, .int .i64 0]) ∧ w' = w))
    (X1 : Hid (∀ w1 : World, Grew w w1 → Calls Tryd.prog 11 #[.int .i64 97, .int .u64 a, .int .u64 b] w1 fun e w' => e = .returned (.tuple #[.int .u64 0, .int .i64 0]) ∧ Grew w1 w'))
    (X2 : Hid (∀ w1 : World, Grew w w1 → Calls Tryd.prog 11 #[.int .i64 99, .int .u64 a, .int .u64 b] w1 fun e w' => e = .returned (.tuple #[.int .u64 0, .int .i64 0]) ∧ Grew w1 w'))
    (X3 : Hid (∀ w1 : World, Grew w w1 → Calls Tryd.prog 11 #[.int .i64 100, .int .u64 a, .int .u64 b] w1 fun e w' => e = .returned (.tuple #[.int .u64 1, .int .i64 0]) ∧ Grew w1 w'))
    (X4 : Hid (∀ w1 : World, Grew w w1 → Calls Tryd.prog 7 #[.int .i64 164, .int .u64 a, .int .u64 b] w1 fun e w' => e = .returned (.tuple #[.int .u64 lo, .int .i64 0]) ∧ Grew w1 w'))
    (X5 : Hid (∀ w1 : World, Grew w w1 → Calls Tryd.prog 7 #[.int .i64 165, .int .u64 a, .int .u64 b] w1 fun e w' => e = .returned (.tuple #[.int .u64 hi, .int .i64 0]) ∧ Grew w1 w'))
    (X6 : Hid (∀ w1 : World, Grew w w1 → Calls Tryd.prog 11 #[.int .i64 101, .int .u64 lo, .int .u64 hi] w1 fun e w' => e = .returned (.tuple #[.int .u64 1, .int .i64 0]) ∧ Grew w1 w')) :
    Calls Tryd.prog 5 #[.int .u64 a, .int .u64 b, .bool true] w fun e w' => e = .returned (.bool true) ∧ Grew w w' := by
  go_enter Tryd.func5, Tryd.ntmps5
  go_wp2_with fail
  refine (L.out).mono ?_
  rintro e w0 ⟨rfl, g0⟩
  have G0 : Hid (Grew w w0) := g0
  clear g0
  go_wp2_with fail
  refine (P.out _).mono ?_
  rintro e wp ⟨rfl, hwp⟩
  obtain rfl := hwp.symm
  go_wp2_with fail
  refine (Q.out _).mono ?_
  rintro e wq ⟨rfl, hwq⟩
  obtain rfl := hwq.symm
  go_wp2_with fail
  refine (X1.out _ G0.out).mono ?_
  rintro e w1 ⟨rfl, g1⟩
  have G1 : Hid (Grew w w1) := G0.out.trans g1
  clear g1
  go_wp2_with fail
  refine (X2.out _ G1.out).mono ?_
  rintro e w2 ⟨rfl, g2⟩
  have G2 : Hid (Grew w w2) := G1.out.trans g2
  clear g2
  go_wp2_with fail
  refine (X3.out _ G2.out).mono ?_
  rintro e w3 ⟨rfl, g3⟩
  have G3 : Hid (Grew w w3) := G2.out.trans g3
  clear g3
  go_wp2_with fail
  refine (X4.out _ G3.out).mono ?_
  rintro e w4 ⟨rfl, g4⟩
  have G4 : Hid (Grew w w4) := G3.out.trans g4
  clear g4
  go_wp2_with fail
  refine (X5.out _ G4.out).mono ?_
  rintro e w5 ⟨rfl, g5⟩
  have G5 : Hid (Grew w w5) := G4.out.trans g5
  clear g5
  go_wp2_with fail
  refine (X6.out _ G5.out).mono ?_
  rintro e w6 ⟨rfl, g6⟩
  have G6 : Hid (Grew w w6) := G5.out.trans g6
  clear g6
  go_wp2
  go_ret
  go_light
  exact ⟨by first | rfl | simp, G6.out⟩
theorem order_any (a b : Int) (wide : Bool) (w : World) (hT : Rws w) (a0 : 0 ≤ a) (a1 : a < 18446744073709551616) (b0 : 0 ≤ b) (b1 : b < 18446744073709551616) :
    Calls Tryd.prog 5 #[.int .u64 a, .int .u64 b, .bool wide] w fun e w' => e = .returned (.bool true) ∧ Grew w w' := by
  obtain ⟨a, rfl, ha⟩ := cast_nat a a0 a1
  obtain ⟨b, rfl, hb⟩ := cast_nat b b0 b1
  have hL := alive_any w hT
  cases wide
  · have ht : Two Ieee.single := by simp [Two]
    have P := fun w : World => Nan32 a ha w
    have Q := fun w : World => Nan32 b hb w
    have C := fun (k : Nat) (hk : k < 6) (w1 : World) (g : Grew w w1) => Cmp32 k hk a b ha hb w1 (hT.grew g)
    have B := fun (k : Nat) (hk : k < 6) (w1 : World) (g : Grew w w1) => Bin32 k hk a b ha hb w1 (hT.grew g)
    have hA : a % 2 ^ 32 < 2 ^ 32 := Nat.mod_lt _ (by decide)
    have hB : b % 2 ^ 32 < 2 ^ 32 := Nat.mod_lt _ (by decide)
    generalize a % 2 ^ 32 = A at *
    generalize b % 2 ^ 32 = D at *
    have C0 := C 0 (by decide)
    have C2 := C 2 (by decide)
    have C3 := C 3 (by decide)
    have B4 := B 4 (by decide)
    have B5 := B 5 (by decide)
    by_cases ha : Ieee.single.infRung < sz Ieee.single A
    · obtain ⟨e0, e2, e3⟩ := cop_nan ht (Or.inl ha : _ ∨ Ieee.single.infRung < sz Ieee.single D)
      rw [e0] at C0
      rw [e2] at C2
      rw [e3] at C3
      simp only [ha, decide_true] at P
      by_cases hb : Ieee.single.infRung < sz Ieee.single D
      · simp only [hb, decide_true] at Q
        exact order_nr32 _ _ _ _ w hL P Q C0 C2 C3
      · simp only [hb, decide_false] at Q
        exact order_np32 _ _ _ _ w hL P Q C0 C2 C3
    · by_cases hb : Ieee.single.infRung < sz Ieee.single D
      · obtain ⟨e0, e2, e3⟩ := cop_nan ht (Or.inr hb : Ieee.single.infRung < sz Ieee.single A ∨ _)
        rw [e0] at C0
        rw [e2] at C2
        rw [e3] at C3
        simp only [ha, decide_false] at P
        simp only [hb, decide_true] at Q
        exact order_nq32 _ _ _ _ w hL P Q C0 C2 C3
      · simp only [ha, decide_false] at P
        simp only [hb, decide_false] at Q
        obtain ⟨lo, hi, m1, m2, o1, o2, hle⟩ := mm_le ht (Nat.le_of_not_lt ha) (Nat.le_of_not_lt hb)
        have b4 : (bop Ieee.single 4 A D).getD (cn Ieee.single) = lo := by show (mm Ieee.single false A D).getD _ = _; rw [m1]; rfl
        have b5 : (bop Ieee.single 5 A D).getD (cn Ieee.single) = hi := by show (mm Ieee.single true A D).getD _ = _; rw [m2]; rfl
        rw [b4] at B4
        rw [b5] at B5
        have hlo : lo < 2 ^ 32 := by rcases o1 with rfl | rfl <;> assumption
        have hhi : hi < 2 ^ 32 := by rcases o2 with rfl | rfl <;> assumption
        have C4 := fun (w1 : World) (g : Grew w w1) => Cmp32 4 (by decide) lo hi (Nat.lt_of_lt_of_le hlo (by decide)) (Nat.lt_of_lt_of_le hhi (by decide)) w1 (hT.grew g)
        rw [Nat.mod_eq_of_lt hlo, Nat.mod_eq_of_lt hhi, hle] at C4
        rcases cop_one ht (Nat.le_of_not_lt ha) (Nat.le_of_not_lt hb) with ⟨e0, e2, e3⟩ | ⟨e0, e2, e3⟩ | ⟨e0, e2, e3⟩ <;> rw [e0] at C0 <;> rw [e2] at C2 <;> rw [e3] at C3
        · exact order_e32 _ _ _ _ _ _ w hL P Q C0 C2 C3 B4 B5 C4
        · exact order_l32 _ _ _ _ _ _ w hL P Q C0 C2 C3 B4 B5 C4
        · exact order_g32 _ _ _ _ _ _ w hL P Q C0 C2 C3 B4 B5 C4
  · have ht : Two Ieee.double := by simp [Two]
    have P := fun w : World => Nan64 a ha w
    have Q := fun w : World => Nan64 b hb w
    have C := fun (k : Nat) (hk : k < 6) (w1 : World) (g : Grew w w1) => Cmp64 k hk a b ha hb w1 (hT.grew g)
    have B := fun (k : Nat) (hk : k < 6) (w1 : World) (g : Grew w w1) => Bin64 k hk a b ha hb w1 (hT.grew g)
    have hA : a % 2 ^ 64 < 2 ^ 64 := Nat.mod_lt _ (by decide)
    have hB : b % 2 ^ 64 < 2 ^ 64 := Nat.mod_lt _ (by decide)
    generalize a % 2 ^ 64 = A at *
    generalize b % 2 ^ 64 = D at *
    have C0 := C 0 (by decide)
    have C2 := C 2 (by decide)
    have C3 := C 3 (by decide)
    have B4 := B 4 (by decide)
    have B5 := B 5 (by decide)
    by_cases ha : Ieee.double.infRung < sz Ieee.double A
    · obtain ⟨e0, e2, e3⟩ := cop_nan ht (Or.inl ha : _ ∨ Ieee.double.infRung < sz Ieee.double D)
      rw [e0] at C0
      rw [e2] at C2
      rw [e3] at C3
      simp only [ha, decide_true] at P
      by_cases hb : Ieee.double.infRung < sz Ieee.double D
      · simp only [hb, decide_true] at Q
        exact order_nr64 _ _ _ _ w hL P Q C0 C2 C3
      · simp only [hb, decide_false] at Q
        exact order_np64 _ _ _ _ w hL P Q C0 C2 C3
    · by_cases hb : Ieee.double.infRung < sz Ieee.double D
      · obtain ⟨e0, e2, e3⟩ := cop_nan ht (Or.inr hb : Ieee.double.infRung < sz Ieee.double A ∨ _)
        rw [e0] at C0
        rw [e2] at C2
        rw [e3] at C3
        simp only [ha, decide_false] at P
        simp only [hb, decide_true] at Q
        exact order_nq64 _ _ _ _ w hL P Q C0 C2 C3
      · simp only [ha, decide_false] at P
        simp only [hb, decide_false] at Q
        obtain ⟨lo, hi, m1, m2, o1, o2, hle⟩ := mm_le ht (Nat.le_of_not_lt ha) (Nat.le_of_not_lt hb)
        have b4 : (bop Ieee.double 4 A D).getD (cn Ieee.double) = lo := by show (mm Ieee.double false A D).getD _ = _; rw [m1]; rfl
        have b5 : (bop Ieee.double 5 A D).getD (cn Ieee.double) = hi := by show (mm Ieee.double true A D).getD _ = _; rw [m2]; rfl
        rw [b4] at B4
        rw [b5] at B5
        have hlo : lo < 2 ^ 64 := by rcases o1 with rfl | rfl <;> assumption
        have hhi : hi < 2 ^ 64 := by rcases o2 with rfl | rfl <;> assumption
        have C4 := fun (w1 : World) (g : Grew w w1) => Cmp64 4 (by decide) lo hi (Nat.lt_of_lt_of_le hlo (by decide)) (Nat.lt_of_lt_of_le hhi (by decide)) w1 (hT.grew g)
        rw [Nat.mod_eq_of_lt hlo, Nat.mod_eq_of_lt hhi, hle] at C4
        rcases cop_one ht (Nat.le_of_not_lt ha) (Nat.le_of_not_lt hb) with ⟨e0, e2, e3⟩ | ⟨e0, e2, e3⟩ | ⟨e0, e2, e3⟩ <;> rw [e0] at C0 <;> rw [e2] at C2 <;> rw [e3] at C3
        · exact order_e64 _ _ _ _ _ _ w hL P Q C0 C2 C3 B4 B5 C4
        · exact order_l64 _ _ _ _ _ _ w hL P Q C0 C2 C3 B4 B5 C4
        · exact order_g64 _ _ _ _ _ _ w hL P Q C0 C2 C3 B4 B5 C4
end Go.Proofs.YtjkebimmddlccabDoor
namespace Go.Proofs.YtjkebimmddlccabDoor.fnumOrder
open Go.ChangeShapes Go.WideShapes Go.ChangeAt Go.RowKit
set_option linter.unusedVariables false

theorem own : ownKnob Tryd.prog.godebug = none := by kernel_rfl
set_option maxRecDepth 100000 in
theorem contract (H : Type) (enc : TypeId × Value → H) (W : World) (base : Nat) (args : Array Value) (ds gs : List (DataW H)) (before : List MemPlace)
    (hval : ∀ (j : Nat) t v, Tryd.f5.params[j]? = some t → args[j]? = some v → Value.okWide Tryd.prog W .any base t v)
    (hW : DataW.Whole enc Tryd.prog Tryd.f5.params.toList Rows.fnumOrderSpec.vars false W args.toList ds gs before) (hL : laidMetH Tryd.prog Rows.fnumOrderRow.laid W) :
    Calls Tryd.prog 5 args W fun e W' => ∃ v, e = .returned v ∧ Rows.fnumOrderSpec.post enc Tryd.prog Tryd.f5 false true false false W args v W' := by
  have hW' := hW
  obtain ⟨p, q, hA0, hV, rfl, hfz, hnd⟩ := hW
  have hA : DataW.TrodAll enc Tryd.prog W 0 (fun _ => true) true Tryd.f5.params.toList args.toList ds p := hA0
  rw [Tryd.params5] at hA hval
  obtain ⟨v0, vs0, d0, ds0, p0, q0, hargs, rfl, rfl, h0, r0⟩ := trodAll_cons hA
  obtain ⟨v1, vs1, d1, ds1, p1, q1, rfl, rfl, rfl, h1, r1⟩ := trodAll_cons r0
  obtain ⟨v2, vs2, d2, ds2, p2, q2, rfl, rfl, rfl, h2, r2⟩ := trodAll_cons r1
  obtain ⟨rfl, rfl, rfl⟩ := trodAll_nil r2
  obtain rfl : args = #[v0, v1, v2] := by cases args; simp_all
  obtain ⟨rfl, rfl⟩ := trodVars_none hV
  obtain ⟨a0, rfl, rfl, rfl, w0⟩ := open_int Tryd.underlying22 (hval 0 22 v0 rfl rfl) h0
  have b0 := bounds_u64 w0
  obtain ⟨a1, rfl, rfl, rfl, w1⟩ := open_int Tryd.underlying22 (hval 1 22 v1 rfl rfl) h1
  have b1 := bounds_u64 w1
  obtain ⟨a2, rfl, rfl, rfl⟩ := open_bool Tryd.underlying4 (hval 2 4 v2 rfl rfl) h2
  have hT : Rws W := rws_of hL
  clear hA0 hL
  refine (order_any a0 a1 a2 W hT b0.1 (by have := b0.2; omega) b1.1 (by have := b1.2; omega)).mono fun e W' ⟨he, bel⟩ => ?_
  subst he
  exact ⟨_, rfl, _, _, _, [], _, [], hW', trodAll_mk1 (shut_bool Tryd.underlying4 _), (trodAll_cons_mk (shut_int Tryd.underlying22 w0) (trodAll_cons_mk (shut_int Tryd.underlying22 w1) (trodAll_cons_mk (shut_bool Tryd.underlying4 a2) trodAll_mk0))), rfl, bel.1.frame _, fun h => by cases h⟩
theorem laid_met (os : Os) : laidMet Tryd.prog Rows.fnumOrderRow.laid (({ World.holding Tryd.prog os ⟨#[], #[], []⟩ with heap := ((World.holding Tryd.prog os ⟨#[], #[], []⟩).heap.modify 0 fun
      | .cells _ t frozen => .cells #[.int .i64 1, .int .i64 32, .int .i64 91, .int .i64 96, .int .i64 1, .int .i64 64, .int .i64 97, .int .i64 102, .int .i64 7, .int .i64 32, .int .i64 139, .int .i64 145, .int .i64 7, .int .i64 64, .int .i64 153, .int .i64 159, .int .i64 14, .int .i64 32, .int .i64 146, .int .i64 152, .int .i64 14, .int .i64 64, .int .i64 160, .int .i64 166] t frozen
      | o => o) } : World).forCall (fun _ _ => 0) ⟨#[], #[.int .u64 0, .int .u64 0, .bool false], []⟩).memory :=
  laidMet_of_run' 8 (by kernel_rfl) (by kernel_rfl)
theorem reads (os : Os) {H : Type} (enc : TypeId × Value → H) : ∃ places, DataW.whole enc Tryd.prog (({ World.holding Tryd.prog os ⟨#[], #[], []⟩ with heap := ((World.holding Tryd.prog os ⟨#[], #[], []⟩).heap.modify 0 fun
      | .cells _ t frozen => .cells #[.int .i64 1, .int .i64 32, .int .i64 91, .int .i64 96, .int .i64 1, .int .i64 64, .int .i64 97, .int .i64 102, .int .i64 7, .int .i64 32, .int .i64 139, .int .i64 145, .int .i64 7, .int .i64 64, .int .i64 153, .int .i64 159, .int .i64 14, .int .i64 32, .int .i64 146, .int .i64 152, .int .i64 14, .int .i64 64, .int .i64 160, .int .i64 166] t frozen
      | o => o) } : World).forCall (fun _ _ => 0) ⟨#[], #[.int .u64 0, .int .u64 0, .bool false], []⟩).memory Tryd.f5.params.toList Rows.fnumOrderSpec.vars false #[Value.int .u64 0, Value.int .u64 0, Value.bool false].toList 8 = some ([.lit (.int .u64 0), .lit (.int .u64 0), .lit (.bool false)], [], places) :=
  ⟨[], by kernel_rfl⟩
set_option maxRecDepth 100000 in
theorem lifted (os : Os) (started : os.Started) (H : Type) (enc : TypeId × Value → H) (F : Stop.Interp) :
    ReturnsInHanded {} Tryd.checked os 5 .any ((OpenSpec.ofChange Rows.fnumOrderSpec).preRow enc Tryd.prog Tryd.f5 Rows.fnumOrderRow.domain false Rows.fnumOrderRow.laid) (((OpenSpec.ofChange Rows.fnumOrderSpec).at F).post enc Tryd.prog Tryd.f5 false true false false) := by
  obtain ⟨places, hx⟩ := reads os enc
  refine returnsInHanded_of_row (C := Tryd.checked) (s := OpenSpec.ofChange Rows.fnumOrderSpec) own started (by kernel_rfl) Tryd.func5
    (witness_row_at (enc := enc) (C := Tryd.checked) false ({ World.holding Tryd.prog os ⟨#[], #[], []⟩ with heap := ((World.holding Tryd.prog os ⟨#[], #[], []⟩).heap.modify 0 fun
      | .cells _ t frozen => .cells #[.int .i64 1, .int .i64 32, .int .i64 91, .int .i64 96, .int .i64 1, .int .i64 64, .int .i64 97, .int .i64 102, .int .i64 7, .int .i64 32, .int .i64 139, .int .i64 145, .int .i64 7, .int .i64 64, .int .i64 153, .int .i64 159, .int .i64 14, .int .i64 32, .int .i64 146, .int .i64 152, .int .i64 14, .int .i64 64, .int .i64 160, .int .i64 166] t frozen
      | o => o) } : World) #[.int .u64 0, .int .u64 0, .bool false] rfl (by kernel_rfl) (by kernel_rfl) (by kernel_rfl)
      (OpenSpec.preRow_of_cond 8 hx (by kernel_rfl) (fun k hk => by cases hk) (by kernel_rfl) (laid_met os))) ?_
  intro W base args ds gs before hval hW _ _ _ hL _ _
  exact contract H enc W base args ds gs before hval hW hL
theorem said : Rows.FnumOrderSaid :=
  OpenClaim.holds_of_cond 5 Tryd.f5 rfl rfl rfl rfl rfl rfl rfl ⟨rfl, rfl, rfl, rfl, rfl⟩ rfl rfl rfl rfl rfl (by kernel_rfl) Tryd.func5 (by kernel_rfl)
    (of_decide_eq_true (by kernel_rfl)) (by unfold Func.isWrapper; first | (rw [if_pos (by decide +kernel)]; kernel_rfl) | (rw [if_neg (by decide +kernel)]; exact ⟨rfl, rfl⟩))
    (fun os started H enc _ F => by rw [OpenClaim.pre_eq_preRow]; exact lifted os started H enc F)
/- No parameter wants a stand-in; the program's own looks are off: what the card asks. -/
theorem plain (f : FuncId) (fn : Func) (hf : Tryd.pinned.checked.prog.funcNamed "ratchet/ratchetlaw04.FnumOrder" = some f) (hfn : Tryd.pinned.checked.prog.funcs[f]? = some fn) :
    false = Tryd.pinned.checked.prog.looks [] ∧ ∀ (j : Nat) t, fn.params[j]? = some t → Tryd.pinned.checked.prog.wantsStandIn t = false := by
  obtain rfl : f = 5 := Option.some.inj ((show Tryd.prog.funcNamed "ratchet/ratchetlaw04.FnumOrder" = some 5 by kernel_rfl).symm.trans hf) |>.symm
  obtain rfl : fn = Tryd.f5 := (Option.some.inj (Tryd.func5.symm.trans hfn)).symm
  refine ⟨by kernel_rfl, fun j t ht => ?_⟩
  rw [Tryd.params5] at ht
  have hm : t ∈ [22, 22, 4] := by simpa using Array.mem_of_getElem? ht
  have hall : ([22, 22, 4].all fun u => !Tryd.prog.wantsStandIn u) = true := by kernel_rfl
  exact (show Tryd.prog.wantsStandIn t = false by simpa using List.all_eq_true.1 hall t hm)
end Go.Proofs.YtjkebimmddlccabDoor.fnumOrder
namespace Go.Proofs.YtjkebimmddlccabDoor
theorem fnumOrder_holds : Rows.FnumOrderCardSaid :=
  Claim7.holds_tied_plain_at .later [] _ _ _ _ fnumOrder.said (fun _ h => by cases h) (by kernel_rfl) (fun _ h => by cases h) fnumOrder_row_tie rfl ⟨rfl, rfl⟩ (by kernel_rfl) rfl fnumOrder.plain (by kernel_rfl)
#print axioms fnumOrder_holds
end Go.Proofs.YtjkebimmddlccabDoor
