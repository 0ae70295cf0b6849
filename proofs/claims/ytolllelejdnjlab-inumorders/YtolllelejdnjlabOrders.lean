/-
  Proved: for every two values, both widths, signed or not, InumOrders returns true, and the arguments read as before: of less, equal, greater just one is true, and the other comparisons are what these say. No conditions.
-/
import Derived.Test.YtolllelejdnjlabOrdM
import Derived.ChangeMaps5
import Derived.ShutString
import Derived.ChangeOld
import Derived.Below
import Derived.SizedLaws
import Derived.BigQuiet
namespace Go.Proofs.Ytolllelejdnjlab
open Go.RowKit
set_option linter.unusedVariables false
set_option linter.unusedSimpArgs false

set_option maxRecDepth 100000 in
set_option maxHeartbeats 1000000 in
theorem ord_x10 (a b e0 e1 e2 e3 e4 e5 e6 : Int) (w : World) (h : Hid ((e0 = 1 ∧ e1 = 0 ∧ e2 = 0 ∧ e3 = 0 ∧ e4 = 1 ∧ e5 = 1 ∧ e6 = 0) ∨ (e0 = 0 ∧ e1 = 1 ∧ e2 = 1 ∧ e3 = 0 ∧ e4 = 1 ∧ e5 = 0 ∧ e6 = 1) ∨ (e0 = 0 ∧ e1 = 1 ∧ e2 = 0 ∧ e3 = 1 ∧ e4 = 0 ∧ e5 = 1 ∧ e6 = 0)))
    (C0 : Hid (∀ w : World, Calls Try.prog 4 #[.int .i64 70, .int .u64 a, .int .u64 b] w fun e w' => e = .returned (.tuple #[.int .u64 e0, .int .i64 0]) ∧ Grew w w'))
    (C1 : Hid (∀ w : World, Calls Try.prog 4 #[.int .i64 71, .int .u64 a, .int .u64 b] w fun e w' => e = .returned (.tuple #[.int .u64 e1, .int .i64 0]) ∧ Grew w w'))
    (C2 : Hid (∀ w : World, Calls Try.prog 4 #[.int .i64 72, .int .u64 a, .int .u64 b] w fun e w' => e = .returned (.tuple #[.int .u64 e2, .int .i64 0]) ∧ Grew w w'))
    (C3 : Hid (∀ w : World, Calls Try.prog 4 #[.int .i64 74, .int .u64 a, .int .u64 b] w fun e w' => e = .returned (.tuple #[.int .u64 e3, .int .i64 0]) ∧ Grew w w'))
    (C4 : Hid (∀ w : World, Calls Try.prog 4 #[.int .i64 76, .int .u64 a, .int .u64 b] w fun e w' => e = .returned (.tuple #[.int .u64 e4, .int .i64 0]) ∧ Grew w w'))
    (C5 : Hid (∀ w : World, Calls Try.prog 4 #[.int .i64 78, .int .u64 a, .int .u64 b] w fun e w' => e = .returned (.tuple #[.int .u64 e5, .int .i64 0]) ∧ Grew w w'))
    (C6 : Hid (∀ w : World, Calls Try.prog 4 #[.int .i64 74, .int .u64 b, .int .u64 a] w fun e w' => e = .returned (.tuple #[.int .u64 e6, .int .i64 0]) ∧ Grew w w')) :
    Calls Try.prog 3 #[.bool false, .bool false, .int .u64 a, .int .u64 b] w fun e w' => e = .returned (.bool true) ∧ Grew w w' := by
  go_enter Try.func3, Try.ntmps3
  go_wp2_with fail
  refine (C0.out _).mono ?_
  rintro e w1 ⟨rfl, g1⟩
  have G1 : Hid (Grew w w1) := g1
  clear g1
  go_wp2_with fail
  refine (C1.out _).mono ?_
  rintro e w2 ⟨rfl, g2⟩
  have G2 : Hid (Grew w w2) := G1.out.trans g2
  clear g2 G1
  go_wp2_with fail
  refine (C2.out _).mono ?_
  rintro e w3 ⟨rfl, g3⟩
  have G3 : Hid (Grew w w3) := G2.out.trans g3
  clear g3 G2
  go_wp2_with fail
  refine (C3.out _).mono ?_
  rintro e w4 ⟨rfl, g4⟩
  have G4 : Hid (Grew w w4) := G3.out.trans g4
  clear g4 G3
  go_wp2_with fail
  refine (C4.out _).mono ?_
  rintro e w5 ⟨rfl, g5⟩
  have G5 : Hid (Grew w w5) := G4.out.trans g5
  clear g5 G4
  go_wp2_with fail
  refine (C5.out _).mono ?_
  rintro e w6 ⟨rfl, g6⟩
  have G6 : Hid (Grew w w6) := G5.out.trans g6
  clear g6 G5
  go_wp2_with fail
  refine (C6.out _).mono ?_
  rintro e w7 ⟨rfl, g7⟩
  have G7 : Hid (Grew w w7) := G6.out.trans g7
  clear g7 G6
  rcases h.out with ⟨rfl, rfl, rfl, rfl, rfl, rfl, rfl⟩ | ⟨rfl, rfl, rfl, rfl, rfl, rfl, rfl⟩ | ⟨rfl, rfl, rfl, rfl, rfl, rfl, rfl⟩
  all_goals
    go_wp2
    go_ret
    exact ⟨by simp, G7.out⟩
theorem ord_10 (a b : Int) (w : World) (h0 : 0 ≤ a) (h1 : a < 18446744073709551616) (h2 : 0 ≤ b) (h3 : b < 18446744073709551616) :
    Calls Try.prog 3 #[.bool false, .bool false, .int .u64 a, .int .u64 b] w fun e w' => e = .returned (.bool true) ∧ Grew w w' := by
  have ht : (1 : Int) = 1 ∨ (1 : Int) = 2 := by decide
  obtain ⟨a0, a1⟩ := ct_bd ht h0 h1
  obtain ⟨b0, b1⟩ := ct_bd ht h2 h3
  have hh := ord_seven 0 (by decide) ht a0 a1 b0 b1
  have C := fun (op k a b : Int) (w : World) (o0 : -9223372036854775808 ≤ op) (o1 : op ≤ 9223372036854775807) (hk : kd op = k) (ht : tk op = 1) (hg : gv op = 1) (k0 : 2 ≤ k) (k1 : k ≤ 11) (a0 : 0 ≤ a) (a1 : a < 18446744073709551616) (b0 : 0 ≤ b) (b1 : b < 18446744073709551616) => (by
    have := Binary_any op a b w o0 o1 a0 a1 b0 b1
    rw [bv_cmp a b hk ht hg k0 k1] at this
    exact this : Calls Try.prog 4 #[.int .i64 op, .int .u64 a, .int .u64 b] w fun e w' => e = .returned (.tuple #[.int .u64 (if cmp 1 k (ct 1 a) (ct 1 b) then 1 else 0), .int .i64 0]) ∧ Grew w w')
  exact ord_x10 a b _ _ _ _ _ _ _ w hh
    (fun w => C 70 2 a b w (by decide) (by decide) (by decide) (by decide) (by decide) (by decide) (by decide) h0 h1 h2 h3)
    (fun w => C 71 3 a b w (by decide) (by decide) (by decide) (by decide) (by decide) (by decide) (by decide) h0 h1 h2 h3)
    (fun w => C 72 4 a b w (by decide) (by decide) (by decide) (by decide) (by decide) (by decide) (by decide) h0 h1 h2 h3)
    (fun w => C 74 6 a b w (by decide) (by decide) (by decide) (by decide) (by decide) (by decide) (by decide) h0 h1 h2 h3)
    (fun w => C 76 8 a b w (by decide) (by decide) (by decide) (by decide) (by decide) (by decide) (by decide) h0 h1 h2 h3)
    (fun w => C 78 10 a b w (by decide) (by decide) (by decide) (by decide) (by decide) (by decide) (by decide) h0 h1 h2 h3)
    (fun w => C 74 6 b a w (by decide) (by decide) (by decide) (by decide) (by decide) (by decide) (by decide) h2 h3 h0 h1)
set_option maxRecDepth 100000 in
set_option maxHeartbeats 1000000 in
theorem ord_x11 (a b e0 e1 e2 e3 e4 e5 e6 : Int) (w : World) (h : Hid ((e0 = 1 ∧ e1 = 0 ∧ e2 = 0 ∧ e3 = 0 ∧ e4 = 1 ∧ e5 = 1 ∧ e6 = 0) ∨ (e0 = 0 ∧ e1 = 1 ∧ e2 = 1 ∧ e3 = 0 ∧ e4 = 1 ∧ e5 = 0 ∧ e6 = 1) ∨ (e0 = 0 ∧ e1 = 1 ∧ e2 = 0 ∧ e3 = 1 ∧ e4 = 0 ∧ e5 = 1 ∧ e6 = 0)))
    (C0 : Hid (∀ w : World, Calls Try.prog 4 #[.int .i64 70, .int .u64 a, .int .u64 b] w fun e w' => e = .returned (.tuple #[.int .u64 e0, .int .i64 0]) ∧ Grew w w'))
    (C1 : Hid (∀ w : World, Calls Try.prog 4 #[.int .i64 71, .int .u64 a, .int .u64 b] w fun e w' => e = .returned (.tuple #[.int .u64 e1, .int .i64 0]) ∧ Grew w w'))
    (C2 : Hid (∀ w : World, Calls Try.prog 4 #[.int .i64 73, .int .u64 a, .int .u64 b] w fun e w' => e = .returned (.tuple #[.int .u64 e2, .int .i64 0]) ∧ Grew w w'))
    (C3 : Hid (∀ w : World, Calls Try.prog 4 #[.int .i64 75, .int .u64 a, .int .u64 b] w fun e w' => e = .returned (.tuple #[.int .u64 e3, .int .i64 0]) ∧ Grew w w'))
    (C4 : Hid (∀ w : World, Calls Try.prog 4 #[.int .i64 77, .int .u64 a, .int .u64 b] w fun e w' => e = .returned (.tuple #[.int .u64 e4, .int .i64 0]) ∧ Grew w w'))
    (C5 : Hid (∀ w : World, Calls Try.prog 4 #[.int .i64 79, .int .u64 a, .int .u64 b] w fun e w' => e = .returned (.tuple #[.int .u64 e5, .int .i64 0]) ∧ Grew w w'))
    (C6 : Hid (∀ w : World, Calls Try.prog 4 #[.int .i64 75, .int .u64 b, .int .u64 a] w fun e w' => e = .returned (.tuple #[.int .u64 e6, .int .i64 0]) ∧ Grew w w')) :
    Calls Try.prog 3 #[.bool false, .bool true, .int .u64 a, .int .u64 b] w fun e w' => e = .returned (.bool true) ∧ Grew w w' := by
  go_enter Try.func3, Try.ntmps3
  go_wp2_with fail
  refine (C0.out _).mono ?_
  rintro e w1 ⟨rfl, g1⟩
  have G1 : Hid (Grew w w1) := g1
  clear g1
  go_wp2_with fail
  refine (C1.out _).mono ?_
  rintro e w2 ⟨rfl, g2⟩
  have G2 : Hid (Grew w w2) := G1.out.trans g2
  clear g2 G1
  go_wp2_with fail
  refine (C2.out _).mono ?_
  rintro e w3 ⟨rfl, g3⟩
  have G3 : Hid (Grew w w3) := G2.out.trans g3
  clear g3 G2
  go_wp2_with fail
  refine (C3.out _).mono ?_
  rintro e w4 ⟨rfl, g4⟩
  have G4 : Hid (Grew w w4) := G3.out.trans g4
  clear g4 G3
  go_wp2_with fail
  refine (C4.out _).mono ?_
  rintro e w5 ⟨rfl, g5⟩
  have G5 : Hid (Grew w w5) := G4.out.trans g5
  clear g5 G4
  go_wp2_with fail
  refine (C5.out _).mono ?_
  rintro e w6 ⟨rfl, g6⟩
  have G6 : Hid (Grew w w6) := G5.out.trans g6
  clear g6 G5
  go_wp2_with fail
  refine (C6.out _).mono ?_
  rintro e w7 ⟨rfl, g7⟩
  have G7 : Hid (Grew w w7) := G6.out.trans g7
  clear g7 G6
  rcases h.out with ⟨rfl, rfl, rfl, rfl, rfl, rfl, rfl⟩ | ⟨rfl, rfl, rfl, rfl, rfl, rfl, rfl⟩ | ⟨rfl, rfl, rfl, rfl, rfl, rfl, rfl⟩
  all_goals
    go_wp2
    go_ret
    exact ⟨by simp, G7.out⟩
theorem ord_11 (a b : Int) (w : World) (h0 : 0 ≤ a) (h1 : a < 18446744073709551616) (h2 : 0 ≤ b) (h3 : b < 18446744073709551616) :
    Calls Try.prog 3 #[.bool false, .bool true, .int .u64 a, .int .u64 b] w fun e w' => e = .returned (.bool true) ∧ Grew w w' := by
  have ht : (1 : Int) = 1 ∨ (1 : Int) = 2 := by decide
  obtain ⟨a0, a1⟩ := ct_bd ht h0 h1
  obtain ⟨b0, b1⟩ := ct_bd ht h2 h3
  have hh := ord_seven 1 (by decide) ht a0 a1 b0 b1
  have C := fun (op k a b : Int) (w : World) (o0 : -9223372036854775808 ≤ op) (o1 : op ≤ 9223372036854775807) (hk : kd op = k) (ht : tk op = 1) (hg : gv op = 1) (k0 : 2 ≤ k) (k1 : k ≤ 11) (a0 : 0 ≤ a) (a1 : a < 18446744073709551616) (b0 : 0 ≤ b) (b1 : b < 18446744073709551616) => (by
    have := Binary_any op a b w o0 o1 a0 a1 b0 b1
    rw [bv_cmp a b hk ht hg k0 k1] at this
    exact this : Calls Try.prog 4 #[.int .i64 op, .int .u64 a, .int .u64 b] w fun e w' => e = .returned (.tuple #[.int .u64 (if cmp 1 k (ct 1 a) (ct 1 b) then 1 else 0), .int .i64 0]) ∧ Grew w w')
  exact ord_x11 a b _ _ _ _ _ _ _ w hh
    (fun w => C 70 2 a b w (by decide) (by decide) (by decide) (by decide) (by decide) (by decide) (by decide) h0 h1 h2 h3)
    (fun w => C 71 3 a b w (by decide) (by decide) (by decide) (by decide) (by decide) (by decide) (by decide) h0 h1 h2 h3)
    (fun w => C 73 5 a b w (by decide) (by decide) (by decide) (by decide) (by decide) (by decide) (by decide) h0 h1 h2 h3)
    (fun w => C 75 7 a b w (by decide) (by decide) (by decide) (by decide) (by decide) (by decide) (by decide) h0 h1 h2 h3)
    (fun w => C 77 9 a b w (by decide) (by decide) (by decide) (by decide) (by decide) (by decide) (by decide) h0 h1 h2 h3)
    (fun w => C 79 11 a b w (by decide) (by decide) (by decide) (by decide) (by decide) (by decide) (by decide) h0 h1 h2 h3)
    (fun w => C 75 7 b a w (by decide) (by decide) (by decide) (by decide) (by decide) (by decide) (by decide) h2 h3 h0 h1)
set_option maxRecDepth 100000 in
set_option maxHeartbeats 1000000 in
theorem ord_x20 (a b e0 e1 e2 e3 e4 e5 e6 : Int) (w : World) (h : Hid ((e0 = 1 ∧ e1 = 0 ∧ e2 = 0 ∧ e3 = 0 ∧ e4 = 1 ∧ e5 = 1 ∧ e6 = 0) ∨ (e0 = 0 ∧ e1 = 1 ∧ e2 = 1 ∧ e3 = 0 ∧ e4 = 1 ∧ e5 = 0 ∧ e6 = 1) ∨ (e0 = 0 ∧ e1 = 1 ∧ e2 = 0 ∧ e3 = 1 ∧ e4 = 0 ∧ e5 = 1 ∧ e6 = 0)))
    (C0 : Hid (∀ w : World, Calls Try.prog 4 #[.int .i64 81, .int .u64 a, .int .u64 b] w fun e w' => e = .returned (.tuple #[.int .u64 e0, .int .i64 0]) ∧ Grew w w'))
    (C1 : Hid (∀ w : World, Calls Try.prog 4 #[.int .i64 82, .int .u64 a, .int .u64 b] w fun e w' => e = .returned (.tuple #[.int .u64 e1, .int .i64 0]) ∧ Grew w w'))
    (C2 : Hid (∀ w : World, Calls Try.prog 4 #[.int .i64 83, .int .u64 a, .int .u64 b] w fun e w' => e = .returned (.tuple #[.int .u64 e2, .int .i64 0]) ∧ Grew w w'))
    (C3 : Hid (∀ w : World, Calls Try.prog 4 #[.int .i64 85, .int .u64 a, .int .u64 b] w fun e w' => e = .returned (.tuple #[.int .u64 e3, .int .i64 0]) ∧ Grew w w'))
    (C4 : Hid (∀ w : World, Calls Try.prog 4 #[.int .i64 87, .int .u64 a, .int .u64 b] w fun e w' => e = .returned (.tuple #[.int .u64 e4, .int .i64 0]) ∧ Grew w w'))
    (C5 : Hid (∀ w : World, Calls Try.prog 4 #[.int .i64 89, .int .u64 a, .int .u64 b] w fun e w' => e = .returned (.tuple #[.int .u64 e5, .int .i64 0]) ∧ Grew w w'))
    (C6 : Hid (∀ w : World, Calls Try.prog 4 #[.int .i64 85, .int .u64 b, .int .u64 a] w fun e w' => e = .returned (.tuple #[.int .u64 e6, .int .i64 0]) ∧ Grew w w')) :
    Calls Try.prog 3 #[.bool true, .bool false, .int .u64 a, .int .u64 b] w fun e w' => e = .returned (.bool true) ∧ Grew w w' := by
  go_enter Try.func3, Try.ntmps3
  go_wp2_with fail
  refine (C0.out _).mono ?_
  rintro e w1 ⟨rfl, g1⟩
  have G1 : Hid (Grew w w1) := g1
  clear g1
  go_wp2_with fail
  refine (C1.out _).mono ?_
  rintro e w2 ⟨rfl, g2⟩
  have G2 : Hid (Grew w w2) := G1.out.trans g2
  clear g2 G1
  go_wp2_with fail
  refine (C2.out _).mono ?_
  rintro e w3 ⟨rfl, g3⟩
  have G3 : Hid (Grew w w3) := G2.out.trans g3
  clear g3 G2
  go_wp2_with fail
  refine (C3.out _).mono ?_
  rintro e w4 ⟨rfl, g4⟩
  have G4 : Hid (Grew w w4) := G3.out.trans g4
  clear g4 G3
  go_wp2_with fail
  refine (C4.out _).mono ?_
  rintro e w5 ⟨rfl, g5⟩
  have G5 : Hid (Grew w w5) := G4.out.trans g5
  clear g5 G4
  go_wp2_with fail
  refine (C5.out _).mono ?_
  rintro e w6 ⟨rfl, g6⟩
  have G6 : Hid (Grew w w6) := G5.out.trans g6
  clear g6 G5
  go_wp2_with fail
  refine (C6.out _).mono ?_
  rintro e w7 ⟨rfl, g7⟩
  have G7 : Hid (Grew w w7) := G6.out.trans g7
  clear g7 G6
  rcases h.out with ⟨rfl, rfl, rfl, rfl, rfl, rfl, rfl⟩ | ⟨rfl, rfl, rfl, rfl, rfl, rfl, rfl⟩ | ⟨rfl, rfl, rfl, rfl, rfl, rfl, rfl⟩
  all_goals
    go_wp2
    go_ret
    exact ⟨by simp, G7.out⟩
theorem ord_20 (a b : Int) (w : World) (h0 : 0 ≤ a) (h1 : a < 18446744073709551616) (h2 : 0 ≤ b) (h3 : b < 18446744073709551616) :
    Calls Try.prog 3 #[.bool true, .bool false, .int .u64 a, .int .u64 b] w fun e w' => e = .returned (.bool true) ∧ Grew w w' := by
  have ht : (2 : Int) = 1 ∨ (2 : Int) = 2 := by decide
  obtain ⟨a0, a1⟩ := ct_bd ht h0 h1
  obtain ⟨b0, b1⟩ := ct_bd ht h2 h3
  have hh := ord_seven 0 (by decide) ht a0 a1 b0 b1
  have C := fun (op k a b : Int) (w : World) (o0 : -9223372036854775808 ≤ op) (o1 : op ≤ 9223372036854775807) (hk : kd op = k) (ht : tk op = 2) (hg : gv op = 1) (k0 : 2 ≤ k) (k1 : k ≤ 11) (a0 : 0 ≤ a) (a1 : a < 18446744073709551616) (b0 : 0 ≤ b) (b1 : b < 18446744073709551616) => (by
    have := Binary_any op a b w o0 o1 a0 a1 b0 b1
    rw [bv_cmp a b hk ht hg k0 k1] at this
    exact this : Calls Try.prog 4 #[.int .i64 op, .int .u64 a, .int .u64 b] w fun e w' => e = .returned (.tuple #[.int .u64 (if cmp 2 k (ct 2 a) (ct 2 b) then 1 else 0), .int .i64 0]) ∧ Grew w w')
  exact ord_x20 a b _ _ _ _ _ _ _ w hh
    (fun w => C 81 2 a b w (by decide) (by decide) (by decide) (by decide) (by decide) (by decide) (by decide) h0 h1 h2 h3)
    (fun w => C 82 3 a b w (by decide) (by decide) (by decide) (by decide) (by decide) (by decide) (by decide) h0 h1 h2 h3)
    (fun w => C 83 4 a b w (by decide) (by decide) (by decide) (by decide) (by decide) (by decide) (by decide) h0 h1 h2 h3)
    (fun w => C 85 6 a b w (by decide) (by decide) (by decide) (by decide) (by decide) (by decide) (by decide) h0 h1 h2 h3)
    (fun w => C 87 8 a b w (by decide) (by decide) (by decide) (by decide) (by decide) (by decide) (by decide) h0 h1 h2 h3)
    (fun w => C 89 10 a b w (by decide) (by decide) (by decide) (by decide) (by decide) (by decide) (by decide) h0 h1 h2 h3)
    (fun w => C 85 6 b a w (by decide) (by decide) (by decide) (by decide) (by decide) (by decide) (by decide) h2 h3 h0 h1)
set_option maxRecDepth 100000 in
set_option maxHeartbeats 1000000 in
theorem ord_x21 (a b e0 e1 e2 e3 e4 e5 e6 : Int) (w : World) (h : Hid ((e0 = 1 ∧ e1 = 0 ∧ e2 = 0 ∧ e3 = 0 ∧ e4 = 1 ∧ e5 = 1 ∧ e6 = 0) ∨ (e0 = 0 ∧ e1 = 1 ∧ e2 = 1 ∧ e3 = 0 ∧ e4 = 1 ∧ e5 = 0 ∧ e6 = 1) ∨ (e0 = 0 ∧ e1 = 1 ∧ e2 = 0 ∧ e3 = 1 ∧ e4 = 0 ∧ e5 = 1 ∧ e6 = 0)))
    (C0 : Hid (∀ w : World, Calls Try.prog 4 #[.int .i64 81, .int .u64 a, .int .u64 b] w fun e w' => e = .returned (.tuple #[.int .u64 e0, .int .i64 0]) ∧ Grew w w'))
    (C1 : Hid (∀ w : World, Calls Try.prog 4 #[.int .i64 82, .int .u64 a, .int .u64 b] w fun e w' => e = .returned (.tuple #[.int .u64 e1, .int .i64 0]) ∧ Grew w w'))
    (C2 : Hid (∀ w : World, Calls Try.prog 4 #[.int .i64 84, .int .u64 a, .int .u64 b] w fun e w' => e = .returned (.tuple #[.int .u64 e2, .int .i64 0]) ∧ Grew w w'))
    (C3 : Hid (∀ w : World, Calls Try.prog 4 #[.int .i64 86, .int .u64 a, .int .u64 b] w fun e w' => e = .returned (.tuple #[.int .u64 e3, .int .i64 0]) ∧ Grew w w'))
    (C4 : Hid (∀ w : World, Calls Try.prog 4 #[.int .i64 88, .int .u64 a, .int .u64 b] w fun e w' => e = .returned (.tuple #[.int .u64 e4, .int .i64 0]) ∧ Grew w w'))
    (C5 : Hid (∀ w : World, Calls Try.prog 4 #[.int .i64 90, .int .u64 a, .int .u64 b] w fun e w' => e = .returned (.tuple #[.int .u64 e5, .int .i64 0]) ∧ Grew w w'))
    (C6 : Hid (∀ w : World, Calls Try.prog 4 #[.int .i64 86, .int .u64 b, .int .u64 a] w fun e w' => e = .returned (.tuple #[.int .u64 e6, .int .i64 0]) ∧ Grew w w')) :
    Calls Try.prog 3 #[.bool true, .bool true, .int .u64 a, .int .u64 b] w fun e w' => e = .returned (.bool true) ∧ Grew w w' := by
  go_enter Try.func3, Try.ntmps3
  go_wp2_with fail
  refine (C0.out _).mono ?_
  rintro e w1 ⟨rfl, g1⟩
  have G1 : Hid (Grew w w1) := g1
  clear g1
  go_wp2_with fail
  refine (C1.out _).mono ?_
  rintro e w2 ⟨rfl, g2⟩
  have G2 : Hid (Grew w w2) := G1.out.trans g2
  clear g2 G1
  go_wp2_with fail
  refine (C2.out _).mono ?_
  rintro e w3 ⟨rfl, g3⟩
  have G3 : Hid (Grew w w3) := G2.out.trans g3
  clear g3 G2
  go_wp2_with fail
  refine (C3.out _).mono ?_
  rintro e w4 ⟨rfl, g4⟩
  have G4 : Hid (Grew w w4) := G3.out.trans g4
  clear g4 G3
  go_wp2_with fail
  refine (C4.out _).mono ?_
  rintro e w5 ⟨rfl, g5⟩
  have G5 : Hid (Grew w w5) := G4.out.trans g5
  clear g5 G4
  go_wp2_with fail
  refine (C5.out _).mono ?_
  rintro e w6 ⟨rfl, g6⟩
  have G6 : Hid (Grew w w6) := G5.out.trans g6
  clear g6 G5
  go_wp2_with fail
  refine (C6.out _).mono ?_
  rintro e w7 ⟨rfl, g7⟩
  have G7 : Hid (Grew w w7) := G6.out.trans g7
  clear g7 G6
  rcases h.out with ⟨rfl, rfl, rfl, rfl, rfl, rfl, rfl⟩ | ⟨rfl, rfl, rfl, rfl, rfl, rfl, rfl⟩ | ⟨rfl, rfl, rfl, rfl, rfl, rfl, rfl⟩
  all_goals
    go_wp2
    go_ret
    exact ⟨by simp, G7.out⟩
theorem ord_21 (a b : Int) (w : World) (h0 : 0 ≤ a) (h1 : a < 18446744073709551616) (h2 : 0 ≤ b) (h3 : b < 18446744073709551616) :
    Calls Try.prog 3 #[.bool true, .bool true, .int .u64 a, .int .u64 b] w fun e w' => e = .returned (.bool true) ∧ Grew w w' := by
  have ht : (2 : Int) = 1 ∨ (2 : Int) = 2 := by decide
  obtain ⟨a0, a1⟩ := ct_bd ht h0 h1
  obtain ⟨b0, b1⟩ := ct_bd ht h2 h3
  have hh := ord_seven 1 (by decide) ht a0 a1 b0 b1
  have C := fun (op k a b : Int) (w : World) (o0 : -9223372036854775808 ≤ op) (o1 : op ≤ 9223372036854775807) (hk : kd op = k) (ht : tk op = 2) (hg : gv op = 1) (k0 : 2 ≤ k) (k1 : k ≤ 11) (a0 : 0 ≤ a) (a1 : a < 18446744073709551616) (b0 : 0 ≤ b) (b1 : b < 18446744073709551616) => (by
    have := Binary_any op a b w o0 o1 a0 a1 b0 b1
    rw [bv_cmp a b hk ht hg k0 k1] at this
    exact this : Calls Try.prog 4 #[.int .i64 op, .int .u64 a, .int .u64 b] w fun e w' => e = .returned (.tuple #[.int .u64 (if cmp 2 k (ct 2 a) (ct 2 b) then 1 else 0), .int .i64 0]) ∧ Grew w w')
  exact ord_x21 a b _ _ _ _ _ _ _ w hh
    (fun w => C 81 2 a b w (by decide) (by decide) (by decide) (by decide) (by decide) (by decide) (by decide) h0 h1 h2 h3)
    (fun w => C 82 3 a b w (by decide) (by decide) (by decide) (by decide) (by decide) (by decide) (by decide) h0 h1 h2 h3)
    (fun w => C 84 5 a b w (by decide) (by decide) (by decide) (by decide) (by decide) (by decide) (by decide) h0 h1 h2 h3)
    (fun w => C 86 7 a b w (by decide) (by decide) (by decide) (by decide) (by decide) (by decide) (by decide) h0 h1 h2 h3)
    (fun w => C 88 9 a b w (by decide) (by decide) (by decide) (by decide) (by decide) (by decide) (by decide) h0 h1 h2 h3)
    (fun w => C 90 11 a b w (by decide) (by decide) (by decide) (by decide) (by decide) (by decide) (by decide) h0 h1 h2 h3)
    (fun w => C 86 7 b a w (by decide) (by decide) (by decide) (by decide) (by decide) (by decide) (by decide) h2 h3 h0 h1)
theorem orders_walk (wide uns : Bool) (a b : Int) (w : World) (h0 : 0 ≤ a) (h1 : a < 18446744073709551616) (h2 : 0 ≤ b) (h3 : b < 18446744073709551616) :
    Calls Try.prog 3 #[.bool wide, .bool uns, .int .u64 a, .int .u64 b] w fun e w' => e = .returned (.bool true) ∧ Grew w w' := by
  cases wide <;> cases uns
  · exact ord_10 a b w h0 h1 h2 h3
  · exact ord_11 a b w h0 h1 h2 h3
  · exact ord_20 a b w h0 h1 h2 h3
  · exact ord_21 a b w h0 h1 h2 h3
end Go.Proofs.Ytolllelejdnjlab
namespace Go.Proofs.Ytolllelejdnjlab.inumOrders
open Go.ChangeShapes Go.WideShapes Go.ChangeAt Go.RowKit
set_option linter.unusedVariables false

theorem own : ownKnob Try.prog.godebug = none := by kernel_rfl
set_option maxRecDepth 100000 in
theorem lifted (os : Os) (started : os.Started) (H : Type) (enc : TypeId × Value → H) :
    ReturnsInHanded {} Try.checked os 3 .any (Rows.inumOrdersSpec.pre6 enc Try.prog Try.f3 Rows.inumOrdersRow.domain false) (Rows.inumOrdersSpec.post enc Try.prog Try.f3 false true false false) := by
  refine returnsInHanded_of_change_sized (C := Try.checked) own started (by kernel_rfl) Try.func3
    (ChangeSpec.witness6 (enc := enc) (C := Try.checked) false ⟨#[], #[.bool false, .bool false, .int .u64 0, .int .u64 0], []⟩ 8 (by kernel_rfl) (by kernel_rfl) (by kernel_rfl) (by kernel_rfl)) ?_
  intro W base args ds gs before hval0 hW hcnd hsz0 _
  clear hsz0
  have hval : ∀ (j : Nat) t v, Try.f3.params[j]? = some t → args[j]? = some v → Value.okWide Try.prog W .any base t v := hval0
  have hW' := hW
  obtain ⟨p, q, hA0, hV, rfl, hfz, hnd⟩ := hW
  have hA : DataW.TrodAll enc Try.prog W 0 (fun _ => true) true Try.f3.params.toList args.toList ds p := hA0
  rw [Try.params3] at hA hval
  obtain ⟨v0, vs0, d0, ds0, p0, q0, hargs, rfl, rfl, h0, r0⟩ := trodAll_cons hA
  obtain ⟨v1, vs1, d1, ds1, p1, q1, rfl, rfl, rfl, h1, r1⟩ := trodAll_cons r0
  obtain ⟨v2, vs2, d2, ds2, p2, q2, rfl, rfl, rfl, h2, r2⟩ := trodAll_cons r1
  obtain ⟨v3, vs3, d3, ds3, p3, q3, rfl, rfl, rfl, h3, r3⟩ := trodAll_cons r2
  obtain ⟨rfl, rfl, rfl⟩ := trodAll_nil r3
  obtain rfl : args = #[v0, v1, v2, v3] := by cases args; simp_all
  obtain ⟨rfl, rfl⟩ := trodVars_none hV
  obtain ⟨a0, rfl, rfl, rfl⟩ := open_bool Try.underlying4 (hval 0 4 v0 rfl rfl) h0
  obtain ⟨a1, rfl, rfl, rfl⟩ := open_bool Try.underlying4 (hval 1 4 v1 rfl rfl) h1
  obtain ⟨a2, rfl, rfl, rfl, w2⟩ := open_int Try.underlying22 (hval 2 22 v2 rfl rfl) h2
  have b2 := bounds_u64 w2
  obtain ⟨a3, rfl, rfl, rfl, w3⟩ := open_int Try.underlying22 (hval 3 22 v3 rfl rfl) h3
  have b3 := bounds_u64 w3
  clear hA0 hval0
  refine (orders_walk a0 a1 a2 a3 W (by omega) (by omega) (by omega) (by omega)).mono fun e W' ⟨he, bel⟩ => ?_
  subst he
  exact ⟨_, rfl, _, _, _, [], _, [], hW', trodAll_mk1 (shut_bool Try.underlying4 _), (trodAll_cons_mk (shut_bool Try.underlying4 a0) (trodAll_cons_mk (shut_bool Try.underlying4 a1) (trodAll_cons_mk (shut_int Try.underlying22 w2) (trodAll_cons_mk (shut_int Try.underlying22 w3) trodAll_mk0)))), rfl, bel.1.frame _, fun h => by cases h⟩

theorem over : Rows.inumOrdersRow.holds Try.pinned (OpenSpec.ofChange Rows.inumOrdersSpec) :=
  OpenClaim.holds_of_wide 3 Try.f3 rfl rfl rfl rfl rfl rfl rfl ⟨rfl, rfl, rfl, rfl, rfl⟩ rfl rfl rfl rfl rfl (by kernel_rfl) Try.func3 (by kernel_rfl)
    (of_decide_eq_true (by kernel_rfl)) (by unfold Func.isWrapper; first | (rw [if_pos (by decide +kernel)]; kernel_rfl) | (rw [if_neg (by decide +kernel)]; exact ⟨rfl, rfl⟩))
    (fun os started H enc _ => lifted os started H enc)

end Go.Proofs.Ytolllelejdnjlab.inumOrders
namespace Go.Proofs.Ytolllelejdnjlab
theorem inumOrders_holds : Rows.InumOrdersSaid := inumOrders.over
#print axioms inumOrders_holds
end Go.Proofs.Ytolllelejdnjlab
