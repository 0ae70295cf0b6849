/-
  The walks of inum's Arity, Name, Types, of the document's Answers, of awake and of InumKnows; no statement is proved here.
-/
import Derived.Test.YtolllelejdnjlaaWord
import Derived.Test.YtolllelejdnjlaaBinA
namespace Go.Proofs.Ytolllelejdnjlaa
open Go.RowKit
set_option linter.unusedVariables false
set_option linter.unusedSimpArgs false

theorem fld0 (k t g : Int) (w : World) : (Instr.field 44 (.agg #[.int .i64 k, .int .i64 t, .int .i64 g]) 0).run Try.prog w = .ok (.int .i64 k) w := by kernel_rfl
set_option maxRecDepth 100000 in
theorem arity_x (op k t g r : Int) (w : World)
    (F : Hid (∀ w : World, Calls Try.prog 20 #[.int .i64 op] w fun e w' => e = .returned (.agg #[.int .i64 k, .int .i64 t, .int .i64 g]) ∧ Grew w w'))
    (R : Hid (∀ w : World, Calls Try.prog 21 #[.int .i64 k] w fun e w' => e = .returned (.int .i64 r) ∧ w' = w)) :
    Calls Try.prog 7 #[.int .i64 op] w fun e w' => e = .returned (.tuple #[.int .i64 r, .int .i64 (if r = 0 then 1 else 0)]) ∧ Grew w w' := by
  have f0 := fld0 k t g
  by_cases hr : r = 0
  · subst hr
    rw [if_pos rfl]
    go_enter Try.func7, Try.ntmps7
    go_wp2_with fail
    refine (F.out _).mono ?_
    rintro e w1 ⟨rfl, g1⟩
    have G1 : Hid (Grew w w1) := g1
    clear g1
    go_wp2_with fail
    refine (R.out _).mono ?_
    rintro e w2 ⟨rfl, hw⟩
    obtain rfl := hw.symm
    go_wp2_with fail
    go_ret2
    exact ⟨rfl, G1.out⟩
  · rw [if_neg hr]
    have hb : (r == 0) = false := beq_eq_false_iff_ne.2 hr
    clear hr
    go_enter Try.func7, Try.ntmps7
    go_wp2_with fail
    refine (F.out _).mono ?_
    rintro e w1 ⟨rfl, g1⟩
    have G1 : Hid (Grew w w1) := g1
    clear g1
    go_wp2_with fail
    refine (R.out _).mono ?_
    rintro e w2 ⟨rfl, hw⟩
    obtain rfl := hw.symm
    go_wp2_with fail
    go_ret2
    exact ⟨rfl, G1.out⟩
set_option maxRecDepth 100000 in
theorem name_x (op k t g : Int) (s : ByteArray) (w : World)
    (F : Hid (∀ w : World, Calls Try.prog 20 #[.int .i64 op] w fun e w' => e = .returned (.agg #[.int .i64 k, .int .i64 t, .int .i64 g]) ∧ Grew w w'))
    (R : Hid (∀ w : World, Calls Try.prog 22 #[.int .i64 k] w fun e w' => e = .returned (.string s) ∧ Grew w w')) :
    Calls Try.prog 9 #[.int .i64 op] w fun e w' => e = .returned (.string s) ∧ Grew w w' := by
  have f0 := fld0 k t g
  go_enter Try.func9, Try.ntmps9
  go_wp2_with fail
  refine (F.out _).mono ?_
  rintro e w1 ⟨rfl, g1⟩
  have G1 : Hid (Grew w w1) := g1
  clear g1
  go_wp2_with fail
  refine (R.out _).mono ?_
  rintro e w2 ⟨rfl, g2⟩
  have G2 : Hid (Grew w w2) := G1.out.trans g2
  clear g2
  go_wp2_with fail
  go_ret
  exact ⟨rfl, G2.out⟩
set_option maxRecDepth 100000 in
theorem types_no (op t g : Int) (w : World)
    (F : Hid (∀ w : World, Calls Try.prog 20 #[.int .i64 op] w fun e w' => e = .returned (.agg #[.int .i64 0, .int .i64 t, .int .i64 g]) ∧ Grew w w')) :
    Calls Try.prog 11 #[.int .i64 op] w fun e w' => e = .returned (.tuple #[.int .i64 0, .int .i64 0, .int .i64 1]) ∧ Grew w w' := by
  go_enter Try.func11, Try.ntmps11
  go_wp2_with fail
  refine (F.out _).mono ?_
  rintro e w1 ⟨rfl, g1⟩
  have G1 : Hid (Grew w w1) := g1
  clear g1
  go_wp2_with fail
  go_ret3
  exact ⟨rfl, G1.out.alloc _⟩
set_option maxRecDepth 100000 in
theorem types_yes (op k t g : Int) (w : World) (hk : (k == 0) = false)
    (F : Hid (∀ w : World, Calls Try.prog 20 #[.int .i64 op] w fun e w' => e = .returned (.agg #[.int .i64 k, .int .i64 t, .int .i64 g]) ∧ Grew w w')) :
    Calls Try.prog 11 #[.int .i64 op] w fun e w' => e = .returned (.tuple #[.int .i64 t, .int .i64 g, .int .i64 0]) ∧ Grew w w' := by
  go_enter Try.func11, Try.ntmps11
  go_wp2_with fail
  refine (F.out _).mono ?_
  rintro e w1 ⟨rfl, g1⟩
  have G1 : Hid (Grew w w1) := g1
  clear g1
  go_wp2_with fail
  try go_quiet (fail)
  try go_wp2_with fail
  go_ret3
  exact ⟨rfl, by repeat (first | exact G1.out | refine Grew.drewN ?_ _ | refine Grew.alloc ?_ _)⟩
set_option maxRecDepth 100000 in
theorem awake_any (w : World) : Calls Try.prog 12 #[] w fun e w' => e = .returned (.bool true) ∧ Grew w w' := by
  have B : Hid (∀ w : World, Calls Try.prog 16 #[.int .i64 106, .int .u64 2, .int .u64 3] w fun e w' => e = .returned (.tuple #[.int .u64 5, .int .i64 0]) ∧ Grew w w') := fun w => by
    have := Binary_any 106 2 3 w (by decide) (by decide) (by decide) (by decide) (by decide) (by decide)
    rwa [show bv 106 2 3 = (5, 0) from by decide] at this
  go_enter Try.func12, Try.ntmps12
  go_wp2_with fail
  refine (B.out _).mono ?_
  rintro e w1 ⟨rfl, g1⟩
  have G1 : Hid (Grew w w1) := g1
  clear g1
  go_wp2_with fail
  go_ret
  exact ⟨rfl, G1.out⟩
end Go.Proofs.Ytolllelejdnjlaa
