/-
  What inum.Unary answers: extending and wrapping; no statement is proved here.
-/
import Derived.Test.YtolllelejdnjlaaDoorUna
namespace Go.Proofs.YtolllelejdnjlaaDoor
open Go.RowKit
set_option linter.unusedVariables false
set_option linter.unusedSimpArgs false

/- The extending and wrapping operators. -/
def ex (k t a : Int) : Int := if k = 30 then (a + 128) % 256 - 128 else if k = 31 then (a + 32768) % 65536 - 32768 else if k = 32 then (a + 2147483648) % 4294967296 - 2147483648 else if k = 34 then sg t a else a
def ev (op a : Int) : Int := ct (gv op) (ex (kd op) (tk op) (ct (tk op) a) % 18446744073709551616)
theorem ext_any (op a : Int) (w : World) (o0 : -9223372036854775808 ≤ op) (o1 : op ≤ 9223372036854775807) (h0 : 0 ≤ a) (h1 : a < 18446744073709551616) (hk : 30 ≤ kd op) :
    Calls Tryd.prog 5 #[.int .i64 op, .int .u64 a] w fun e w' => e = .returned (.tuple #[.int .u64 (ev op a), .int .i64 0]) ∧ Grew w w' := by
  obtain ⟨k0, k1⟩ := kd_bd op
  have ht := tk_or op
  have hg := gv_or op
  have F := fun (w : World) => find_any op w o0 o1
  have R := fun (w : World) => arity_any (kd op) w
  rw [show ark (kd op) = 1 from by unfold ark; rw [if_neg (by omega), if_pos (by omega)]] at R
  have C := fun (w : World) => cut_u a (tk op) w ht
  obtain ⟨a0, a1⟩ := ct_bd ht h0 h1
  have la := ct_lt ht h0 h1
  have U : ∀ w : World, Calls Tryd.prog 14 #[.agg #[.int .i64 (kd op), .int .i64 (tk op), .int .i64 (gv op)], .int .u64 (ct (tk op) a)] w fun e w' => e = .returned (.int .u64 (ex (kd op) (tk op) (ct (tk op) a) % 18446744073709551616)) ∧ Grew w w' := by
    intro w
    have hh : kd op = 30 ∨ kd op = 31 ∨ kd op = 32 ∨ kd op = 33 ∨ kd op = 34 ∨ kd op = 35 := by omega
    rcases hh with e | e | e | e | e | e <;> rw [e]
    · have e2 : ex 30 (tk op) (ct (tk op) a) % 18446744073709551616 = IntKind.u64.wrap (IntKind.i8.wrap (ct (tk op) a)) := by rw [IntKind.wrap_u64]; simp [ex, IntKind.wrap, IntKind.bits, IntKind.signed]; split <;> omega
      rw [e2]; exact una_30 _ _ _ w
    · have e2 : ex 31 (tk op) (ct (tk op) a) % 18446744073709551616 = IntKind.u64.wrap (IntKind.i16.wrap (ct (tk op) a)) := by rw [IntKind.wrap_u64]; simp [ex, IntKind.wrap, IntKind.bits, IntKind.signed]; split <;> omega
      rw [e2]; exact una_31 _ _ _ w
    · have e2 : ex 32 (tk op) (ct (tk op) a) % 18446744073709551616 = IntKind.u64.wrap (wrap32 (ct (tk op) a)) := by rw [IntKind.wrap_u64]; simp [ex, wrap32]
      rw [e2]; exact una_32 _ _ _ w
    · have e2 : ex 33 (tk op) (ct (tk op) a) % 18446744073709551616 = ct (tk op) a := by simp [ex]; exact Int.emod_eq_of_lt a0 la
      rw [e2]; exact una_33 _ _ _ w
    · have e2 : ex 34 (tk op) (ct (tk op) a) % 18446744073709551616 = IntKind.u64.wrap (sg (tk op) (ct (tk op) a)) := by rw [IntKind.wrap_u64]; simp [ex]
      rw [e2]; exact una_34 _ _ _ _ w (fun w => signed_x 34 _ _ _ w ht a0 la)
    · have e2 : ex 35 (tk op) (ct (tk op) a) % 18446744073709551616 = ct (tk op) a := by simp [ex]; exact Int.emod_eq_of_lt a0 la
      rw [e2]; exact una_35 _ _ _ w
  exact Una_yes op a _ _ _ _ _ _ w F R C U (fun w => cut_u _ (gv op) w hg)
set_option maxRecDepth 100000 in
theorem awake_any (w : World) : Calls Tryd.prog 7 #[] w fun e w' => e = .returned (.bool true) ∧ Grew w w' := by
  have B : Hid (∀ w : World, Calls Tryd.prog 16 #[.int .i64 106, .int .u64 2, .int .u64 3] w fun e w' => e = .returned (.tuple #[.int .u64 5, .int .i64 0]) ∧ Grew w w') := fun w => by
    have := Binary_any 106 2 3 w (by decide) (by decide) (by decide) (by decide) (by decide) (by decide)
    rwa [show bv 106 2 3 = (5, 0) from by decide] at this
  go_enter Tryd.func7, Tryd.ntmps7
  go_wp2_with fail
  refine (B.out _).mono ?_
  rintro e w1 ⟨rfl, g1⟩
  have G1 : Hid (Grew w w1) := g1
  clear g1
  go_wp2_with fail
  go_ret
  exact ⟨rfl, G1.out⟩
end Go.Proofs.YtolllelejdnjlaaDoor
