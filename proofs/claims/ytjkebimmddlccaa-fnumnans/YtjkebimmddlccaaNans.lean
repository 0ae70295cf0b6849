/-
  FnumNans: for every width and every word, fnum tells of NaNs, and of the canonical one, as the document's own functions do. No conditions.
-/
import Derived.Test.YtjkebimmddlccaaRefNan
import Derived.ChangeMaps5
import Derived.ShutString
import Derived.ChangeOld
import Derived.Below
import Derived.SizedLaws
import Derived.BigQuiet
namespace Go.Proofs.Ytjkebimmddlccaa
open Go.RowKit
set_option linter.unusedVariables false
set_option linter.unusedSimpArgs false

set_option maxRecDepth 100000 in
set_option maxHeartbeats 2000000 in
theorem nans_walk (n a c e : Int) (p q : Bool) (w : World)
    (P : Hid (∀ w : World, Calls Try.prog 4 #[.int .i64 n, .int .u64 a] w fun r w' => r = .returned (.tuple #[.bool p, .bool q, .int .i64 e]) ∧ w' = w))
    (Q : Hid (∀ w : World, Calls Try.prog 5 #[.int .i64 n, .int .u64 a] w fun r w' => r = .returned (.tuple #[.bool p, .bool q, .int .i64 e]) ∧ Grew w w'))
    (R : Hid (∀ w : World, Calls Try.prog 6 #[.int .i64 n] w fun r w' => r = .returned (.tuple #[.int .u64 c, .int .i64 e]) ∧ w' = w))
    (S : Hid (∀ w : World, Calls Try.prog 7 #[.int .i64 n] w fun r w' => r = .returned (.tuple #[.int .u64 c, .int .i64 e]) ∧ Grew w w')) :
    Calls Try.prog 3 #[.int .i64 n, .int .u64 a] w fun r w' => r = .returned (.bool true) ∧ Grew w w' := by
  go_enter Try.func3, Try.ntmps3
  go_wp2_with fail
  refine (P.out _).mono ?_
  rintro r w1 ⟨rfl, h1⟩
  obtain rfl := h1.symm
  go_wp2_with fail
  refine (Q.out _).mono ?_
  rintro r w2 ⟨rfl, g2⟩
  go_wp2_with fail
  refine (R.out _).mono ?_
  rintro r w3 ⟨rfl, h3⟩
  obtain rfl := h3.symm
  go_wp2_with fail
  refine (S.out _).mono ?_
  rintro r w4 ⟨rfl, g4⟩
  go_wp2
  go_ret
  go_light
  exact ⟨by first | rfl | simp, g2.trans g4⟩
theorem nans_any (n a : Int) (w : World) (h0 : 0 ≤ a) (h1 : a < 18446744073709551616) :
    Calls Try.prog 3 #[.int .i64 n, .int .u64 a] w fun r w' => r = .returned (.bool true) ∧ Grew w w' := by
  obtain ⟨b, rfl⟩ : ∃ b : Nat, a = b := ⟨a.toNat, by omega⟩
  have hb : b < 18446744073709551616 := by omega
  by_cases c1 : n = 32
  · subst c1
    exact nans_walk _ _ _ _ _ _ w (fun w => Nan32 b hb w) (fun w => rNan32 b hb w) (fun w => Canon32 w) (fun w => rCanon32 w)
  by_cases c2 : n = 64
  · subst c2
    exact nans_walk _ _ _ _ _ _ w (fun w => Nan64 b hb w) (fun w => rNan64 b hb w) (fun w => Canon64 w) (fun w => rCanon64 w)
  have d1 : (n == 32) = false := beq_eq_false_iff_ne.2 c1
  have d2 : (n == 64) = false := beq_eq_false_iff_ne.2 c2
  exact nans_walk _ _ _ _ _ _ w (fun w => Nan_no n _ d1 d2 w) (fun w => rNan_no n _ d1 d2 w) (fun w => Canon_no n d1 d2 w) (fun w => rCanon_no n d1 d2 w)
end Go.Proofs.Ytjkebimmddlccaa
namespace Go.Proofs.Ytjkebimmddlccaa.fnumNans
open Go.ChangeShapes Go.WideShapes Go.ChangeAt Go.RowKit
set_option linter.unusedVariables false

theorem own : ownKnob Try.prog.godebug = none := by kernel_rfl
set_option maxRecDepth 100000 in
theorem lifted (os : Os) (started : os.Started) (H : Type) (enc : TypeId × Value → H) :
    ReturnsInHanded {} Try.checked os 3 .any (Rows.fnumNansSpec.pre6 enc Try.prog Try.f3 Rows.fnumNansRow.domain false) (Rows.fnumNansSpec.post enc Try.prog Try.f3 false true false false) := by
  refine returnsInHanded_of_change_sized (C := Try.checked) own started (by kernel_rfl) Try.func3
    (ChangeSpec.witness6 (enc := enc) (C := Try.checked) false ⟨#[], #[.int .i64 0, .int .u64 0], []⟩ 8 (by kernel_rfl) (by kernel_rfl) (by kernel_rfl) (by kernel_rfl)) ?_
  intro W base args ds gs before hval0 hW hcnd hsz0 _
  clear hsz0
  have hval : ∀ (j : Nat) t v, Try.f3.params[j]? = some t → args[j]? = some v → Value.okWide Try.prog W .any base t v := hval0
  have hW' := hW
  obtain ⟨p, q, hA0, hV, rfl, hfz, hnd⟩ := hW
  have hA : DataW.TrodAll enc Try.prog W 0 (fun _ => true) true Try.f3.params.toList args.toList ds p := hA0
  rw [Try.params3] at hA hval
  obtain ⟨v0, vs0, d0, ds0, p0, q0, hargs, rfl, rfl, h0, r0⟩ := trodAll_cons hA
  obtain ⟨v1, vs1, d1, ds1, p1, q1, rfl, rfl, rfl, h1, r1⟩ := trodAll_cons r0
  obtain ⟨rfl, rfl, rfl⟩ := trodAll_nil r1
  obtain rfl : args = #[v0, v1] := by cases args; simp_all
  obtain ⟨rfl, rfl⟩ := trodVars_none hV
  obtain ⟨a0, rfl, rfl, rfl, w0⟩ := open_int Try.underlying3 (hval 0 3 v0 rfl rfl) h0
  have b0 := bounds_i64 w0
  obtain ⟨a1, rfl, rfl, rfl, w1⟩ := open_int Try.underlying22 (hval 1 22 v1 rfl rfl) h1
  have b1 := bounds_u64 w1
  clear hA0 hval0
  refine (nans_any a0 a1 W b1.1 (by have := b1.2; omega)).mono fun e W' ⟨he, bel⟩ => ?_
  subst he
  exact ⟨_, rfl, _, _, _, [], _, [], hW', trodAll_mk1 (shut_bool Try.underlying4 _), (trodAll_cons_mk (shut_int Try.underlying3 w0) (trodAll_cons_mk (shut_int Try.underlying22 w1) trodAll_mk0)), rfl, bel.1.frame _, fun h => by cases h⟩

theorem over : Rows.fnumNansRow.holds Try.pinned (OpenSpec.ofChange Rows.fnumNansSpec) :=
  OpenClaim.holds_of_wide 3 Try.f3 rfl rfl rfl rfl rfl rfl rfl ⟨rfl, rfl, rfl, rfl, rfl⟩ rfl rfl rfl rfl rfl (by kernel_rfl) Try.func3 (by kernel_rfl)
    (of_decide_eq_true (by kernel_rfl)) (by unfold Func.isWrapper; first | (rw [if_pos (by decide +kernel)]; kernel_rfl) | (rw [if_neg (by decide +kernel)]; exact ⟨rfl, rfl⟩))
    (fun os started H enc _ => lifted os started H enc)

end Go.Proofs.Ytjkebimmddlccaa.fnumNans
namespace Go.Proofs.Ytjkebimmddlccaa
theorem fnumNans_holds : Rows.FnumNansSaid := fnumNans.over
#print axioms fnumNans_holds
end Go.Proofs.Ytjkebimmddlccaa
