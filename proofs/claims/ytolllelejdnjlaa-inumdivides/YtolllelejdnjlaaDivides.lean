/-
  Proved: for every two values, both widths, InumDivides returns true, and the arguments read as before: a number is its quotient times the divisor and the rest, signed and unsigned; what traps traps as it should. No conditions.
-/
import Derived.Test.YtolllelejdnjlaaDivM
import Derived.Test.YtolllelejdnjlaaDivW
import Derived.ChangeMaps5
import Derived.ShutString
import Derived.ChangeOld
import Derived.Below
import Derived.SizedLaws
import Derived.BigQuiet
namespace Go.Proofs.Ytolllelejdnjlaa
open Go.RowKit
set_option linter.unusedVariables false
set_option linter.unusedSimpArgs false

theorem divides_1 (a b : Int) (w : World) (h0 : 0 ≤ a) (h1 : a < 18446744073709551616) (h2 : 0 ≤ b) (h3 : b < 18446744073709551616) :
    Calls Try.prog 6 #[.bool false, .int .u64 a, .int .u64 b] w fun e w' => e = .returned (.bool true) ∧ Grew w w' := by
  have ht : (1 : Int) = 1 ∨ (1 : Int) = 2 := by decide
  obtain ⟨k0, q0, m0, p0⟩ := div_signed (d := 109) (r := 111) (m := 108) (p := 106) ht a b h0 h1 h2 h3 (by decide) (by decide) (by decide) (by decide)
  obtain ⟨k1, q1, m1, p1⟩ := div_unsigned (d := 110) (r := 112) (m := 108) (p := 106) ht a b h0 h1 h2 h3 (by decide) (by decide) (by decide) (by decide)
  have T := fun (place x y : Int) (w : World) (p0 : 0 ≤ place) (p1 : place ≤ 17) (x0 : 0 ≤ x ∧ x < 18446744073709551616) (y0 : 0 ≤ y ∧ y < 18446744073709551616) =>
    two_1 place x y _ _ w p0 p1 (fun w => Binary_any (103 + place) x y w (by omega) (by omega) x0.1 x0.2 y0.1 y0.2)
  refine div_x false a b (ct 1 a) (ct 1 b) _ _ _ _ _ _ _ _ _ _ _ _ _ _ _ _ w ?_ ?_
    (fun w => T 6 a b w (by decide) (by decide) ⟨h0, h1⟩ ⟨h2, h3⟩) (fun w => T 8 a b w (by decide) (by decide) ⟨h0, h1⟩ ⟨h2, h3⟩) (fun w => T 5 _ b w (by decide) (by decide) q0 ⟨h2, h3⟩) (fun w => T 3 _ _ w (by decide) (by decide) p0 m0)
    (fun w => T 7 a b w (by decide) (by decide) ⟨h0, h1⟩ ⟨h2, h3⟩) (fun w => T 9 a b w (by decide) (by decide) ⟨h0, h1⟩ ⟨h2, h3⟩) (fun w => T 5 _ b w (by decide) (by decide) q1 ⟨h2, h3⟩) (fun w => T 3 _ _ w (by decide) (by decide) p1 m1)
    (fun w => lcut_1 a w h0) (fun w => lcut_1 b w h2)
  · rcases k0 with ⟨x1, x2, x3⟩ | ⟨x1, x2, x3, _, x4⟩ | ⟨x1, x2, x3, x4⟩
    · exact Or.inl ⟨x1, x2, x3⟩
    · exact Or.inr (Or.inl ⟨x1, x2, x3, x4⟩)
    · exact Or.inr (Or.inr ⟨x1, x2, x3, x4⟩)
  · rcases k1 with ⟨x1, x2, x3⟩ | ⟨x1, x2, x3, x5, x4⟩ | ⟨x1, x2, x3, x4⟩
    · exact Or.inl ⟨x1, x2, x3⟩
    · exact absurd x5 (by decide)
    · exact Or.inr ⟨x1, x2, x3, x4⟩
theorem divides_2 (a b : Int) (w : World) (h0 : 0 ≤ a) (h1 : a < 18446744073709551616) (h2 : 0 ≤ b) (h3 : b < 18446744073709551616) :
    Calls Try.prog 6 #[.bool true, .int .u64 a, .int .u64 b] w fun e w' => e = .returned (.bool true) ∧ Grew w w' := by
  have ht : (2 : Int) = 1 ∨ (2 : Int) = 2 := by decide
  obtain ⟨k0, q0, m0, p0⟩ := div_signed (d := 127) (r := 129) (m := 126) (p := 124) ht a b h0 h1 h2 h3 (by decide) (by decide) (by decide) (by decide)
  obtain ⟨k1, q1, m1, p1⟩ := div_unsigned (d := 128) (r := 130) (m := 126) (p := 124) ht a b h0 h1 h2 h3 (by decide) (by decide) (by decide) (by decide)
  have T := fun (place x y : Int) (w : World) (p0 : 0 ≤ place) (p1 : place ≤ 17) (x0 : 0 ≤ x ∧ x < 18446744073709551616) (y0 : 0 ≤ y ∧ y < 18446744073709551616) =>
    two_2 place x y _ _ w p0 p1 (fun w => Binary_any (121 + place) x y w (by omega) (by omega) x0.1 x0.2 y0.1 y0.2)
  refine div_x true a b (ct 2 a) (ct 2 b) _ _ _ _ _ _ _ _ _ _ _ _ _ _ _ _ w ?_ ?_
    (fun w => T 6 a b w (by decide) (by decide) ⟨h0, h1⟩ ⟨h2, h3⟩) (fun w => T 8 a b w (by decide) (by decide) ⟨h0, h1⟩ ⟨h2, h3⟩) (fun w => T 5 _ b w (by decide) (by decide) q0 ⟨h2, h3⟩) (fun w => T 3 _ _ w (by decide) (by decide) p0 m0)
    (fun w => T 7 a b w (by decide) (by decide) ⟨h0, h1⟩ ⟨h2, h3⟩) (fun w => T 9 a b w (by decide) (by decide) ⟨h0, h1⟩ ⟨h2, h3⟩) (fun w => T 5 _ b w (by decide) (by decide) q1 ⟨h2, h3⟩) (fun w => T 3 _ _ w (by decide) (by decide) p1 m1)
    (fun w => lcut_2 a w) (fun w => lcut_2 b w)
  · rcases k0 with ⟨x1, x2, x3⟩ | ⟨x1, x2, x3, _, x4⟩ | ⟨x1, x2, x3, x4⟩
    · exact Or.inl ⟨x1, x2, x3⟩
    · exact Or.inr (Or.inl ⟨x1, x2, x3, x4⟩)
    · exact Or.inr (Or.inr ⟨x1, x2, x3, x4⟩)
  · rcases k1 with ⟨x1, x2, x3⟩ | ⟨x1, x2, x3, x5, x4⟩ | ⟨x1, x2, x3, x4⟩
    · exact Or.inl ⟨x1, x2, x3⟩
    · exact absurd x5 (by decide)
    · exact Or.inr ⟨x1, x2, x3, x4⟩
theorem divides_walk (wide : Bool) (a b : Int) (w : World) (h0 : 0 ≤ a) (h1 : a < 18446744073709551616) (h2 : 0 ≤ b) (h3 : b < 18446744073709551616) :
    Calls Try.prog 6 #[.bool wide, .int .u64 a, .int .u64 b] w fun e w' => e = .returned (.bool true) ∧ Grew w w' := by
  cases wide
  · exact divides_1 a b w h0 h1 h2 h3
  · exact divides_2 a b w h0 h1 h2 h3
end Go.Proofs.Ytolllelejdnjlaa
namespace Go.Proofs.Ytolllelejdnjlaa.inumDivides
open Go.ChangeShapes Go.WideShapes Go.ChangeAt Go.RowKit
set_option linter.unusedVariables false

theorem own : ownKnob Try.prog.godebug = none := by kernel_rfl
set_option maxRecDepth 100000 in
theorem lifted (os : Os) (started : os.Started) (H : Type) (enc : TypeId × Value → H) :
    ReturnsInHanded {} Try.checked os 6 .any (Rows.inumDividesSpec.pre6 enc Try.prog Try.f6 Rows.inumDividesRow.domain false) (Rows.inumDividesSpec.post enc Try.prog Try.f6 false true false false) := by
  refine returnsInHanded_of_change_sized (C := Try.checked) own started (by kernel_rfl) Try.func6
    (ChangeSpec.witness6 (enc := enc) (C := Try.checked) false ⟨#[], #[.bool false, .int .u64 0, .int .u64 0], []⟩ 8 (by kernel_rfl) (by kernel_rfl) (by kernel_rfl) (by kernel_rfl)) ?_
  intro W base args ds gs before hval0 hW hcnd hsz0 _
  clear hsz0
  have hval : ∀ (j : Nat) t v, Try.f6.params[j]? = some t → args[j]? = some v → Value.okWide Try.prog W .any base t v := hval0
  have hW' := hW
  obtain ⟨p, q, hA0, hV, rfl, hfz, hnd⟩ := hW
  have hA : DataW.TrodAll enc Try.prog W 0 (fun _ => true) true Try.f6.params.toList args.toList ds p := hA0
  rw [Try.params6] at hA hval
  obtain ⟨v0, vs0, d0, ds0, p0, q0, hargs, rfl, rfl, h0, r0⟩ := trodAll_cons hA
  obtain ⟨v1, vs1, d1, ds1, p1, q1, rfl, rfl, rfl, h1, r1⟩ := trodAll_cons r0
  obtain ⟨v2, vs2, d2, ds2, p2, q2, rfl, rfl, rfl, h2, r2⟩ := trodAll_cons r1
  obtain ⟨rfl, rfl, rfl⟩ := trodAll_nil r2
  obtain rfl : args = #[v0, v1, v2] := by cases args; simp_all
  obtain ⟨rfl, rfl⟩ := trodVars_none hV
  obtain ⟨a0, rfl, rfl, rfl⟩ := open_bool Try.underlying4 (hval 0 4 v0 rfl rfl) h0
  obtain ⟨a1, rfl, rfl, rfl, w1⟩ := open_int Try.underlying33 (hval 1 33 v1 rfl rfl) h1
  have b1 := bounds_u64 w1
  obtain ⟨a2, rfl, rfl, rfl, w2⟩ := open_int Try.underlying33 (hval 2 33 v2 rfl rfl) h2
  have b2 := bounds_u64 w2
  clear hA0 hval0
  refine (divides_walk a0 a1 a2 W (by omega) (by omega) (by omega) (by omega)).mono fun e W' ⟨he, bel⟩ => ?_
  subst he
  exact ⟨_, rfl, _, _, _, [], _, [], hW', trodAll_mk1 (shut_bool Try.underlying4 _), (trodAll_cons_mk (shut_bool Try.underlying4 a0) (trodAll_cons_mk (shut_int Try.underlying33 w1) (trodAll_cons_mk (shut_int Try.underlying33 w2) trodAll_mk0))), rfl, bel.1.frame _, fun h => by cases h⟩

theorem over : Rows.inumDividesRow.holds Try.pinned (OpenSpec.ofChange Rows.inumDividesSpec) :=
  OpenClaim.holds_of_wide 6 Try.f6 rfl rfl rfl rfl rfl rfl rfl ⟨rfl, rfl, rfl, rfl, rfl⟩ rfl rfl rfl rfl rfl (by kernel_rfl) Try.func6 (by kernel_rfl)
    (of_decide_eq_true (by kernel_rfl)) (by unfold Func.isWrapper; first | (rw [if_pos (by decide +kernel)]; kernel_rfl) | (rw [if_neg (by decide +kernel)]; exact ⟨rfl, rfl⟩))
    (fun os started H enc _ => lifted os started H enc)

end Go.Proofs.Ytolllelejdnjlaa.inumDivides
namespace Go.Proofs.Ytolllelejdnjlaa
theorem inumDivides_holds : Rows.InumDividesSaid := inumDivides.over
#print axioms inumDivides_holds
end Go.Proofs.Ytolllelejdnjlaa
