/-
  Proved: for every n of 64 bits LebWrites returns true, and n reads as before: PutU, PutS, PutF32 and PutF64 give the document's bytes. No conditions.
-/
import Derived.Test.YtpkccnoipbgnmaaPutU
import Derived.Test.YtpkccnoipbgnmaaPutF
import Derived.ShutString
namespace Go.Proofs.Ytpkccnoipbgnmaa
open Go.RowKit
set_option linter.unusedVariables false

set_option maxRecDepth 100000 in
set_option maxHeartbeats 400000 in
theorem writes_walk (n : Int) (w : World) (h0 : 0 ≤ n) (h1 : n ≤ 18446744073709551615) :
    Calls Try.prog 4 #[.int .u64 n] w fun e w' => e = .returned (.bool true) ∧ Below w.heap.size w w' := by
  go_enter Try.func4, Try.ntmps4
  go_wp2_with fail
  refine (putU_any n _ h0 h1).mono ?_
  rintro e w1 ⟨v1, rfl, g1⟩
  go_wp2_with fail
  refine (refPutU_any n _ h0 h1).mono ?_
  rintro e w2 ⟨v2, rfl, g2⟩
  go_wp2_with fail
  refine (same_true v1 v2 _ _ (g1.reads.below g2.below) g2.reads).mono ?_
  rintro e w2' ⟨rfl, rfl⟩
  go_wp2_with fail
  have b0 : -9223372036854775808 ≤ wrap64 n := by unfold wrap64; omega
  have b1 : wrap64 n ≤ 9223372036854775807 := by unfold wrap64; omega
  refine (putS_any _ _ b0 b1).mono ?_
  rintro e w3 ⟨v3, rfl, g3⟩
  go_wp2_with fail
  refine (refPutS_any _ _ b0 b1).mono ?_
  rintro e w4 ⟨v4, rfl, g4⟩
  go_wp2_with fail
  refine (same_true v3 v4 _ _ (g3.reads.below g4.below) g4.reads).mono ?_
  rintro e w4' ⟨rfl, rfl⟩
  clear b0 b1
  go_wp2_with fail
  refine (putF32_any _ _ (by omega) (by omega)).mono ?_
  rintro e w5 ⟨v5, rfl, g5⟩
  go_wp2_with fail
  refine (refPutFixed_any _ 4 _ (by omega) (by omega) (by omega)).mono ?_
  rintro e w6 ⟨v6, rfl, g6⟩
  go_wp2_with fail
  refine (same_true v5 v6 _ _ (g5.reads.below g6.below) g6.reads).mono ?_
  rintro e w6' ⟨rfl, rfl⟩
  go_wp2_with fail
  refine (putF64_any _ _ (by omega) (by omega)).mono ?_
  rintro e w7 ⟨v7, rfl, g7⟩
  go_wp2_with fail
  refine (refPutFixed_any _ 8 _ (by omega) (by omega) (by omega)).mono ?_
  rintro e w8 ⟨v8, rfl, g8⟩
  go_wp2_with fail
  refine (same_true v7 v8 _ _ (g7.reads.below g8.below) g8.reads).mono ?_
  rintro e w8' ⟨rfl, rfl⟩
  go_wp2
  go_ret
  have s1 := g1.2.2
  have s2 := Nat.le_trans s1 g2.2.2
  have s3 := Nat.le_trans s2 g3.2.2
  have s4 := Nat.le_trans s3 g4.2.2
  have s5 := Nat.le_trans s4 g5.2.2
  have s6 := Nat.le_trans s5 g6.2.2
  have s7 := Nat.le_trans s6 g7.2.2
  exact ⟨rfl, ((((((g1.below.trans (g2.below.mono s1)).trans (g3.below.mono s2)).trans (g4.below.mono s3)).trans (g5.below.mono s4)).trans (g6.below.mono s5)).trans (g7.below.mono s6)).trans (g8.below.mono s7)⟩
end Go.Proofs.Ytpkccnoipbgnmaa
namespace Go.Proofs.Ytpkccnoipbgnmaa.lebWrites
open Go.ChangeShapes Go.WideShapes Go.ChangeAt Go.RowKit
set_option linter.unusedVariables false

theorem own : ownKnob Try.prog.godebug = none := by kernel_rfl

set_option maxRecDepth 100000 in
theorem lifted (os : Os) (started : os.Started) (H : Type) (enc : TypeId × Value → H) :
    ReturnsInHanded {} Try.checked os 4 .any (Rows.lebWritesSpec.pre6 enc Try.prog Try.f4 Rows.lebWritesRow.domain false) (Rows.lebWritesSpec.post enc Try.prog Try.f4 false true false false) := by
  refine returnsInHanded_of_change (C := Try.checked) own started (by kernel_rfl) Try.func4
    (ChangeSpec.witness6 (enc := enc) (C := Try.checked) false ⟨#[], #[.int .u64 0], []⟩ 8 (by kernel_rfl) (by kernel_rfl) (by kernel_rfl) (by kernel_rfl)) ?_
  intro W base args ds gs before hval0 hW hcnd _
  have hval : ∀ (j : Nat) t v, Try.f4.params[j]? = some t → args[j]? = some v → Value.okWide Try.prog W .any base t v := hval0
  have hW' := hW
  obtain ⟨p, q, hA0, hV, rfl, hfz, hnd⟩ := hW
  have hA : DataW.TrodAll enc Try.prog W 0 (fun _ => true) true Try.f4.params.toList args.toList ds p := hA0
  rw [Try.params4] at hA hval
  obtain ⟨v0, vs0, d0, ds0, p0, q0, hargs, rfl, rfl, h0, r0⟩ := trodAll_cons hA
  obtain ⟨rfl, rfl, rfl⟩ := trodAll_nil r0
  obtain rfl : args = #[v0] := by cases args; simp_all
  obtain ⟨rfl, rfl⟩ := trodVars_none hV
  obtain ⟨a0, rfl, rfl, rfl, w0⟩ := open_int Try.underlying28 (hval 0 28 v0 rfl rfl) h0
  clear hA0 hval0
  have b := bounds_u64 w0
  refine (writes_walk a0 W (by omega) (by omega)).mono fun e W' ⟨he, bel⟩ => ?_
  subst he
  exact ⟨_, rfl, _, _, _, [], _, [], hW', trodAll_mk1 (shut_bool Try.underlying4 _), (trodAll_cons_mk (shut_int Try.underlying28 w0) trodAll_mk0), rfl, bel.frame _, fun h => by cases h⟩

theorem over : Rows.lebWritesRow.holds Try.pinned (OpenSpec.ofChange Rows.lebWritesSpec) :=
  OpenClaim.holds_of_wide 4 Try.f4 rfl rfl rfl rfl rfl rfl rfl ⟨rfl, rfl, rfl, rfl, rfl⟩ rfl rfl rfl rfl rfl (by kernel_rfl) Try.func4 (by kernel_rfl)
    (of_decide_eq_true (by kernel_rfl)) (by unfold Func.isWrapper; first | (rw [if_pos (by decide +kernel)]; kernel_rfl) | (rw [if_neg (by decide +kernel)]; exact ⟨rfl, rfl⟩))
    (fun os started H enc _ => lifted os started H enc)

end Go.Proofs.Ytpkccnoipbgnmaa.lebWrites
namespace Go.Proofs.Ytpkccnoipbgnmaa
theorem lebWrites_holds : Rows.LebWritesSaid := lebWrites.over
#print axioms lebWrites_holds
end Go.Proofs.Ytpkccnoipbgnmaa
