/-
  FnumUnary: for every operator's number and every word a fnum.Unary answers as the document's own function does. It holds where the table ratchet/fnum.rows starts as its text lays it (the card ties it to the text of the pruned copy); no other condition.
-/
import Derived.Test.YtjkebimmddlccaaDoorCards
import Derived.Test.YtjkebimmddlccaaDoorTie
import Derived.Test.YtjkebimmddlccaaDoorAns
import Derived.Test.YtjkebimmddlccaaDoorLaid
import Derived.Test.YtjkebimmddlccaaDoorUnA
import Derived.Deep.DeepHandedRow
import Derived.Lib.LaidTab
namespace Go.Proofs.YtjkebimmddlccaaDoor
open Go.RowKit
set_option linter.unusedVariables false
set_option linter.unusedSimpArgs false

set_option maxRecDepth 100000 in
set_option maxHeartbeats 2000000 in
theorem Unary_walk (op R E a : Int) (w : World)
    (P : Hid (Calls Tryd.prog 8 #[.int .i64 op, .int .u64 a] w fun e w' => e = .returned (.tuple #[.int .u64 R, .int .i64 E]) ∧ Grew w w'))
    (Q : Hid (∀ w : World, Calls Tryd.prog 9 #[.int .i64 op, .int .u64 a] w fun e w' => e = .returned (.tuple #[.int .u64 R, .int .i64 E]) ∧ Grew w w')) :
    Calls Tryd.prog 3 #[.int .i64 op, .int .u64 a] w fun e w' => e = .returned (.bool true) ∧ Grew w w' := by
  go_enter Tryd.func3, Tryd.ntmps3
  go_wp2_with fail
  refine (P.out).mono ?_
  rintro e w1 ⟨rfl, g1⟩
  have G1 : Hid (Grew w w1) := g1
  clear g1
  go_wp2_with fail
  refine (Q.out _).mono ?_
  rintro e w2 ⟨rfl, g2⟩
  have G2 : Hid (Grew w w2) := G1.out.trans g2
  clear g2
  go_wp2
  go_ret
  go_light
  exact ⟨by first | rfl | simp, G2.out⟩
theorem unary_any (op a : Int) (w : World) (hT : Rws w) (o0 : -9223372036854775808 ≤ op) (o1 : op ≤ 9223372036854775807) (a0 : 0 ≤ a) (a1 : a < 18446744073709551616) :
    Calls Tryd.prog 3 #[.int .i64 op, .int .u64 a] w fun e w' => e = .returned (.bool true) ∧ Grew w w' := by
  obtain ⟨a, rfl, ha⟩ := cast_nat a a0 a1
  by_cases c1 : 141 ≤ op ∧ op ≤ 145
  · obtain ⟨k, rfl⟩ : ∃ k : Nat, op = ((139 + k : Nat) : Int) := ⟨(op - 139).toNat, by omega⟩
    exact Unary_walk _ _ _ _ w (Una32 k (by omega) (by omega) a ha w hT) (fun w => rUnary_1 k (by omega) _ _ w (fun w => FUn_any (f := Ieee.single) (by simp [Two]) k (by omega) (by omega) a ha w))
  by_cases c2 : 155 ≤ op ∧ op ≤ 159
  · obtain ⟨k, rfl⟩ : ∃ k : Nat, op = ((153 + k : Nat) : Int) := ⟨(op - 153).toNat, by omega⟩
    exact Unary_walk _ _ _ _ w (Una64 k (by omega) (by omega) a ha w hT) (fun w => rUnary_2 k (by omega) _ _ w (fun w => FUn_any (f := Ieee.double) (by simp [Two]) k (by omega) (by omega) a ha w))
  by_cases c3 : op = 139
  · subst c3
    have P := Abs32 a ha w hT
    rw [not_31 _ (Nat.mod_lt _ (by decide))] at P
    exact Unary_walk 139 _ _ _ w P (fun w => rUnary_1 0 (by omega) _ _ w (fun w => FAbs_any (f := Ieee.single) (by simp [Two]) a ha w))
  by_cases c4 : op = 140
  · subst c4
    exact Unary_walk 140 _ _ _ w (Neg32 a ha w hT) (fun w => rUnary_1 1 (by omega) _ _ w (fun w => FNeg_any (f := Ieee.single) (by simp [Two]) a ha w))
  by_cases c5 : op = 153
  · subst c5
    have P := Abs64 a ha w hT
    rw [not_63 _ (Nat.mod_lt _ (by decide))] at P
    exact Unary_walk 153 _ _ _ w P (fun w => rUnary_2 0 (by omega) _ _ w (fun w => FAbs_any (f := Ieee.double) (by simp [Two]) a ha w))
  by_cases c6 : op = 154
  · subst c6
    exact Unary_walk 154 _ _ _ w (Neg64 a ha w hT) (fun w => rUnary_2 1 (by omega) _ _ w (fun w => FNeg_any (f := Ieee.double) (by simp [Two]) a ha w))
  exact Unary_walk _ _ _ _ w (UnaNo op _ w hT o0 o1 (by omega) (by omega)) (fun w => rUnary_no op _ w o0 o1 (by omega) (by omega))
end Go.Proofs.YtjkebimmddlccaaDoor
namespace Go.Proofs.YtjkebimmddlccaaDoor.fnumUnary
open Go.ChangeShapes Go.WideShapes Go.ChangeAt Go.RowKit
set_option linter.unusedVariables false

theorem own : ownKnob Tryd.prog.godebug = none := by kernel_rfl
set_option maxRecDepth 100000 in
theorem contract (H : Type) (enc : TypeId × Value → H) (W : World) (base : Nat) (args : Array Value) (ds gs : List (DataW H)) (before : List MemPlace)
    (hval : ∀ (j : Nat) t v, Tryd.f3.params[j]? = some t → args[j]? = some v → Value.okWide Tryd.prog W .any base t v)
    (hW : DataW.Whole enc Tryd.prog Tryd.f3.params.toList Rows.fnumUnarySpec.vars false W args.toList ds gs before) (hL : laidMetH Tryd.prog Rows.fnumUnaryRow.laid W) :
    Calls Tryd.prog 3 args W fun e W' => ∃ v, e = .returned v ∧ Rows.fnumUnarySpec.post enc Tryd.prog Tryd.f3 false true false false W args v W' := by
  have hW' := hW
  obtain ⟨p, q, hA0, hV, rfl, hfz, hnd⟩ := hW
  have hA : DataW.TrodAll enc Tryd.prog W 0 (fun _ => true) true Tryd.f3.params.toList args.toList ds p := hA0
  rw [Tryd.params3] at hA hval
  obtain ⟨v0, vs0, d0, ds0, p0, q0, hargs, rfl, rfl, h0, r0⟩ := trodAll_cons hA
  obtain ⟨v1, vs1, d1, ds1, p1, q1, rfl, rfl, rfl, h1, r1⟩ := trodAll_cons r0
  obtain ⟨rfl, rfl, rfl⟩ := trodAll_nil r1
  obtain rfl : args = #[v0, v1] := by cases args; simp_all
  obtain ⟨rfl, rfl⟩ := trodVars_none hV
  obtain ⟨a0, rfl, rfl, rfl, w0⟩ := open_int Tryd.underlying3 (hval 0 3 v0 rfl rfl) h0
  have b0 := bounds_i64 w0
  obtain ⟨a1, rfl, rfl, rfl, w1⟩ := open_int Tryd.underlying22 (hval 1 22 v1 rfl rfl) h1
  have b1 := bounds_u64 w1
  have hT : Rws W := rws_of hL
  clear hA0 hL
  refine (unary_any a0 a1 W hT b0.1 b0.2 b1.1 (by have := b1.2; omega)).mono fun e W' ⟨he, bel⟩ => ?_
  subst he
  exact ⟨_, rfl, _, _, _, [], _, [], hW', trodAll_mk1 (shut_bool Tryd.underlying4 _), (trodAll_cons_mk (shut_int Tryd.underlying3 w0) (trodAll_cons_mk (shut_int Tryd.underlying22 w1) trodAll_mk0)), rfl, bel.1.frame _, fun h => by cases h⟩
theorem laid_met (os : Os) : laidMet Tryd.prog Rows.fnumUnaryRow.laid (({ World.holding Tryd.prog os ⟨#[], #[], []⟩ with heap := ((World.holding Tryd.prog os ⟨#[], #[], []⟩).heap.modify 0 fun
      | .cells _ t frozen => .cells #[.int .i64 1, .int .i64 32, .int .i64 91, .int .i64 96, .int .i64 1, .int .i64 64, .int .i64 97, .int .i64 102, .int .i64 7, .int .i64 32, .int .i64 139, .int .i64 145, .int .i64 7, .int .i64 64, .int .i64 153, .int .i64 159, .int .i64 14, .int .i64 32, .int .i64 146, .int .i64 152, .int .i64 14, .int .i64 64, .int .i64 160, .int .i64 166] t frozen
      | o => o) } : World).forCall (fun _ _ => 0) ⟨#[], #[.int .i64 0, .int .u64 0], []⟩).memory :=
  laidMet_of_run' 8 (by kernel_rfl) (by kernel_rfl)
theorem reads (os : Os) {H : Type} (enc : TypeId × Value → H) : ∃ places, DataW.whole enc Tryd.prog (({ World.holding Tryd.prog os ⟨#[], #[], []⟩ with heap := ((World.holding Tryd.prog os ⟨#[], #[], []⟩).heap.modify 0 fun
      | .cells _ t frozen => .cells #[.int .i64 1, .int .i64 32, .int .i64 91, .int .i64 96, .int .i64 1, .int .i64 64, .int .i64 97, .int .i64 102, .int .i64 7, .int .i64 32, .int .i64 139, .int .i64 145, .int .i64 7, .int .i64 64, .int .i64 153, .int .i64 159, .int .i64 14, .int .i64 32, .int .i64 146, .int .i64 152, .int .i64 14, .int .i64 64, .int .i64 160, .int .i64 166] t frozen
      | o => o) } : World).forCall (fun _ _ => 0) ⟨#[], #[.int .i64 0, .int .u64 0], []⟩).memory Tryd.f3.params.toList Rows.fnumUnarySpec.vars false #[Value.int .i64 0, Value.int .u64 0].toList 8 = some ([.lit (.int .i64 0), .lit (.int .u64 0)], [], places) :=
  ⟨[], by kernel_rfl⟩
set_option maxRecDepth 100000 in
theorem lifted (os : Os) (started : os.Started) (H : Type) (enc : TypeId × Value → H) (F : Stop.Interp) :
    ReturnsInHanded {} Tryd.checked os 3 .any ((OpenSpec.ofChange Rows.fnumUnarySpec).preRow enc Tryd.prog Tryd.f3 Rows.fnumUnaryRow.domain false Rows.fnumUnaryRow.laid) (((OpenSpec.ofChange Rows.fnumUnarySpec).at F).post enc Tryd.prog Tryd.f3 false true false false) := by
  obtain ⟨places, hx⟩ := reads os enc
  refine returnsInHanded_of_row (C := Tryd.checked) (s := OpenSpec.ofChange Rows.fnumUnarySpec) own started (by kernel_rfl) Tryd.func3
    (witness_row_at (enc := enc) (C := Tryd.checked) false ({ World.holding Tryd.prog os ⟨#[], #[], []⟩ with heap := ((World.holding Tryd.prog os ⟨#[], #[], []⟩).heap.modify 0 fun
      | .cells _ t frozen => .cells #[.int .i64 1, .int .i64 32, .int .i64 91, .int .i64 96, .int .i64 1, .int .i64 64, .int .i64 97, .int .i64 102, .int .i64 7, .int .i64 32, .int .i64 139, .int .i64 145, .int .i64 7, .int .i64 64, .int .i64 153, .int .i64 159, .int .i64 14, .int .i64 32, .int .i64 146, .int .i64 152, .int .i64 14, .int .i64 64, .int .i64 160, .int .i64 166] t frozen
      | o => o) } : World) #[.int .i64 0, .int .u64 0] rfl (by kernel_rfl) (by kernel_rfl) (by kernel_rfl)
      (OpenSpec.preRow_of_cond 8 hx (by kernel_rfl) (fun k hk => by cases hk) (by kernel_rfl) (laid_met os))) ?_
  intro W base args ds gs before hval hW _ _ _ hL _ _
  exact contract H enc W base args ds gs before hval hW hL
theorem said : Rows.FnumUnarySaid :=
  OpenClaim.holds_of_cond 3 Tryd.f3 rfl rfl rfl rfl rfl rfl rfl ⟨rfl, rfl, rfl, rfl, rfl⟩ rfl rfl rfl rfl rfl (by kernel_rfl) Tryd.func3 (by kernel_rfl)
    (of_decide_eq_true (by kernel_rfl)) (by unfold Func.isWrapper; first | (rw [if_pos (by decide +kernel)]; kernel_rfl) | (rw [if_neg (by decide +kernel)]; exact ⟨rfl, rfl⟩))
    (fun os started H enc _ F => by rw [OpenClaim.pre_eq_preRow]; exact lifted os started H enc F)
/- No parameter wants a stand-in; the program's own looks are off: what the card asks. -/
theorem plain (f : FuncId) (fn : Func) (hf : Tryd.pinned.checked.prog.funcNamed "ratchet/ratchetlaw04.FnumUnary" = some f) (hfn : Tryd.pinned.checked.prog.funcs[f]? = some fn) :
    false = Tryd.pinned.checked.prog.looks [] ∧ ∀ (j : Nat) t, fn.params[j]? = some t → Tryd.pinned.checked.prog.wantsStandIn t = false := by
  obtain rfl : f = 3 := Option.some.inj ((show Tryd.prog.funcNamed "ratchet/ratchetlaw04.FnumUnary" = some 3 by kernel_rfl).symm.trans hf) |>.symm
  obtain rfl : fn = Tryd.f3 := (Option.some.inj (Tryd.func3.symm.trans hfn)).symm
  refine ⟨by kernel_rfl, fun j t ht => ?_⟩
  rw [Tryd.params3] at ht
  have hm : t ∈ [3, 22] := by simpa using Array.mem_of_getElem? ht
  have hall : ([3, 22].all fun u => !Tryd.prog.wantsStandIn u) = true := by kernel_rfl
  exact (show Tryd.prog.wantsStandIn t = false by simpa using List.all_eq_true.1 hall t hm)
end Go.Proofs.YtjkebimmddlccaaDoor.fnumUnary
namespace Go.Proofs.YtjkebimmddlccaaDoor
theorem fnumUnary_holds : Rows.FnumUnaryCardSaid :=
  Claim7.holds_tied_plain_at .later [] _ _ _ _ fnumUnary.said (fun _ h => by cases h) (by kernel_rfl) (fun _ h => by cases h) fnumUnary_row_tie rfl ⟨rfl, rfl⟩ (by kernel_rfl) rfl fnumUnary.plain (by kernel_rfl)
#print axioms fnumUnary_holds
end Go.Proofs.YtjkebimmddlccaaDoor
