/-
  FnumCompare: for every operator's number and all words a, b fnum.Compare answers as the document's own function does. It holds where the table ratchet/fnum.rows starts as its text lays it (the card ties it to the text of the pruned copy); no other condition.
-/
import Derived.Test.YtjkebimmddlccaaDoorCards
import Derived.Test.YtjkebimmddlccaaDoorTie
import Derived.Test.YtjkebimmddlccaaDoorAns
import Derived.Test.YtjkebimmddlccaaDoorLaid
import Derived.Test.YtjkebimmddlccaaDoorRefC
import Derived.Deep.DeepHandedRow
import Derived.Lib.LaidTab
namespace Go.Proofs.YtjkebimmddlccaaDoor
open Go.RowKit
set_option linter.unusedVariables false
set_option linter.unusedSimpArgs false

theorem cop_rcop {f : Ieee.Format} (ht : Two f) (k x y : Nat) (hk : k < 6) : cop f k x y = rcop f k x y := by
  have hk' : k = 0 ∨ k = 1 ∨ k = 2 ∨ k = 3 ∨ k = 4 ∨ k = 5 := by omega
  unfold cop rcop
  by_cases hn : f.infRung < sz f x ∨ f.infRung < sz f y
  · rw [order_nan ht hn, if_pos hn]
    rcases hk' with rfl | rfl | rfl | rfl | rfl | rfl <;> rfl
  · rw [if_neg hn, order_key ht (by omega) (by omega)]
    generalize key f x = p
    generalize key f y = q
    rcases Int.lt_trichotomy p q with h | h | h
    · have e : compare p q = .lt := by simp [compare, compareOfLessAndEq, h]
      have n1 : ¬ p = q := by omega
      have n2 : ¬ q < p := by omega
      have n3 : ¬ q ≤ p := by omega
      have n4 : p ≤ q := by omega
      rw [e]
      have n5 : (p != q) = true := bne_iff_ne.2 n1
      rcases hk' with rfl | rfl | rfl | rfl | rfl | rfl <;> first | (simp [h, n1, n2, n3, n4]; done) | (show _ = (p != q); rw [n5]; rfl)
    · subst h
      have e : compare p p = .eq := by simp
      rw [e]
      rcases hk' with rfl | rfl | rfl | rfl | rfl | rfl <;> simp
    · have n1 : ¬ p = q := by omega
      have n2 : ¬ p < q := by omega
      have n3 : ¬ p ≤ q := by omega
      have n4 : q ≤ p := by omega
      have e : compare p q = .gt := by simp [compare, compareOfLessAndEq, n2, n1]
      rw [e]
      have n5 : (p != q) = true := bne_iff_ne.2 n1
      rcases hk' with rfl | rfl | rfl | rfl | rfl | rfl <;> first | (simp [h, n1, n2, n3, n4]; done) | (show _ = (p != q); rw [n5]; rfl)
set_option maxRecDepth 100000 in
set_option maxHeartbeats 2000000 in
theorem Compare_walk (op R E a b : Int) (w : World)
    (P : Hid (Calls Tryd.prog 12 #[.int .i64 op, .int .u64 a, .int .u64 b] w fun e w' => e = .returned (.tuple #[.int .u64 R, .int .i64 E]) ∧ Grew w w'))
    (Q : Hid (∀ w : World, Calls Tryd.prog 13 #[.int .i64 op, .int .u64 a, .int .u64 b] w fun e w' => e = .returned (.tuple #[.int .u64 R, .int .i64 E]) ∧ Grew w w')) :
    Calls Tryd.prog 5 #[.int .i64 op, .int .u64 a, .int .u64 b] w fun e w' => e = .returned (.bool true) ∧ Grew w w' := by
  go_enter Tryd.func5, Tryd.ntmps5
  go_wp2_with fail
  refine (P.out).mono ?_
  rintro e w1 ⟨rfl, g1⟩
  have G1 : Hid (Grew w w1) := g1
  clear g1
  go_wp2_with fail
  refine (Q.out _).mono ?_
  rintro e w2 ⟨rfl, g2⟩
  have G2 : Hid (Grew w w2) := G1.out.trans g2
  clear g2
  go_wp2
  go_ret
  go_light
  exact ⟨by first | rfl | simp, G2.out⟩
theorem compare_any (op a b : Int) (w : World) (hT : Rws w) (o0 : -9223372036854775808 ≤ op) (o1 : op ≤ 9223372036854775807) (a0 : 0 ≤ a) (a1 : a < 18446744073709551616) (b0 : 0 ≤ b) (b1 : b < 18446744073709551616) :
    Calls Tryd.prog 5 #[.int .i64 op, .int .u64 a, .int .u64 b] w fun e w' => e = .returned (.bool true) ∧ Grew w w' := by
  obtain ⟨a, rfl, ha⟩ := cast_nat a a0 a1
  obtain ⟨b, rfl, hb⟩ := cast_nat b b0 b1
  by_cases c1 : 91 ≤ op ∧ op ≤ 96
  · obtain ⟨k, rfl⟩ : ∃ k : Nat, op = ((91 + k : Nat) : Int) := ⟨(op - 91).toNat, by omega⟩
    have hk : k < 6 := by omega
    have P := Cmp32 k hk a b ha hb w hT
    rw [cop_rcop (by simp [Two]) k _ _ hk] at P
    exact Compare_walk _ _ _ _ _ w P (fun w => rCompare_1 k hk _ _ _ w (fun w => FCmp_any (by simp [Two]) k hk a b ha hb w))
  by_cases c2 : 97 ≤ op ∧ op ≤ 102
  · obtain ⟨k, rfl⟩ : ∃ k : Nat, op = ((97 + k : Nat) : Int) := ⟨(op - 97).toNat, by omega⟩
    have hk : k < 6 := by omega
    have P := Cmp64 k hk a b ha hb w hT
    rw [cop_rcop (by simp [Two]) k _ _ hk] at P
    exact Compare_walk _ _ _ _ _ w P (fun w => rCompare_2 k hk _ _ _ w (fun w => FCmp_any (by simp [Two]) k hk a b ha hb w))
  exact Compare_walk _ _ _ _ _ w (CmpNo op _ _ w hT o0 o1 (by omega) (by omega)) (fun w => rCompare_no op _ _ w o0 o1 (by omega) (by omega))
end Go.Proofs.YtjkebimmddlccaaDoor
namespace Go.Proofs.YtjkebimmddlccaaDoor.fnumCompare
open Go.ChangeShapes Go.WideShapes Go.ChangeAt Go.RowKit
set_option linter.unusedVariables false

theorem own : ownKnob Tryd.prog.godebug = none := by kernel_rfl
set_option maxRecDepth 100000 in
theorem contract (H : Type) (enc : TypeId × Value → H) (W : World) (base : Nat) (args : Array Value) (ds gs : List (DataW H)) (before : List MemPlace)
    (hval : ∀ (j : Nat) t v, Tryd.f5.params[j]? = some t → args[j]? = some v → Value.okWide Tryd.prog W .any base t v)
    (hW : DataW.Whole enc Tryd.prog Tryd.f5.params.toList Rows.fnumCompareSpec.vars false W args.toList ds gs before) (hL : laidMetH Tryd.prog Rows.fnumCompareRow.laid W) :
    Calls Tryd.prog 5 args W fun e W' => ∃ v, e = .returned v ∧ Rows.fnumCompareSpec.post enc Tryd.prog Tryd.f5 false true false false W args v W' := by
  have hW' := hW
  obtain ⟨p, q, hA0, hV, rfl, hfz, hnd⟩ := hW
  have hA : DataW.TrodAll enc Tryd.prog W 0 (fun _ => true) true Tryd.f5.params.toList args.toList ds p := hA0
  rw [Tryd.params5] at hA hval
  obtain ⟨v0, vs0, d0, ds0, p0, q0, hargs, rfl, rfl, h0, r0⟩ := trodAll_cons hA
  obtain ⟨v1, vs1, d1, ds1, p1, q1, rfl, rfl, rfl, h1, r1⟩ := trodAll_cons r0
  obtain ⟨v2, vs2, d2, ds2, p2, q2, rfl, rfl, rfl, h2, r2⟩ := trodAll_cons r1
  obtain ⟨rfl, rfl, rfl⟩ := trodAll_nil r2
  obtain rfl : args = #[v0, v1, v2] := by cases args; simp_all
  obtain ⟨rfl, rfl⟩ := trodVars_none hV
  obtain ⟨a0, rfl, rfl, rfl, w0⟩ := open_int Tryd.underlying3 (hval 0 3 v0 rfl rfl) h0
  have b0 := bounds_i64 w0
  obtain ⟨a1, rfl, rfl, rfl, w1⟩ := open_int Tryd.underlying22 (hval 1 22 v1 rfl rfl) h1
  have b1 := bounds_u64 w1
  obtain ⟨a2, rfl, rfl, rfl, w2⟩ := open_int Tryd.underlying22 (hval 2 22 v2 rfl rfl) h2
  have b2 := bounds_u64 w2
  have hT : Rws W := rws_of hL
  clear hA0 hL
  refine (compare_any a0 a1 a2 W hT b0.1 b0.2 b1.1 (by have := b1.2; omega) b2.1 (by have := b2.2; omega)).mono fun e W' ⟨he, bel⟩ => ?_
  subst he
  exact ⟨_, rfl, _, _, _, [], _, [], hW', trodAll_mk1 (shut_bool Tryd.underlying4 _), (trodAll_cons_mk (shut_int Tryd.underlying3 w0) (trodAll_cons_mk (shut_int Tryd.underlying22 w1) (trodAll_cons_mk (shut_int Tryd.underlying22 w2) trodAll_mk0))), rfl, bel.1.frame _, fun h => by cases h⟩
theorem laid_met (os : Os) : laidMet Tryd.prog Rows.fnumCompareRow.laid (({ World.holding Tryd.prog os ⟨#[], #[], []⟩ with heap := ((World.holding Tryd.prog os ⟨#[], #[], []⟩).heap.modify 0 fun
      | .cells _ t frozen => .cells #[.int .i64 1, .int .i64 32, .int .i64 91, .int .i64 96, .int .i64 1, .int .i64 64, .int .i64 97, .int .i64 102, .int .i64 7, .int .i64 32, .int .i64 139, .int .i64 145, .int .i64 7, .int .i64 64, .int .i64 153, .int .i64 159, .int .i64 14, .int .i64 32, .int .i64 146, .int .i64 152, .int .i64 14, .int .i64 64, .int .i64 160, .int .i64 166] t frozen
      | o => o) } : World).forCall (fun _ _ => 0) ⟨#[], #[.int .i64 0, .int .u64 0, .int .u64 0], []⟩).memory :=
  laidMet_of_run' 8 (by kernel_rfl) (by kernel_rfl)
theorem reads (os : Os) {H : Type} (enc : TypeId × Value → H) : ∃ places, DataW.whole enc Tryd.prog (({ World.holding Tryd.prog os ⟨#[], #[], []⟩ with heap := ((World.holding Tryd.prog os ⟨#[], #[], []⟩).heap.modify 0 fun
      | .cells _ t frozen => .cells #[.int .i64 1, .int .i64 32, .int .i64 91, .int .i64 96, .int .i64 1, .int .i64 64, .int .i64 97, .int .i64 102, .int .i64 7, .int .i64 32, .int .i64 139, .int .i64 145, .int .i64 7, .int .i64 64, .int .i64 153, .int .i64 159, .int .i64 14, .int .i64 32, .int .i64 146, .int .i64 152, .int .i64 14, .int .i64 64, .int .i64 160, .int .i64 166] t frozen
      | o => o) } : World).forCall (fun _ _ => 0) ⟨#[], #[.int .i64 0, .int .u64 0, .int .u64 0], []⟩).memory Tryd.f5.params.toList Rows.fnumCompareSpec.vars false #[Value.int .i64 0, Value.int .u64 0, Value.int .u64 0].toList 8 = some ([.lit (.int .i64 0), .lit (.int .u64 0), .lit (.int .u64 0)], [], places) :=
  ⟨[], by kernel_rfl⟩
set_option maxRecDepth 100000 in
theorem lifted (os : Os) (started : os.Started) (H : Type) (enc : TypeId × Value → H) (F : Stop.Interp) :
    ReturnsInHanded {} Tryd.checked os 5 .any ((OpenSpec.ofChange Rows.fnumCompareSpec).preRow enc Tryd.prog Tryd.f5 Rows.fnumCompareRow.domain false Rows.fnumCompareRow.laid) (((OpenSpec.ofChange Rows.fnumCompareSpec).at F).post enc Tryd.prog Tryd.f5 false true false false) := by
  obtain ⟨places, hx⟩ := reads os enc
  refine returnsInHanded_of_row (C := Tryd.checked) (s := OpenSpec.ofChange Rows.fnumCompareSpec) own started (by kernel_rfl) Tryd.func5
    (witness_row_at (enc := enc) (C := Tryd.checked) false ({ World.holding Tryd.prog os ⟨#[], #[], []⟩ with heap := ((World.holding Tryd.prog os ⟨#[], #[], []⟩).heap.modify 0 fun
      | .cells _ t frozen => .cells #[.int .i64 1, .int .i64 32, .int .i64 91, .int .i64 96, .int .i64 1, .int .i64 64, .int .i64 97, .int .i64 102, .int .i64 7, .int .i64 32, .int .i64 139, .int .i64 145, .int .i64 7, .int .i64 64, .int .i64 153, .int .i64 159, .int .i64 14, .int .i64 32, .int .i64 146, .int .i64 152, .int .i64 14, .int .i64 64, .int .i64 160, .int .i64 166] t frozen
      | o => o) } : World) #[.int .i64 0, .int .u64 0, .int .u64 0] rfl (by kernel_rfl) (by kernel_rfl) (by kernel_rfl)
      (OpenSpec.preRow_of_cond 8 hx (by kernel_rfl) (fun k hk => by cases hk) (by kernel_rfl) (laid_met os))) ?_
  intro W base args ds gs before hval hW _ _ _ hL _ _
  exact contract H enc W base args ds gs before hval hW hL
theorem said : Rows.FnumCompareSaid :=
  OpenClaim.holds_of_cond 5 Tryd.f5 rfl rfl rfl rfl rfl rfl rfl ⟨rfl, rfl, rfl, rfl, rfl⟩ rfl rfl rfl rfl rfl (by kernel_rfl) Tryd.func5 (by kernel_rfl)
    (of_decide_eq_true (by kernel_rfl)) (by unfold Func.isWrapper; first | (rw [if_pos (by decide +kernel)]; kernel_rfl) | (rw [if_neg (by decide +kernel)]; exact ⟨rfl, rfl⟩))
    (fun os started H enc _ F => by rw [OpenClaim.pre_eq_preRow]; exact lifted os started H enc F)
/- No parameter wants a stand-in; the program's own looks are off: what the card asks. -/
theorem plain (f : FuncId) (fn : Func) (hf : Tryd.pinned.checked.prog.funcNamed "ratchet/ratchetlaw04.FnumCompare" = some f) (hfn : Tryd.pinned.checked.prog.funcs[f]? = some fn) :
    false = Tryd.pinned.checked.prog.looks [] ∧ ∀ (j : Nat) t, fn.params[j]? = some t → Tryd.pinned.checked.prog.wantsStandIn t = false := by
  obtain rfl : f = 5 := Option.some.inj ((show Tryd.prog.funcNamed "ratchet/ratchetlaw04.FnumCompare" = some 5 by kernel_rfl).symm.trans hf) |>.symm
  obtain rfl : fn = Tryd.f5 := (Option.some.inj (Tryd.func5.symm.trans hfn)).symm
  refine ⟨by kernel_rfl, fun j t ht => ?_⟩
  rw [Tryd.params5] at ht
  have hm : t ∈ [3, 22, 22] := by simpa using Array.mem_of_getElem? ht
  have hall : ([3, 22, 22].all fun u => !Tryd.prog.wantsStandIn u) = true := by kernel_rfl
  exact (show Tryd.prog.wantsStandIn t = false by simpa using List.all_eq_true.1 hall t hm)
end Go.Proofs.YtjkebimmddlccaaDoor.fnumCompare
namespace Go.Proofs.YtjkebimmddlccaaDoor
theorem fnumCompare_holds : Rows.FnumCompareCardSaid :=
  Claim7.holds_tied_plain_at .later [] _ _ _ _ fnumCompare.said (fun _ h => by cases h) (by kernel_rfl) (fun _ h => by cases h) fnumCompare_row_tie rfl ⟨rfl, rfl⟩ (by kernel_rfl) rfl fnumCompare.plain (by kernel_rfl)
#print axioms fnumCompare_holds
end Go.Proofs.YtjkebimmddlccaaDoor
