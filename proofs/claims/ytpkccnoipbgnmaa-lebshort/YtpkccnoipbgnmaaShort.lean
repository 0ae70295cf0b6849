/-
  Proved: for every n of 64 bits and every byte cut LebShort returns true, and the arguments read as before: of a beginning of a number's bytes U64 and S64 answer that they end too early, at their end. No conditions.
-/
import Derived.Test.YtpkccnoipbgnmaaArgs
import Derived.Test.YtpkccnoipbgnmaaPutU
import Derived.Test.YtpkccnoipbgnmaaBackM
namespace Go.Proofs.Ytpkccnoipbgnmaa
open Go.RowKit
set_option linter.unusedVariables false

theorem modNat {c : Int} {L : Nat} (h0 : 0 ≤ c) (hL : 1 ≤ L) : ∃ k : Nat, c % (L : Int) = (k : Int) ∧ k < L := by
  refine ⟨(c % (L : Int)).toNat, ?_, ?_⟩
  · have := Int.emod_nonneg c (show (L : Int) ≠ 0 by omega); omega
  · have := Int.emod_lt_of_pos c (show (0 : Int) < L by omega); have := Int.emod_nonneg c (show (L : Int) ≠ 0 by omega); omega
set_option maxRecDepth 100000 in
set_option maxHeartbeats 1000000 in
theorem short_walk (n cut : Int) (w : World) (h0 : 0 ≤ n) (h1 : n ≤ 18446744073709551615) (c0 : 0 ≤ cut) (c1 : cut ≤ 255) :
    Calls Try.prog 7 #[.int .u64 n, .int .u8 cut] w fun e w' => e = .returned (.bool true) ∧ Below w.heap.size w w' := by
  obtain ⟨lu1, lu2⟩ := PU_len n
  obtain ⟨ls1, ls2⟩ := PS_len (wrap64 n)
  obtain ⟨ku, hku, hku'⟩ := modNat c0 lu1
  obtain ⟨ks, hks, hks'⟩ := modNat c0 ls1
  have b0 : -9223372036854775808 ≤ wrap64 n := by unfold wrap64; omega
  have b1 : wrap64 n ≤ 9223372036854775807 := by unfold wrap64; omega
  have RU := rd_shortU ku h1 hku'
  have RS := rd_shortS ks b0 b1 hks'
  have BU := byt_of (PU_byte h0 h1)
  have BS := byt_of (PS_byte (wrap64 n))
  obtain ⟨LU, hLU⟩ : ∃ L, L = (PU n).length := ⟨_, rfl⟩
  obtain ⟨LS, hLS⟩ : ∃ L, L = (PS (wrap64 n)).length := ⟨_, rfl⟩
  have HLU : Hid (LU = (PU n).length) := hLU
  have HLS : Hid (LS = (PS (wrap64 n)).length) := hLS
  rw [← hLU] at lu1 lu2 hku
  rw [← hLS] at ls1 ls2 hks
  have HKU : Hid (cut % (LU : Int) = (ku : Int)) := hku
  have HKS : Hid (cut % (LS : Int) = (ks : Int)) := hks
  have HRU : Hid (rd 64 false (PU n) 0 (ku : Int) = (0, (ku : Int), 3)) := RU
  have HRS : Hid (rd 64 true (PS (wrap64 n)) 0 (ks : Int) = (0, (ks : Int), 3)) := RS
  have HBU : Hid (Byt (PU n)) := BU
  have HBS : Hid (Byt (PS (wrap64 n))) := BS
  have zu : ((LU : Int) == 0) = false := beq_eq_false_iff_ne.2 (by omega)
  have zs : ((LS : Int) == 0) = false := beq_eq_false_iff_ne.2 (by omega)
  clear hLU hLS hku hks hku' hks' RU RS BU BS
  go_enter Try.func7, Try.ntmps7
  go_wp2_with fail
  refine (putU_any n _ h0 h1).mono ?_
  rintro e w1 ⟨v1, rfl, g1⟩
  obtain ⟨a1, p1, hv1⟩ := g1.reads.len
  rw [← HLU.out] at hv1
  subst hv1
  go_wp2_with fail
  rw [HKU.out]
  refine (u64_any _ (PU n) 0 ku _ g1.reads HBU.out (by rw [← HLU.out]; omega)).mono ?_
  rw [HRU.out]
  rintro e w1' ⟨rfl, rfl⟩
  go_wp2_with fail
  refine (putS_any _ _ b0 b1).mono ?_
  rintro e w2 ⟨v2, rfl, g2⟩
  obtain ⟨a2, p2, hv2⟩ := g2.reads.len
  rw [← HLS.out] at hv2
  subst hv2
  clear b0 b1
  go_wp2_with fail
  rw [HKS.out]
  refine (s64_any _ (PS (wrap64 n)) 0 ks _ g2.reads HBS.out (by rw [← HLS.out]; omega)).mono ?_
  rw [HRS.out]
  have z0 : wrap64 0 = 0 := by simp [wrap64]
  simp only [z0]
  rintro e w2' ⟨rfl, rfl⟩
  clear z0
  go_wp2_with fail
  go_ret
  exact ⟨by simp, g1.below.trans (g2.below.mono g1.2.2)⟩
end Go.Proofs.Ytpkccnoipbgnmaa
namespace Go.Proofs.Ytpkccnoipbgnmaa.lebShort
open Go.ChangeShapes Go.WideShapes Go.ChangeAt Go.RowKit
set_option linter.unusedVariables false

set_option maxRecDepth 100000 in
theorem lifted (os : Os) (started : os.Started) (H : Type) (enc : TypeId × Value → H) :
    ReturnsInHanded {} Try.checked os 7 .any (Rows.lebShortSpec.pre6 enc Try.prog Try.f7 Rows.lebShortRow.domain false) (Rows.lebShortSpec.post enc Try.prog Try.f7 false true false false) := by
  refine returnsInHanded_of_change_sized (C := Try.checked) own started (by kernel_rfl) Try.func7
    (ChangeSpec.witness6 (enc := enc) (C := Try.checked) false ⟨#[], #[.int .u64 0, .int .u8 0], []⟩ 8 (by kernel_rfl) (by kernel_rfl) (by kernel_rfl) (by kernel_rfl)) ?_
  intro W base args ds gs before hval0 hW hcnd hsz0 _
  have hsz : (DataW.weightsEach Try.prog (Try.f7.params.toList ++ Rows.lebShortSpec.plain.varTypes Try.prog) (ds ++ gs)).all (· ≤ reachBytes) = true := hsz0
  clear hsz0
  have hval : ∀ (j : Nat) t v, Try.f7.params[j]? = some t → args[j]? = some v → Value.okWide Try.prog W .any base t v := hval0
  have hW' := hW
  obtain ⟨p, q, hA0, hV, rfl, hfz, hnd⟩ := hW
  have hA : DataW.TrodAll enc Try.prog W 0 (fun _ => true) true Try.f7.params.toList args.toList ds p := hA0
  rw [Try.params7] at hA hval hsz
  obtain ⟨v0, vs0, d0, ds0, p0, q0, hargs, rfl, rfl, h0, r0⟩ := trodAll_cons hA
  obtain ⟨v1, vs1, d1, ds1, p1, q1, rfl, rfl, rfl, h1, r1⟩ := trodAll_cons r0
  obtain ⟨rfl, rfl, rfl⟩ := trodAll_nil r1
  obtain rfl : args = #[v0, v1] := by cases args; simp_all
  obtain ⟨rfl, rfl⟩ := trodVars_none hV
  obtain ⟨a0, rfl, rfl, rfl, w0⟩ := open_int Try.underlying28 (hval 0 28 v0 rfl rfl) h0
  obtain ⟨a1, rfl, rfl, rfl, w1⟩ := open_int Try.underlying5 (hval 1 5 v1 rfl rfl) h1
  clear hA0 hval0
  refine (short_walk a0 a1 W (bounds_u64 w0).1 (bounds_u64 w0).2 (bounds_u8 w1).1 (bounds_u8 w1).2).mono fun e W' ⟨he, bel⟩ => ?_
  subst he
  exact ⟨_, rfl, _, _, _, [], _, [], hW', trodAll_mk1 (shut_bool Try.underlying4 _), (trodAll_cons_mk (shut_int Try.underlying28 w0) (trodAll_cons_mk (shut_int Try.underlying5 w1) trodAll_mk0)), rfl, bel.frame _, fun h => by cases h⟩

theorem over : Rows.lebShortRow.holds Try.pinned (OpenSpec.ofChange Rows.lebShortSpec) :=
  OpenClaim.holds_of_wide 7 Try.f7 rfl rfl rfl rfl rfl rfl rfl ⟨rfl, rfl, rfl, rfl, rfl⟩ rfl rfl rfl rfl rfl (by kernel_rfl) Try.func7 (by kernel_rfl)
    (of_decide_eq_true (by kernel_rfl)) (by unfold Func.isWrapper; first | (rw [if_pos (by decide +kernel)]; kernel_rfl) | (rw [if_neg (by decide +kernel)]; exact ⟨rfl, rfl⟩))
    (fun os started H enc _ => lifted os started H enc)

end Go.Proofs.Ytpkccnoipbgnmaa.lebShort
namespace Go.Proofs.Ytpkccnoipbgnmaa
theorem lebShort_holds : Rows.LebShortSaid := lebShort.over
#print axioms lebShort_holds
end Go.Proofs.Ytpkccnoipbgnmaa
