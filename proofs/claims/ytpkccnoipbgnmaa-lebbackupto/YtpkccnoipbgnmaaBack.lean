/-
  Proved: for every n of 64 bits and every front and back LebBack returns true, and the arguments read as before: what PutU and PutS write is read back by U64 and S64 between any bytes. Condition: the arguments hold together at most 1048576 values (the second form of the statement).
-/
import Derived.Test.YtpkccnoipbgnmaaBulk
import Derived.Test.YtpkccnoipbgnmaaPutU
import Derived.Test.YtpkccnoipbgnmaaBackM
import Derived.Test.YtpkccnoipbgnmaaCopied
namespace Go.Proofs.Ytpkccnoipbgnmaa
open Go.RowKit
set_option linter.unusedVariables false

theorem Byt.app {a b : List Int} (ha : Byt a) (hb : Byt b) : Byt (a ++ b) := by
  intro j
  by_cases h : j < a.length
  · have := ha j
    simpa [List.getD, List.getElem?_append_left h] using this
  · have := hb (j - a.length)
    simpa [List.getD, List.getElem?_append_right (Nat.le_of_not_lt h)] using this
theorem wrapBack {n : Int} (h0 : -9223372036854775808 ≤ n) (h1 : n ≤ 9223372036854775807) : wrap64 (n % 18446744073709551616) = n := by unfold wrap64; omega

set_option maxRecDepth 100000 in
set_option maxHeartbeats 1000000 in
theorem back_walk (n : Int) (vf vb : Value) (f b : List Int) (w : World) (h0 : 0 ≤ n) (h1 : n ≤ 18446744073709551615) (hF : Reads w vf f) (hB : Reads w vb b) (bF : Byt f) (bB : Byt b)
    (lF : f.length ≤ 1048576) (lB : b.length ≤ 1048576) :
    Calls Try.prog 6 #[.int .u64 n, vf, vb] w fun e w' => e = .returned (.bool true) ∧ Below w.heap.size w w' := by
  have B0 : Below w.heap.size w w := Below.refl _ _
  have S0 : w.heap.size ≤ w.heap.size := Nat.le_refl _
  obtain ⟨lu1, lu2⟩ := PU_len n
  obtain ⟨ls1, ls2⟩ := PS_len (wrap64 n)
  have b0 : -9223372036854775808 ≤ wrap64 n := by unfold wrap64; omega
  have b1 : wrap64 n ≤ 9223372036854775807 := by unfold wrap64; omega
  have HBU : Hid (Byt (f ++ PU n ++ b)) := (bF.app (byt_of (PU_byte h0 h1))).app bB
  have HBS : Hid (Byt (f ++ PS (wrap64 n) ++ b)) := (bF.app (byt_of (PS_byte _))).app bB
  have HWB : Hid (wrap64 (wrap64 n % 18446744073709551616) = wrap64 n) := wrapBack b0 b1
  obtain ⟨LU, hLU⟩ : ∃ L, L = (PU n).length := ⟨_, rfl⟩
  obtain ⟨LS, hLS⟩ : ∃ L, L = (PS (wrap64 n)).length := ⟨_, rfl⟩
  obtain ⟨LF, hLF⟩ : ∃ L, L = f.length := ⟨_, rfl⟩
  have HLU : Hid (LU = (PU n).length) := hLU
  have HLS : Hid (LS = (PS (wrap64 n)).length) := hLS
  have HLF : Hid (LF = f.length) := hLF
  obtain ⟨MU, hMU⟩ : ∃ L, L = (f ++ PU n ++ b).length := ⟨_, rfl⟩
  obtain ⟨MS, hMS⟩ : ∃ L, L = (f ++ PS (wrap64 n) ++ b).length := ⟨_, rfl⟩
  have HMU : Hid (MU = (f ++ PU n ++ b).length) := hMU
  have HMS : Hid (MS = (f ++ PS (wrap64 n) ++ b).length) := hMS
  have HRU : Hid (rd 64 false (f ++ PU n ++ b) (LF : Int) (MU : Int) = (n, (LF : Int) + (LU : Int), 0)) := by rw [hLF, hMU, hLU]; exact rd_backU f b h0 h1
  have HRS : Hid (rd 64 true (f ++ PS (wrap64 n) ++ b) (LF : Int) (MS : Int) = (wrap64 n % 18446744073709551616, (LF : Int) + (LS : Int), 0)) := by rw [hLF, hMS, hLS]; exact rd_backS f b b0 b1
  have mu : MU ≤ 3000000 := by rw [hMU]; simp; omega
  have ms : MS ≤ 3000000 := by rw [hMS]; simp; omega
  have HF : Hid (Reads w vf f) := hF
  have HB : Hid (Reads w vb b) := hB
  obtain ⟨af, cf, hvf⟩ := hF.len
  obtain ⟨ab, cb, hvb⟩ := hB.len
  rw [← hLF] at hvf
  subst hvf
  subst hvb
  rw [← hLU] at lu1 lu2
  rw [← hLS] at ls1 ls2
  rw [← hLF] at lF
  have zu : ((LU : Int) == 0) = false := beq_eq_false_iff_ne.2 (by omega)
  clear hLU hLS hLF hMU hMS hF hB bF bB
  go_enter Try.func6, Try.ntmps6
  go_wp2_with fail
  refine (putU_any n _ h0 h1).mono ?_
  rintro e w1 ⟨v1, rfl, g1⟩
  obtain ⟨B1, S1⟩ := g1.step B0 S0
  have R1 := g1.reads
  obtain ⟨a1, p1, hv1⟩ := R1.len
  rw [← HLU.out] at hv1
  subst hv1
  have HR1 : Hid (Reads w1 (.slice a1 LU p1) (PU n)) := R1
  clear R1
  go_wp2_with fail
  refine (copied_any _ f _ (HF.out.below B1) (by have := HLF.out; omega)).mono ?_
  rintro e w2 ⟨v2, rfl, g2⟩
  obtain ⟨B2, S2⟩ := g2.step B1 S1
  have HG2 : Hid (Has w1.heap.size w1 w2 v2 f) := g2
  clear g1 g2
  have l1 : f.length + (PU n).length ≤ 140737488355328 := by have := HLF.out; have := HLU.out; omega
  have l2 : (f ++ PU n).length + b.length ≤ 140737488355328 := by have := HLF.out; have := HLU.out; simp; omega
  have HL1 : Hid (f.length + (PU n).length ≤ 140737488355328) := l1
  have HL2 : Hid ((f ++ PU n).length + b.length ≤ 140737488355328) := l2
  clear l1 l2
  go_wp2_with (first | (at_builtin; refine wp_appS rfl (.tmp 18) (.tmp 19) rfl rfl rfl HG2.out (HR1.out.below HG2.out.below) HL1.out ?_; intro v3 w3 g3) | (at_builtin; refine wp_appS rfl (.tmp 20) (.tmp 21) rfl rfl rfl g3 (HB.out.below (B1.trans (g3.below.mono S1))) HL2.out ?_; intro v4 w4 g4; obtain ⟨a4, p4, hv4⟩ := g4.reads.len; rw [← HMU.out] at hv4; subst hv4))
  obtain ⟨B4, S4⟩ : Below w.heap.size w w4 ∧ w.heap.size ≤ w4.heap.size := ⟨B1.trans (g4.below.mono S1), Nat.le_trans S1 g4.2.2⟩
  refine (u64_any _ (f ++ PU n ++ b) (LF : Int) (MU : Int) _ g4.reads HBU.out (by rw [← HMU.out]; omega)).mono ?_
  rw [HRU.out]
  rintro e w4' ⟨rfl, rfl⟩
  clear g3 HG2 HR1 HL1 HL2
  go_wp2_with fail
  refine (putS_any _ _ b0 b1).mono ?_
  rintro e w5 ⟨v5, rfl, g5⟩
  obtain ⟨B5, S5⟩ := g5.step B4 S4
  have R5 := g5.reads
  obtain ⟨a5, p5, hv5⟩ := R5.len
  rw [← HLS.out] at hv5
  subst hv5
  have HR5 : Hid (Reads w5 (.slice a5 LS p5) (PS (wrap64 n))) := R5
  clear R5 b0 b1
  go_wp2_with fail
  refine (copied_any _ f _ (HF.out.below B5) (by have := HLF.out; omega)).mono ?_
  rintro e w6 ⟨v6, rfl, g6⟩
  have HG6 : Hid (Has w5.heap.size w5 w6 v6 f) := g6
  have HL1 : Hid (f.length + (PS (wrap64 n)).length ≤ 140737488355328) := by have := HLF.out; have := HLS.out; show _ ≤ _; omega
  have HL2 : Hid ((f ++ PS (wrap64 n)).length + b.length ≤ 140737488355328) := by have := HLF.out; have := HLS.out; show _ ≤ _; simp; omega
  clear g5 g6 g4
  go_wp2_with (first | (at_builtin; refine wp_appS rfl (.tmp 58) (.tmp 59) rfl rfl rfl HG6.out (HR5.out.below HG6.out.below) HL1.out ?_; intro v7 w7 g7) | (at_builtin; refine wp_appS rfl (.tmp 60) (.tmp 61) rfl rfl rfl g7 (HB.out.below (B5.trans (g7.below.mono S5))) HL2.out ?_; intro v8 w8 g8; obtain ⟨a8, p8, hv8⟩ := g8.reads.len; rw [← HMS.out] at hv8; subst hv8))
  refine (s64_any _ (f ++ PS (wrap64 n) ++ b) (LF : Int) (MS : Int) _ g8.reads HBS.out (by rw [← HMS.out]; omega)).mono ?_
  rw [HRS.out]
  simp only [HWB.out]
  rintro e w8' ⟨rfl, rfl⟩
  clear g7 HG6 HR5 HL1 HL2
  go_wp2_with fail
  go_ret
  exact ⟨by simp, B5.trans (g8.below.mono S5)⟩
end Go.Proofs.Ytpkccnoipbgnmaa
namespace Go.Proofs.Ytpkccnoipbgnmaa.lebBack
open Go.ChangeShapes Go.WideShapes Go.ChangeAt Go.RowKit
set_option linter.unusedVariables false

theorem contract (H : Type) (enc : TypeId × Value → H) (W : World) (base : Nat) (args : Array Value) (ds gs : List (DataW H)) (before : List MemPlace)
    (hval0 : ∀ (j : Nat) t v, Try.f6.params[j]? = some t → args[j]? = some v → Value.okWide Try.prog W .any base t v)
    (hW : DataW.Whole enc Try.prog Try.f6.params.toList Rows.lebBackSpec.vars false W args.toList ds gs before) (hk : Rows.uptoSmall H (ds ++ gs) = true) :
    Calls Try.prog 6 args W fun e W' => ∃ v, e = .returned v ∧ Rows.lebBackSpec.post enc Try.prog Try.f6 false true false false W args v W' := by
  have hval : ∀ (j : Nat) t v, Try.f6.params[j]? = some t → args[j]? = some v → Value.okWide Try.prog W .any base t v := hval0
  have hW' := hW
  obtain ⟨p, q, hA0, hV, rfl, hfz, hnd⟩ := hW
  have hA : DataW.TrodAll enc Try.prog W 0 (fun _ => true) true Try.f6.params.toList args.toList ds p := hA0
  rw [Try.params6] at hA hval
  obtain ⟨v0, vs0, d0, ds0, p0, q0, hargs, rfl, rfl, h0, r0⟩ := trodAll_cons hA
  obtain ⟨v1, vs1, d1, ds1, p1, q1, rfl, rfl, rfl, h1, r1⟩ := trodAll_cons r0
  obtain ⟨v2, vs2, d2, ds2, p2, q2, rfl, rfl, rfl, h2, r2⟩ := trodAll_cons r1
  obtain ⟨rfl, rfl, rfl⟩ := trodAll_nil r2
  obtain rfl : args = #[v0, v1, v2] := by cases args; simp_all
  obtain ⟨rfl, rfl⟩ := trodVars_none hV
  obtain ⟨a0, rfl, rfl, rfl, w0⟩ := open_int Try.underlying28 (hval 0 28 v0 rfl rfl) h0
  obtain ⟨a1, len1, cap1, rfl⟩ := okWide_slice Try.underlying22 (hval 1 22 v1 rfl rfl)
  have k1 := h1
  have lt1 : ∀ x ∈ p1, x.block < W.heap.size := by obtain ⟨m, hm⟩ := k1; exact DataW.trod_lt m _ _ _ hm
  obtain ⟨l1, hl1, hR1, hB1, hd1⟩ := open_bytes h1
  obtain ⟨a2, len2, cap2, rfl⟩ := okWide_slice Try.underlying22 (hval 2 22 v2 rfl rfl)
  have k2 := h2
  have lt2 : ∀ x ∈ p2, x.block < W.heap.size := by obtain ⟨m, hm⟩ := k2; exact DataW.trod_lt m _ _ _ hm
  obtain ⟨l2, hl2, hR2, hB2, hd2⟩ := open_bytes h2
  clear hA0 hval0
  simp only [List.append_nil] at hk
  have hb := of_decide_eq_true hk
  simp only [Rows.uptoBulkAll] at hb
  have q1 := bulk_bytes hd1
  have q2 := bulk_bytes hd2
  have hs1 : l1.length ≤ 1048576 := by omega
  have hs2 : l2.length ≤ 1048576 := by omega
  refine (back_walk a0 _ _ l1 l2 W (bounds_u64 w0).1 (bounds_u64 w0).2 hR1 hR2 hB1 hB2 hs1 hs2).mono fun e W' ⟨he, bel⟩ => ?_
  subst he
  exact ⟨_, rfl, _, _, _, [], _, [], hW', trodAll_mk1 (shut_bool Try.underlying4 _), (trodAll_cons_mk (shut_int Try.underlying28 w0) (trodAll_cons_mk (Below.trod laidOut (by kernel_rfl) (of_decide_eq_true (by kernel_rfl)) k1 bel lt1) (trodAll_cons_mk (Below.trod laidOut (by kernel_rfl) (of_decide_eq_true (by kernel_rfl)) k2 bel lt2) trodAll_mk0))), rfl, bel.frame _, fun h => by cases h⟩

set_option maxRecDepth 100000 in
theorem lifted (os : Os) (started : os.Started) (H : Type) (enc : TypeId × Value → H) (F : Stop.Interp) :
    ReturnsInHanded {} Try.checked os 6 .any ((Rows.OpenSpec.upto Rows.lebBackSpec).pre6 enc Try.prog Try.f6 Rows.lebBackUptoRow.domain false) (((Rows.OpenSpec.upto Rows.lebBackSpec).at F).post enc Try.prog Try.f6 false true false false) := by
  refine returnsInHanded_of_cond (C := Try.checked) (s := Rows.OpenSpec.upto Rows.lebBackSpec) (k := Rows.uptoSmall) rfl own started (by kernel_rfl) Try.func6
    (OpenSpec.witness (enc := enc) (C := Try.checked) (s := Rows.OpenSpec.upto Rows.lebBackSpec) (k := Rows.uptoSmall) rfl false ⟨#[], #[.int .u64 0, .slice none 0 0, .slice none 0 0], []⟩ 8 (by kernel_rfl) (by kernel_rfl) (by kernel_rfl)
      (x := ([.lit (.int .u64 0), .nil, .nil], [], [])) (by kernel_rfl) rfl (by kernel_rfl)) ?_
  intro W base args ds gs before hval hW _ hk _
  exact contract H enc W base args ds gs before hval hW hk

theorem over : Rows.lebBackUptoRow.holds Try.pinned (Rows.OpenSpec.upto Rows.lebBackSpec) :=
  OpenClaim.holds_of_cond 6 Try.f6 rfl rfl rfl rfl rfl rfl rfl ⟨rfl, rfl, rfl, rfl, rfl⟩ rfl rfl rfl rfl rfl (by kernel_rfl) Try.func6 (by kernel_rfl)
    (of_decide_eq_true (by kernel_rfl)) (by unfold Func.isWrapper; first | (rw [if_pos (by decide +kernel)]; kernel_rfl) | (rw [if_neg (by decide +kernel)]; exact ⟨rfl, rfl⟩))
    (fun os started H enc _ F => lifted os started H enc F)

end Go.Proofs.Ytpkccnoipbgnmaa.lebBack
namespace Go.Proofs.Ytpkccnoipbgnmaa
theorem lebBackUpto_holds : Rows.LebBackUptoSaid := lebBack.over
#print axioms lebBackUpto_holds
end Go.Proofs.Ytpkccnoipbgnmaa
