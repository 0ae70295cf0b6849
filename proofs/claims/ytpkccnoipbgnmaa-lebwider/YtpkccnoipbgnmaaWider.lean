/-
  Proved: for every row of bytes LebWider returns true, and the row reads as before: what U32 takes U64 takes as the same number, and what S32 takes S33 and S64 take. No conditions.
-/
import Derived.Test.YtpkccnoipbgnmaaArgs
import Derived.Test.YtpkccnoipbgnmaaPutU
import Derived.Test.YtpkccnoipbgnmaaWiderM
import Derived.Test.YtpkccnoipbgnmaaCopied
namespace Go.Proofs.Ytpkccnoipbgnmaa
open Go.RowKit
set_option linter.unusedVariables false

theorem narrow {n : Int} (h : (0 ≤ n ∧ n < 2147483648) ∨ (18446744071562067968 ≤ n ∧ n < 18446744073709551616)) : wrap64 n = wrap32 n := by unfold wrap64 wrap32; omega
theorem narrow_bd (n : Int) : -2147483648 ≤ wrap32 n ∧ wrap32 n ≤ 2147483647 := by unfold wrap32; omega
theorem ok0 {e : Int} (h : e = 0) : (e == 0) = true := beq_iff_eq.2 h
theorem no0 {e : Int} (h : ¬ e = 0) : (e == 0) = false := beq_eq_false_iff_ne.2 h

set_option maxRecDepth 100000 in
set_option maxHeartbeats 1000000 in
theorem wider_walk (v : Value) (l : List Int) (w : World) (hR : Reads w v l) (hb : Byt l) (hlen : l.length ≤ 140737488351232) :
    Calls Try.prog 8 #[v] w fun e w' => e = .returned (.bool true) ∧ Below w.heap.size w w' := by
  have B0 : Below w.heap.size w w := Below.refl _ _
  have S0 : w.heap.size ≤ w.heap.size := Nat.le_refl _
  have WU := wider_u hb
  have WS := wider_s hb
  obtain ⟨r1, e1⟩ : ∃ r, r = rd 32 false l 0 (l.length : Int) := ⟨_, rfl⟩
  obtain ⟨r2, e2⟩ : ∃ r, r = rd 64 false l 0 (l.length : Int) := ⟨_, rfl⟩
  obtain ⟨r3, e3⟩ : ∃ r, r = rd 32 true l 0 (l.length : Int) := ⟨_, rfl⟩
  obtain ⟨r4, e4⟩ : ∃ r, r = rd 33 true l 0 (l.length : Int) := ⟨_, rfl⟩
  obtain ⟨r5, e5⟩ : ∃ r, r = rd 64 true l 0 (l.length : Int) := ⟨_, rfl⟩
  rw [← e1, ← e2] at WU
  rw [← e3, ← e4, ← e5] at WS
  have hv := hR.len
  have HR : Hid (Reads w v l) := hR
  have HB : Hid (Byt l) := hb
  have H1 : Hid (r1 = rd 32 false l 0 (l.length : Int)) := e1
  have H2 : Hid (r2 = rd 64 false l 0 (l.length : Int)) := e2
  have H3 : Hid (r3 = rd 32 true l 0 (l.length : Int)) := e3
  have H4 : Hid (r4 = rd 33 true l 0 (l.length : Int)) := e4
  have H5 : Hid (r5 = rd 64 true l 0 (l.length : Int)) := e5
  have HWU : Hid (r1.2.2 = 0 → r2 = r1 ∧ 0 ≤ r1.1 ∧ r1.1 < 4294967296) := WU
  have HWS : Hid (r3.2.2 = 0 → r4 = r3 ∧ r5 = r3 ∧ ((0 ≤ r3.1 ∧ r3.1 < 2147483648) ∨ (18446744071562067968 ≤ r3.1 ∧ r3.1 < 18446744073709551616))) := WS
  obtain ⟨ad, cap, rfl⟩ := hv
  clear hR hb e1 e2 e3 e4 e5 WU WS
  go_enter Try.func8, Try.ntmps8
  go_wp2_with fail
  refine (putU_any 0 _ (by omega) (by omega)).mono ?_
  rintro e w1 ⟨v1, rfl, g1⟩
  obtain ⟨B1, S1⟩ := g1.step B0 S0
  obtain ⟨a1, c1, rfl⟩ := g1.reads.len
  rw [show (PU 0).length = 1 from rfl]
  clear g1
  go_wp2_with fail
  refine (u32_any _ l 0 (l.length : Int) _ (HR.out.below B1) HB.out hlen).mono ?_
  rw [← H1.out]
  by_cases hz : r1.2.2 = 0
  · obtain ⟨q1, q2, q3⟩ := HWU.out hz
    rw [Int.emod_eq_of_lt q2 q3]
    obtain ⟨t1, t2, t3⟩ := r1
    simp only at hz q2 q3 ⊢
    subst hz
    have t4 : t1 ≤ 4294967295 := by omega
    clear q3
    rintro e w1' ⟨rfl, rfl⟩
    go_wp2_with fail
    refine (u64_any _ l 0 (l.length : Int) _ (HR.out.below B1) HB.out hlen).mono ?_
    rw [← H2.out, q1]
    rintro e w1' ⟨rfl, rfl⟩
    clear q1 H1 H2 HWU
    go_wp2_with fail
    refine (s32_any _ l 0 (l.length : Int) _ (HR.out.below B1) HB.out hlen).mono ?_
    rw [← H3.out]
    by_cases hy : r3.2.2 = 0
    · obtain ⟨p1, p2, p3⟩ := HWS.out hy
      have y1 := ok0 hy
      have hn := narrow p3
      have hbd := narrow_bd r3.1
      have y2 : r3.2.2 = 0 := hy
      obtain ⟨s1, s2, s3⟩ := r3
      simp only at y2 hn hbd y1 ⊢
      subst y2
      obtain ⟨m, hm⟩ : ∃ m, m = wrap32 s1 := ⟨_, rfl⟩
      rw [← hm] at hn hbd
      rw [← hm]
      obtain ⟨m0, m1⟩ := hbd
      have HN : Hid (wrap64 s1 = m) := hn
      clear hm hn hy y1 p3
      rintro e w2' ⟨rfl, rfl⟩
      go_wp2_with fail
      refine (s33_any _ l 0 (l.length : Int) _ (HR.out.below B1) HB.out hlen).mono ?_
      rw [← H4.out, p1]
      simp only [HN.out]
      rintro e w2' ⟨rfl, rfl⟩
      go_wp2_with fail
      refine (s64_any _ l 0 (l.length : Int) _ (HR.out.below B1) HB.out hlen).mono ?_
      rw [← H5.out, p2]
      simp only [HN.out]
      rintro e w2' ⟨rfl, rfl⟩
      clear p1 p2 H3 H4 H5 HWS
      go_wp2_with fail
      go_ret
      exact ⟨by simp, B1⟩
    · have y1 := no0 hy
      rintro e w2' ⟨rfl, rfl⟩
      clear hy
      go_wp2_with fail
      go_ret
      exact ⟨by simp, B1⟩
  · have z1 := no0 hz
    rintro e w1' ⟨rfl, rfl⟩
    clear hz
    go_wp2_with fail
    refine (s32_any _ l 0 (l.length : Int) _ (HR.out.below B1) HB.out hlen).mono ?_
    rw [← H3.out]
    by_cases hy : r3.2.2 = 0
    · obtain ⟨p1, p2, p3⟩ := HWS.out hy
      have y1 := ok0 hy
      have hn := narrow p3
      have hbd := narrow_bd r3.1
      have y2 : r3.2.2 = 0 := hy
      obtain ⟨s1, s2, s3⟩ := r3
      simp only at y2 hn hbd y1 ⊢
      subst y2
      obtain ⟨m, hm⟩ : ∃ m, m = wrap32 s1 := ⟨_, rfl⟩
      rw [← hm] at hn hbd
      rw [← hm]
      obtain ⟨m0, m1⟩ := hbd
      have HN : Hid (wrap64 s1 = m) := hn
      clear hm hn hy y1 p3
      rintro e w2' ⟨rfl, rfl⟩
      go_wp2_with fail
      refine (s33_any _ l 0 (l.length : Int) _ (HR.out.below B1) HB.out hlen).mono ?_
      rw [← H4.out, p1]
      simp only [HN.out]
      rintro e w2' ⟨rfl, rfl⟩
      go_wp2_with fail
      refine (s64_any _ l 0 (l.length : Int) _ (HR.out.below B1) HB.out hlen).mono ?_
      rw [← H5.out, p2]
      simp only [HN.out]
      rintro e w2' ⟨rfl, rfl⟩
      clear p1 p2 H1 H2 H3 H4 H5 HWU HWS
      go_wp2_with fail
      go_ret
      exact ⟨by simp, B1⟩
    · have y1 := no0 hy
      rintro e w2' ⟨rfl, rfl⟩
      clear hy
      go_wp2_with fail
      go_ret
      exact ⟨by simp, B1⟩
end Go.Proofs.Ytpkccnoipbgnmaa
namespace Go.Proofs.Ytpkccnoipbgnmaa.lebWider
open Go.ChangeShapes Go.WideShapes Go.ChangeAt Go.RowKit
set_option linter.unusedVariables false

set_option maxRecDepth 100000 in
theorem lifted (os : Os) (started : os.Started) (H : Type) (enc : TypeId × Value → H) :
    ReturnsInHanded {} Try.checked os 8 .any (Rows.lebWiderSpec.pre6 enc Try.prog Try.f8 Rows.lebWiderRow.domain false) (Rows.lebWiderSpec.post enc Try.prog Try.f8 false true false false) := by
  refine returnsInHanded_of_change_sized (C := Try.checked) own started (by kernel_rfl) Try.func8
    (ChangeSpec.witness6 (enc := enc) (C := Try.checked) false ⟨#[], #[.slice none 0 0], []⟩ 8 (by kernel_rfl) (by kernel_rfl) (by kernel_rfl) (by kernel_rfl)) ?_
  intro W base args ds gs before hval0 hW hcnd hsz0 _
  have hsz : (DataW.weightsEach Try.prog (Try.f8.params.toList ++ Rows.lebWiderSpec.plain.varTypes Try.prog) (ds ++ gs)).all (· ≤ reachBytes) = true := hsz0
  clear hsz0
  have hval : ∀ (j : Nat) t v, Try.f8.params[j]? = some t → args[j]? = some v → Value.okWide Try.prog W .any base t v := hval0
  have hW' := hW
  obtain ⟨p, q, hA0, hV, rfl, hfz, hnd⟩ := hW
  have hA : DataW.TrodAll enc Try.prog W 0 (fun _ => true) true Try.f8.params.toList args.toList ds p := hA0
  rw [Try.params8] at hA hval hsz
  obtain ⟨v0, vs0, d0, ds0, p0, q0, hargs, rfl, rfl, h0, r0⟩ := trodAll_cons hA
  obtain ⟨rfl, rfl, rfl⟩ := trodAll_nil r0
  obtain rfl : args = #[v0] := by cases args; simp_all
  obtain ⟨rfl, rfl⟩ := trodVars_none hV
  obtain ⟨a0, len0, cap0, rfl⟩ := okWide_slice Try.underlying22 (hval 0 22 v0 rfl rfl)
  have k0 := h0
  have lt0 : ∀ x ∈ p0, x.block < W.heap.size := by obtain ⟨m, hm⟩ := k0; exact DataW.trod_lt m _ _ _ hm
  obtain ⟨l0, hl0, hR0, hB0, hd0⟩ := open_bytes h0
  have hs0 : l0.length ≤ 140737488351232 := by
    rcases hd0 with ⟨_, h⟩ | ⟨zs, hz, hle⟩
    · omega
    · rw [hl0]; exact reach_bytes (j := 0) hsz rfl (by rw [hz]; rfl) hle
  clear hA0 hval0
  refine (wider_walk _ l0 W hR0 hB0 hs0).mono fun e W' ⟨he, bel⟩ => ?_
  subst he
  exact ⟨_, rfl, _, _, _, [], _, [], hW', trodAll_mk1 (shut_bool Try.underlying4 _), (trodAll_cons_mk (Below.trod laidOut (by kernel_rfl) (of_decide_eq_true (by kernel_rfl)) k0 bel lt0) trodAll_mk0), rfl, bel.frame _, fun h => by cases h⟩

theorem over : Rows.lebWiderRow.holds Try.pinned (OpenSpec.ofChange Rows.lebWiderSpec) :=
  OpenClaim.holds_of_wide 8 Try.f8 rfl rfl rfl rfl rfl rfl rfl ⟨rfl, rfl, rfl, rfl, rfl⟩ rfl rfl rfl rfl rfl (by kernel_rfl) Try.func8 (by kernel_rfl)
    (of_decide_eq_true (by kernel_rfl)) (by unfold Func.isWrapper; first | (rw [if_pos (by decide +kernel)]; kernel_rfl) | (rw [if_neg (by decide +kernel)]; exact ⟨rfl, rfl⟩))
    (fun os started H enc _ => lifted os started H enc)

end Go.Proofs.Ytpkccnoipbgnmaa.lebWider
namespace Go.Proofs.Ytpkccnoipbgnmaa
theorem lebWider_holds : Rows.LebWiderSaid := lebWider.over
#print axioms lebWider_holds
end Go.Proofs.Ytpkccnoipbgnmaa
