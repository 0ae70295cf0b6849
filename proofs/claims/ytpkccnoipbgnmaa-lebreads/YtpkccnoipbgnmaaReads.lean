/-
  Proved: for every row of bytes and every two places LebReads returns true, and the arguments read as before: U32, U64, S32, S33, S64, F32 and F64 give the document's number, place and fault. No conditions.
-/
import Derived.Test.YtpkccnoipbgnmaaArgs
import Derived.Test.YtpkccnoipbgnmaaPutU
import Derived.Test.YtpkccnoipbgnmaaCopied
namespace Go.Proofs.Ytpkccnoipbgnmaa
open Go.RowKit
set_option linter.unusedVariables false

theorem fx_bd4 (l : List Int) (hr : Byt l) (x y : Int) : 0 ≤ (fx 4 l x y).1 ∧ (fx 4 l x y).1 ≤ 4294967295 := by
  unfold fx
  by_cases h : 0 ≤ x ∧ x ≤ y ∧ y ≤ l.length
  · rw [if_pos h]
    by_cases h2 : y - x < (4 : Nat)
    · rw [if_pos h2]; simp
    · rw [if_neg h2]
      have := gv_bd l hr x.toNat 4
      simp at this ⊢
      omega
  · rw [if_neg h]; simp
set_option maxRecDepth 100000 in
set_option maxHeartbeats 1000000 in
theorem floats_any (v : Value) (l : List Int) (x y : Int) (w : World) (hR : Reads w v l) (hb : Byt l) (hlen : l.length ≤ 140737488351232) :
    Calls Try.prog 16 #[v, .int .i64 x, .int .i64 y] w fun e w' => e = .returned (.bool true) ∧ Below w.heap.size w w' ∧ w.heap.size ≤ w'.heap.size := by
  have B0 : Below w.heap.size w w := Below.refl _ _
  have S0 : w.heap.size ≤ w.heap.size := Nat.le_refl _
  obtain ⟨r4, e4⟩ : ∃ r, r = fx 4 l x y := ⟨_, rfl⟩
  have b4 := fx_bd4 l hb x y
  rw [← e4] at b4
  obtain ⟨b40, b41⟩ := b4
  obtain ⟨r8, e8⟩ : ∃ r, r = fx 8 l x y := ⟨_, rfl⟩
  have hv := hR.len
  have HR : Hid (Reads w v l) := hR
  have HB : Hid (Byt l) := hb
  have H4 : Hid (r4 = fx 4 l x y) := e4
  have H8 : Hid (r8 = fx 8 l x y) := e8
  obtain ⟨ad, cap, rfl⟩ := hv
  clear hR hb e4 e8
  go_enter Try.func16, Try.ntmps16
  go_wp2_with fail
  refine (copied_any _ l _ HR.out hlen).mono ?_
  rintro e w1 ⟨v1, rfl, g1⟩
  obtain ⟨B1, S1⟩ := g1.step B0 S0
  go_wp2_with fail
  refine (f32_any v1 l x y _ g1.reads HB.out hlen).mono ?_
  rw [← H4.out]
  rintro e w1' ⟨rfl, rfl⟩
  go_wp2_with fail
  refine (fixed4_any _ l x y _ (HR.out.below B1) HB.out hlen).mono ?_
  rw [← H4.out]
  rintro e w1' ⟨rfl, rfl⟩

  go_wp2_with fail
  refine (copied_any _ l _ (HR.out.below B1) hlen).mono ?_
  rintro e w2 ⟨v2, rfl, g2⟩
  obtain ⟨B2, S2⟩ := g2.step B1 S1
  go_wp2_with fail
  refine (f64_any v2 l x y _ g2.reads HB.out hlen).mono ?_
  rw [← H8.out]
  rintro e w2' ⟨rfl, rfl⟩
  go_wp2_with fail
  refine (fixed8_any _ l x y _ (HR.out.below B2) HB.out hlen).mono ?_
  rw [← H8.out]
  rintro e w2' ⟨rfl, rfl⟩
  go_wp2_with fail
  go_ret
  exact ⟨by simp, B2, S2⟩

set_option maxRecDepth 100000 in
set_option maxHeartbeats 1000000 in
theorem reads_walk (v : Value) (l : List Int) (x y : Int) (w : World) (hR : Reads w v l) (hb : Byt l) (hlen : l.length ≤ 140737488351232) :
    Calls Try.prog 3 #[v, .int .i64 x, .int .i64 y] w fun e w' => e = .returned (.bool true) ∧ Below w.heap.size w w' := by
  have B0 : Below w.heap.size w w := Below.refl _ _
  have S0 : w.heap.size ≤ w.heap.size := Nat.le_refl _
  obtain ⟨r1, e1⟩ : ∃ r, r = rd 32 false l x y := ⟨_, rfl⟩
  obtain ⟨r2, e2⟩ : ∃ r, r = rd 64 false l x y := ⟨_, rfl⟩
  obtain ⟨r3, e3⟩ : ∃ r, r = rd 32 true l x y := ⟨_, rfl⟩
  obtain ⟨r4, e4⟩ : ∃ r, r = rd 33 true l x y := ⟨_, rfl⟩
  obtain ⟨r5, e5⟩ : ∃ r, r = rd 64 true l x y := ⟨_, rfl⟩
  have hv := hR.len
  have HR : Hid (Reads w v l) := hR
  have HB : Hid (Byt l) := hb
  have H1 : Hid (r1 = rd 32 false l x y) := e1
  have H2 : Hid (r2 = rd 64 false l x y) := e2
  have H3 : Hid (r3 = rd 32 true l x y) := e3
  have H4 : Hid (r4 = rd 33 true l x y) := e4
  have H5 : Hid (r5 = rd 64 true l x y) := e5
  obtain ⟨ad, cap, rfl⟩ := hv
  clear hR hb e1 e2 e3 e4 e5
  go_enter Try.func3, Try.ntmps3
  go_wp2_with fail
  refine (copied_any _ l _ (HR.out.below B0) hlen).mono ?_
  rintro e w1 ⟨v1, rfl, g1⟩
  obtain ⟨B1, S1⟩ := g1.step B0 S0
  go_wp2_with fail
  refine (u32_any v1 l x y _ g1.reads HB.out hlen).mono ?_
  rw [← H1.out]
  rintro e w1' ⟨rfl, rfl⟩
  go_wp2_with fail
  refine (num32u_any _ l x y _ (HR.out.below B1) HB.out hlen).mono ?_
  rw [← H1.out]
  rintro e w1' ⟨rfl, rfl⟩
  go_wp2_with fail
  refine (copied_any _ l _ (HR.out.below B1) hlen).mono ?_
  rintro e w2 ⟨v2, rfl, g2⟩
  obtain ⟨B2, S2⟩ := g2.step B1 S1
  go_wp2_with fail
  refine (u64_any v2 l x y _ g2.reads HB.out hlen).mono ?_
  rw [← H2.out]
  rintro e w2' ⟨rfl, rfl⟩
  go_wp2_with fail
  refine (num64u_any _ l x y _ (HR.out.below B2) HB.out hlen).mono ?_
  rw [← H2.out]
  rintro e w2' ⟨rfl, rfl⟩
  go_wp2_with fail
  refine (copied_any _ l _ (HR.out.below B2) hlen).mono ?_
  rintro e w3 ⟨v3, rfl, g3⟩
  obtain ⟨B3, S3⟩ := g3.step B2 S2
  go_wp2_with fail
  refine (s32_any v3 l x y _ g3.reads HB.out hlen).mono ?_
  rw [← H3.out]
  rintro e w3' ⟨rfl, rfl⟩
  go_wp2_with fail
  refine (num32s_any _ l x y _ (HR.out.below B3) HB.out hlen).mono ?_
  rw [← H3.out]
  rintro e w3' ⟨rfl, rfl⟩
  go_wp2_with fail
  refine (copied_any _ l _ (HR.out.below B3) hlen).mono ?_
  rintro e w4 ⟨v4, rfl, g4⟩
  obtain ⟨B4, S4⟩ := g4.step B3 S3
  go_wp2_with fail
  refine (s33_any v4 l x y _ g4.reads HB.out hlen).mono ?_
  rw [← H4.out]
  rintro e w4' ⟨rfl, rfl⟩
  go_wp2_with fail
  refine (num33s_any _ l x y _ (HR.out.below B4) HB.out hlen).mono ?_
  rw [← H4.out]
  rintro e w4' ⟨rfl, rfl⟩
  go_wp2_with fail
  refine (copied_any _ l _ (HR.out.below B4) hlen).mono ?_
  rintro e w5 ⟨v5, rfl, g5⟩
  obtain ⟨B5, S5⟩ := g5.step B4 S4
  go_wp2_with fail
  refine (s64_any v5 l x y _ g5.reads HB.out hlen).mono ?_
  rw [← H5.out]
  rintro e w5' ⟨rfl, rfl⟩
  go_wp2_with fail
  refine (num64s_any _ l x y _ (HR.out.below B5) HB.out hlen).mono ?_
  rw [← H5.out]
  rintro e w5' ⟨rfl, rfl⟩
  go_wp2_with fail
  refine (floats_any _ l x y _ (HR.out.below B5) HB.out hlen).mono ?_
  rintro e w6 ⟨rfl, f1, f2⟩
  have B6 := B5.trans (f1.mono S5)
  have S6 := Nat.le_trans S5 f2
  go_wp2_with fail
  refine (putU_any 0 _ (by omega) (by omega)).mono ?_
  rintro e w7 ⟨v7, rfl, g7⟩
  obtain ⟨B7, S7⟩ := g7.step B6 S6
  obtain ⟨a7, c7, rfl⟩ := g7.reads.len
  rw [show (PU 0).length = 1 from rfl]
  go_wp2_with fail
  go_ret
  exact ⟨by simp, B7⟩
end Go.Proofs.Ytpkccnoipbgnmaa
namespace Go.Proofs.Ytpkccnoipbgnmaa.lebReads
open Go.ChangeShapes Go.WideShapes Go.ChangeAt Go.RowKit
set_option linter.unusedVariables false

set_option maxRecDepth 100000 in
theorem lifted (os : Os) (started : os.Started) (H : Type) (enc : TypeId × Value → H) :
    ReturnsInHanded {} Try.checked os 3 .any (Rows.lebReadsSpec.pre6 enc Try.prog Try.f3 Rows.lebReadsRow.domain false) (Rows.lebReadsSpec.post enc Try.prog Try.f3 false true false false) := by
  refine returnsInHanded_of_change_sized (C := Try.checked) own started (by kernel_rfl) Try.func3
    (ChangeSpec.witness6 (enc := enc) (C := Try.checked) false ⟨#[], #[.slice none 0 0, .int .i64 0, .int .i64 0], []⟩ 8 (by kernel_rfl) (by kernel_rfl) (by kernel_rfl) (by kernel_rfl)) ?_
  intro W base args ds gs before hval0 hW hcnd hsz0 _
  have hsz : (DataW.weightsEach Try.prog (Try.f3.params.toList ++ Rows.lebReadsSpec.plain.varTypes Try.prog) (ds ++ gs)).all (· ≤ reachBytes) = true := hsz0
  clear hsz0
  have hval : ∀ (j : Nat) t v, Try.f3.params[j]? = some t → args[j]? = some v → Value.okWide Try.prog W .any base t v := hval0
  have hW' := hW
  obtain ⟨p, q, hA0, hV, rfl, hfz, hnd⟩ := hW
  have hA : DataW.TrodAll enc Try.prog W 0 (fun _ => true) true Try.f3.params.toList args.toList ds p := hA0
  rw [Try.params3] at hA hval hsz
  obtain ⟨v0, vs0, d0, ds0, p0, q0, hargs, rfl, rfl, h0, r0⟩ := trodAll_cons hA
  obtain ⟨v1, vs1, d1, ds1, p1, q1, rfl, rfl, rfl, h1, r1⟩ := trodAll_cons r0
  obtain ⟨v2, vs2, d2, ds2, p2, q2, rfl, rfl, rfl, h2, r2⟩ := trodAll_cons r1
  obtain ⟨rfl, rfl, rfl⟩ := trodAll_nil r2
  obtain rfl : args = #[v0, v1, v2] := by cases args; simp_all
  obtain ⟨rfl, rfl⟩ := trodVars_none hV
  obtain ⟨a0, len0, cap0, rfl⟩ := okWide_slice Try.underlying22 (hval 0 22 v0 rfl rfl)
  have k0 := h0
  have lt0 : ∀ x ∈ p0, x.block < W.heap.size := by obtain ⟨m, hm⟩ := k0; exact DataW.trod_lt m _ _ _ hm
  obtain ⟨l0, hl0, hR0, hB0, hd0⟩ := open_bytes h0
  obtain ⟨a1, rfl, rfl, rfl, w1⟩ := open_int Try.underlying3 (hval 1 3 v1 rfl rfl) h1
  obtain ⟨a2, rfl, rfl, rfl, w2⟩ := open_int Try.underlying3 (hval 2 3 v2 rfl rfl) h2
  have hs0 : l0.length ≤ 140737488351232 := by
    rcases hd0 with ⟨_, h⟩ | ⟨zs, hz, hle⟩
    · omega
    · rw [hl0]; exact reach_bytes (j := 0) hsz rfl (by rw [hz]; rfl) hle
  clear hA0 hval0
  refine (reads_walk _ l0 a1 a2 W hR0 hB0 hs0).mono fun e W' ⟨he, bel⟩ => ?_
  subst he
  exact ⟨_, rfl, _, _, _, [], _, [], hW', trodAll_mk1 (shut_bool Try.underlying4 _), (trodAll_cons_mk (Below.trod laidOut (by kernel_rfl) (of_decide_eq_true (by kernel_rfl)) k0 bel lt0) (trodAll_cons_mk (shut_int Try.underlying3 w1) (trodAll_cons_mk (shut_int Try.underlying3 w2) trodAll_mk0))), rfl, bel.frame _, fun h => by cases h⟩

theorem over : Rows.lebReadsRow.holds Try.pinned (OpenSpec.ofChange Rows.lebReadsSpec) :=
  OpenClaim.holds_of_wide 3 Try.f3 rfl rfl rfl rfl rfl rfl rfl ⟨rfl, rfl, rfl, rfl, rfl⟩ rfl rfl rfl rfl rfl (by kernel_rfl) Try.func3 (by kernel_rfl)
    (of_decide_eq_true (by kernel_rfl)) (by unfold Func.isWrapper; first | (rw [if_pos (by decide +kernel)]; kernel_rfl) | (rw [if_neg (by decide +kernel)]; exact ⟨rfl, rfl⟩))
    (fun os started H enc _ => lifted os started H enc)

end Go.Proofs.Ytpkccnoipbgnmaa.lebReads
namespace Go.Proofs.Ytpkccnoipbgnmaa
theorem lebReads_holds : Rows.LebReadsSaid := lebReads.over
#print axioms lebReads_holds
end Go.Proofs.Ytpkccnoipbgnmaa
