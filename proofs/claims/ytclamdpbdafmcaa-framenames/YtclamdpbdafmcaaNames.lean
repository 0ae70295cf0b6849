/-
  Proved: for every row of bytes, every place and every text FrameNames returns true, and the arguments read as before: Utf8, Name and PutName give the document's answers. No conditions.
-/
import Derived.Test.YtclamdpbdafmcaaArgs
import Derived.Test.YtclamdpbdafmcaaPutN
import Derived.Test.YtclamdpbdafmcaaRefN
namespace Go.Proofs.Ytclamdpbdafmcaa
open Go.RowKit
set_option linter.unusedVariables false

theorem kept_true (v1 v2 : Value) (l : List Int) (w : World) (h1 : Reads w v1 (l ++ wd 9)) (h2 : Reads w v2 l) (hlen : l.length ≤ 140737488351232) :
    Calls Try.prog 14 #[v1, v2] w fun e w' => e = .returned (.bool true) ∧ Grew w w' := by
  have c := wide_any v2 l w h2 hlen
  obtain ⟨L, hL⟩ : ∃ L, L = l ++ wd 9 := ⟨_, rfl⟩
  rw [← hL] at h1 c
  clear hL
  have HR : Hid (Reads w v1 L) := h1
  obtain ⟨a1, c1, rfl⟩ := h1.len
  obtain ⟨a2, c2, rfl⟩ := h2.len
  clear h1 h2
  go_enter Try.func14, Try.ntmps14
  go_wp2_with fail
  refine c.mono ?_
  rintro en w1 ⟨v, rfl, hh⟩
  clear c
  go_wp2_with fail
  refine (same_true _ _ _ _ (hh.grewW.reads HR.out) hh.reads).mono ?_
  rintro en w2 ⟨rfl, rfl⟩
  go_wp2_with fail
  go_ret
  exact ⟨rfl, hh.grewW⟩

set_option maxRecDepth 100000 in
set_option maxHeartbeats 2000000 in
theorem names_walk (v : Value) (l : List Int) (p : Int) (m : List Int) (w : World) (hR : Reads w v l) (hb : Byt l) (hlen : l.length ≤ 140737488351232) (hm : Byt m) (hml : m.length ≤ 140737488351232) :
    Calls Try.prog 3 #[v, .int .i64 p, .string (strOfNums m)] w fun e w' => e = .returned (.bool true) ∧ Below w.heap.size w w' := by
  obtain ⟨rU, hU⟩ : ∃ r, r = U l := ⟨_, rfl⟩
  obtain ⟨rN, hN⟩ : ∃ r, r = nm l p := ⟨_, rfl⟩
  obtain ⟨st, hst⟩ : ∃ s, s = strOfNums rN.1 := ⟨_, rfl⟩
  obtain ⟨sm, hsm⟩ : ∃ s, s = strOfNums m := ⟨_, rfl⟩
  obtain ⟨em, hem⟩ : ∃ s, s = nf m := ⟨_, rfl⟩
  have HW := wide_any v l w hR hlen
  have HR : Hid (Reads w v l) := hR
  have HB : Hid (Byt l) := hb
  have HM : Hid (Byt m) := hm
  have EU : Hid (rU = U l) := hU
  have EN : Hid (rN = nm l p) := hN
  have ES : Hid (st = strOfNums rN.1) := hst
  have EM : Hid (sm = strOfNums m) := hsm
  have EE : Hid (em = nf m) := hem
  rw [← hsm]
  obtain ⟨a, cap, rfl⟩ := hR.len
  clear hR hb hm hU hN hst hsm hem
  go_enter Try.func3, Try.ntmps3
  go_wp2_with fail
  refine HW.mono ?_
  rintro en w1 ⟨v1, rfl, hh⟩
  clear HW
  have HF := hh.reads
  obtain ⟨a1, c1, rfl⟩ := HF.len
  have hl9 : (l ++ wd 9).length = l.length + 9 := by rw [List.length_append, wd_len]
  obtain ⟨a2, c2, hsl, hr2⟩ := HF.to_ l.length (by omega)
  rw [hl9] at hsl
  rw [List.take_left' rfl] at hr2
  have G1 : Hid (Grew w w1) := hh.grewW
  have H2 : Hid (Reads w1 (.slice a2 l.length c2) l) := hr2
  rw [hl9] at HF
  have H1 : Hid (Reads w1 (.slice a1 (l.length + 9) c1) (l ++ wd 9)) := HF
  clear hh HF hr2
  rw [hl9]
  go_wp2_with fail
  refine (utf8_any _ l _ H2.out HB.out hlen).mono ?_
  rw [← EU.out]
  rintro en w2 ⟨rfl, g2⟩
  have G2 : Hid (Grew w1 w2) := g2
  clear g2
  go_wp2_with fail
  refine (refU_any _ l _ ((G1.out.trans G2.out).reads HR.out) HB.out hlen).mono ?_
  rw [← EU.out]
  rintro en w3 ⟨rfl, g3⟩
  have G3 : Hid (Grew w1 w3) := G2.out.trans g3
  clear g3
  go_wp2_with fail
  refine (Name_any _ l p _ (G3.out.reads H2.out) HB.out hlen).mono ?_
  rw [← EN.out, ← ES.out]
  rintro en w4 ⟨rfl, g4⟩
  have G4 : Hid (Grew w1 w4) := G3.out.trans g4
  clear g4
  go_wp2_with fail
  refine (refName_any _ l p _ ((G1.out.trans G4.out).reads HR.out) HB.out hlen).mono ?_
  rw [← EN.out, ← ES.out]
  rintro en w5 ⟨rfl, g5⟩
  have G5 : Hid (Grew w1 w5) := G4.out.trans g5
  clear g5
  go_wp2_with fail
  refine (kept_true _ _ l _ (G5.out.reads H1.out) ((G1.out.trans G5.out).reads HR.out) hlen).mono ?_
  rintro en w6 ⟨rfl, g6⟩
  have G6 : Hid (Grew w1 w6) := G5.out.trans g6
  clear g6
  go_wp2_with fail
  rw [EM.out]
  refine (putName_any m _ HM.out hml).mono ?_
  rw [← EE.out, ← EM.out]
  rintro en w7 ⟨x7, rfl, r7, g7⟩
  have G7 : Hid (Grew w1 w7) := G6.out.trans g7
  have R7 : Hid (Reads w7 x7 (pn m)) := r7
  obtain ⟨a7, c7, rfl⟩ := r7.len
  clear g7 r7
  go_wp2_with fail
  rw [EM.out]
  refine (refPutName_any m _ HM.out hml).mono ?_
  rw [← EE.out, ← EM.out]
  rintro en w8 ⟨x8, rfl, r8, g8⟩
  have G8 : Hid (Grew w1 w8) := G7.out.trans g8
  have G78 : Hid (Grew w7 w8) := g8
  have R8 : Hid (Reads w8 x8 (pn m)) := r8
  obtain ⟨a8, c8, rfl⟩ := r8.len
  clear g8 r8
  go_wp2_with fail
  refine (same_true _ _ (pn m) _ (G78.out.reads R7.out) R8.out).mono ?_
  rintro en w9 ⟨rfl, rfl⟩
  go_wp2_with fail
  go_ret
  exact ⟨by simp, (G1.out.trans G8.out).1⟩
end Go.Proofs.Ytclamdpbdafmcaa
namespace Go.Proofs.Ytclamdpbdafmcaa.frameNames
open Go.ChangeShapes Go.WideShapes Go.ChangeAt Go.RowKit
set_option linter.unusedVariables false

set_option maxRecDepth 100000 in
theorem lifted (os : Os) (started : os.Started) (H : Type) (enc : TypeId × Value → H) :
    ReturnsInHanded {} Try.checked os 3 .any (Rows.frameNamesSpec.pre6 enc Try.prog Try.f3 Rows.frameNamesRow.domain false) (Rows.frameNamesSpec.post enc Try.prog Try.f3 false true false false) := by
  refine returnsInHanded_of_change_sized (C := Try.checked) own started (by kernel_rfl) Try.func3
    (ChangeSpec.witness6 (enc := enc) (C := Try.checked) false ⟨#[], #[.slice none 0 0, .int .i64 0, .string ⟨#[]⟩], []⟩ 8 (by kernel_rfl) (by kernel_rfl) (by kernel_rfl) (by kernel_rfl)) ?_
  intro W base args ds gs before hval0 hW hcnd hsz0 _
  have hsz : (DataW.weightsEach Try.prog (Try.f3.params.toList ++ Rows.frameNamesSpec.plain.varTypes Try.prog) (ds ++ gs)).all (· ≤ reachBytes) = true := hsz0
  clear hsz0
  have hval : ∀ (j : Nat) t v, Try.f3.params[j]? = some t → args[j]? = some v → Value.okWide Try.prog W .any base t v := hval0
  have hW' := hW
  obtain ⟨p, q, hA0, hV, rfl, hfz, hnd⟩ := hW
  have hA : DataW.TrodAll enc Try.prog W 0 (fun _ => true) true Try.f3.params.toList args.toList ds p := hA0
  rw [Try.params3] at hA hval hsz
  obtain ⟨v0, vs0, d0, ds0, p0, q0, hargs, rfl, rfl, h0, r0⟩ := trodAll_cons hA
  obtain ⟨v1, vs1, d1, ds1, p1, q1, rfl, rfl, rfl, h1, r1⟩ := trodAll_cons r0
  obtain ⟨v2, vs2, d2, ds2, p2, q2, rfl, rfl, rfl, h2, r2⟩ := trodAll_cons r1
  obtain ⟨rfl, rfl, rfl⟩ := trodAll_nil r2
  obtain rfl : args = #[v0, v1, v2] := by cases args; simp_all
  obtain ⟨rfl, rfl⟩ := trodVars_none hV
  obtain ⟨a0, len0, cap0, rfl⟩ := okWide_slice Try.underlying22 (hval 0 22 v0 rfl rfl)
  have k0 := h0
  have lt0 : ∀ x ∈ p0, x.block < W.heap.size := by obtain ⟨m, hm⟩ := k0; exact DataW.trod_lt m _ _ _ hm
  obtain ⟨l0, hl0, hR0, hB0, hd0⟩ := open_bytes h0
  obtain ⟨a1, rfl, rfl, rfl, w1⟩ := open_int Try.underlying3 (hval 1 3 v1 rfl rfl) h1
  obtain ⟨s2, rfl, rfl, rfl, ws2⟩ := Go.ChangeMaps.open_string Try.underlying9 (hval 2 9 v2 rfl rfl) h2
  have hs0 : l0.length ≤ 140737488351232 := by
    rcases hd0 with ⟨_, h⟩ | ⟨zs, hz, hle⟩
    · omega
    · rw [hl0]; exact reach_bytes (j := 0) hsz rfl (by rw [hz]; rfl) hle
  have hs2 : s2.size ≤ 140737488351232 := reach_str (j := 2) hsz rfl rfl
  obtain ⟨m2, rfl, hB2, hm2⟩ := str_is s2
  clear hA0 hval0
  refine (names_walk _ l0 a1 m2 W hR0 hB0 hs0 hB2 (by omega)).mono fun e W' ⟨he, bel⟩ => ?_
  subst he
  exact ⟨_, rfl, _, _, _, [], _, [], hW', trodAll_mk1 (shut_bool Try.underlying4 _), (trodAll_cons_mk (Below.trod laidOut (by kernel_rfl) (of_decide_eq_true (by kernel_rfl)) k0 bel lt0) (trodAll_cons_mk (shut_int Try.underlying3 w1) (trodAll_cons_mk (Go.ChangeMaps.shut_string Try.underlying9 ws2) trodAll_mk0))), rfl, bel.frame _, fun h => by cases h⟩

theorem over : Rows.frameNamesRow.holds Try.pinned (OpenSpec.ofChange Rows.frameNamesSpec) :=
  OpenClaim.holds_of_wide 3 Try.f3 rfl rfl rfl rfl rfl rfl rfl ⟨rfl, rfl, rfl, rfl, rfl⟩ rfl rfl rfl rfl rfl (by kernel_rfl) Try.func3 (by kernel_rfl)
    (of_decide_eq_true (by kernel_rfl)) (by unfold Func.isWrapper; first | (rw [if_pos (by decide +kernel)]; kernel_rfl) | (rw [if_neg (by decide +kernel)]; exact ⟨rfl, rfl⟩))
    (fun os started H enc _ => lifted os started H enc)

end Go.Proofs.Ytclamdpbdafmcaa.frameNames
namespace Go.Proofs.Ytclamdpbdafmcaa
theorem frameNames_holds : Rows.FrameNamesSaid := frameNames.over
#print axioms frameNames_holds
end Go.Proofs.Ytclamdpbdafmcaa
