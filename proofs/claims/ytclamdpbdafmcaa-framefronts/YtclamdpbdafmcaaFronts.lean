/-
  Proved: for every row of bytes and every place FrameFronts returns true, and the arguments read as before: a module that is cut off is one of fewer sections, those of the whole, or its bytes end early. No conditions.
-/
import Derived.Test.YtclamdpbdafmcaaArgs
import Derived.Test.YtclamdpbdafmcaaFrontM
import Derived.Test.YtclamdpbdafmcaaAlike
import Derived.Test.YtclamdpbdafmcaaAliveR
namespace Go.Proofs.Ytclamdpbdafmcaa
open Go.RowKit
set_option linter.unusedVariables false

theorem refl_alike' (L : List Sec) (pl : Bool) : ∀ (i : Nat) (s t : Sec), L[i]? = some s → L[i]? = some t → s.id = t.id ∧ s.name = t.name ∧ s.data = t.data ∧ (pl = true → s.at_ = t.at_) := by
  intro i s t h1 h2
  rw [h1] at h2
  cases h2
  exact ⟨rfl, rfl, rfl, fun _ => rfl⟩
theorem under37 : Try.prog.underlying 37 = some (.slice (Try.prog.elem 37)) := by kernel_rfl
theorem size37 (w : World) : (sizeOf (Try.prog.elem 37)).run Try.prog w = .ok 4 w := by kernel_rfl
/- The first sections of a row of sections. -/
theorem OwnS.to_ {base : Nat} {w : World} {v : Value} {L : List (Sec × Value)} (h : OwnS base w v L) (hb : base ≤ w.heap.size) (q : Nat) (hq : q ≤ L.length) :
    ∃ a c a' c', v = .slice a L.length c ∧ (∀ w', (Instr.slice 37 (.slice a L.length c) none (some (.int .i64 q)) none).run Try.prog w' = .ok (.slice a' q c') w') ∧ ∀ w', Grew w w' → RdS w' (.slice a' q c') ((L.map Prod.fst).take q) := by
  have hR := h.rds hb
  have key : ∀ (a : Option Addr) (c : Nat), L.length ≤ c → ∀ w', (Instr.slice 37 (.slice a L.length c) none (some (.int .i64 q)) none).run Try.prog w' = .ok (sliced a 0 q c 4) w' := by
    intro a c hc w'
    rw [run_slice_h w' 37 a L.length c under37 .i64 q (by omega) (by omega), size37, Int.toNat_natCast]
    rfl
  have hql : ((L.map Prod.fst).take q).length = q := by simp; omega
  obtain ⟨_, ⟨rfl, h0⟩ | ⟨g, cap, cur, rfl, hge, hh, hcap, _⟩⟩ := h.1
  · have hL := List.eq_nil_of_length_eq_zero h0
    subst hL
    obtain rfl : q = 0 := by simpa using hq
    exact ⟨none, 0, none, 0, rfl, fun w' => by rw [key none 0 (by simp)]; rfl, fun w' _ => ⟨none, 0, rfl, Or.inl rfl⟩⟩
  · refine ⟨some ⟨g, 0, none⟩, cap, some ⟨g, 0, none⟩, cap, rfl, fun w' => ?_, fun w' hg => ⟨some ⟨g, 0, none⟩, cap, by rw [hql], ?_⟩⟩
    · rw [key _ cap hcap]
      simp [sliced, Addr.add]
    · obtain ⟨a, c, hv, hs⟩ := hR.grew hg
      injection hv with hv1 hv2 hv3
      rcases hs with hs | ⟨b, off, ha, hs⟩
      · left; rw [hs]; simp
      · right
        refine ⟨b, off, by rw [hv1, ha], fun i s hi => hs i s ?_⟩
        rw [List.getElem?_take] at hi
        split at hi
        · exact hi
        · cases hi

theorem q0_drew {f : FuncId} {args : Array Value} {w : World} {x : Nat} {v : Value} (h : ∀ k, Calls Try.prog f args (w.drewN k) fun e w' => e = .returned v ∧ ∃ n, w' = (w.drewN k).drewN n) :
    Calls Try.prog f args (w.drewN x) fun e w'' => e = .returned v ∧ ∃ n, w'' = w.drewN n := (h x).mono fun _ _ ⟨he, n, hm⟩ => ⟨he, x + n, by rw [hm, World.drewN_drewN]⟩
set_option maxRecDepth 100000 in
set_option maxHeartbeats 2000000 in
theorem fronts_walk (v : Value) (l : List Int) (n : Int) (w : World) (hR : Reads w v l) (hb : Byt l) (hlen : l.length ≤ 140737488351232) :
    Calls Try.prog 7 #[v, .int .i64 n] w fun e w' => e = .returned (.bool true) ∧ Below w.heap.size w w' := by
  obtain ⟨S, p, e, hS⟩ : ∃ S p e, split l = (S, p, e) := ⟨_, _, _, rfl⟩
  have cs := fun w hR => split_any v l w hR hb hlen
  rw [hS] at cs
  have hcnt : S.length ≤ 1048576 := by have := split_count hb; rw [hS] at this; exact this
  have HC : Hid (∀ w, Reads w v l → Calls Try.prog 18 #[v] w fun en w' => ∃ vs L, en = .returned (.tuple #[vs, .int .i64 p, .int .i64 e]) ∧ L.map Prod.fst = S ∧ OwnS w.heap.size w' vs L ∧ Grew w w') := cs
  have HR : Hid (Reads w v l) := hR
  have HB : Hid (Byt l) := hb
  have ES : Hid (split l = (S, p, e)) := hS
  obtain ⟨a, cap, rfl⟩ := hR.len
  clear hR hb hS cs
  go_enter Try.func7, Try.ntmps7
  go_wp2_with fail
  refine (alive_any _).mono ?_
  rintro en w1 ⟨rfl, g1⟩
  have G1 : Hid (Grew w w1) := g1
  clear g1
  go_wp2_with fail
  refine (HC.out _ (G1.out.reads HR.out)).mono ?_
  rintro en w2 ⟨vs, L, rfl, hL, hO, g2⟩
  have G2 : Hid (Grew w1 w2) := g2
  have HL : Hid (L.map Prod.fst = S) := hL
  have O2 : Hid (OwnS w1.heap.size w2 vs L) := hO
  have hLS : Hid (L.length = S.length) := by show L.length = S.length; rw [← hL, List.length_map]
  clear g2 hL hO HC
  by_cases he : e = 0
  · subst he
    by_cases hn0 : n < 0
    · have d0 : decide (n < 0) = true := by simp; omega
      obtain ⟨a2, c2, rfl⟩ := O2.out.form
      go_wp2_with fail
      go_ret
      exact ⟨rfl, (G1.out.trans G2.out).1⟩
    · have d0 : decide (n < 0) = false := by simp; omega
      by_cases hn1 : (l.length : Int) ≤ n
      · have d1 : decide ((l.length : Int) ≤ n) = true := by simp; omega
        obtain ⟨a2, c2, rfl⟩ := O2.out.form
        go_wp2_with fail
        go_ret
        exact ⟨by simp <;> omega, (G1.out.trans G2.out).1⟩
      · have d1 : decide ((l.length : Int) ≤ n) = false := by simp; omega
        obtain ⟨N, rfl⟩ : ∃ N : Nat, n = N := ⟨n.toNat, by omega⟩
        have hN : N < l.length := by omega
        have hNl : (l.take N).length = N := by simp; omega
        obtain ⟨a1, c1, hsl, hr1⟩ := HR.out.to_ N (by omega)
        have hB1 := HB.out.take N
        have hf := split_front HB.out hN ES.out
        have cN := split_any _ (l.take N) w2 ((G1.out.trans G2.out).reads hr1) hB1 (by omega)
        rcases hf with hf | ⟨j, hj, hf⟩
        · rw [hf] at cN
          simp only at cN
          clear hr1 hB1 hf
          obtain ⟨a2, c2, rfl⟩ := O2.out.form
          go_wp2_with fail
          refine cN.mono ?_
          rintro en w3 ⟨vt, M, rfl, hM, hO3, g3⟩
          obtain rfl : M = [] := by simpa using hM
          obtain ⟨a3, c3, rfl⟩ := hO3.form
          have G3 : Hid (Grew w2 w3) := g3
          clear cN hM hO3 g3
          go_wp2_with fail
          go_ret
          exact ⟨by simp, ((G1.out.trans G2.out).trans G3.out).1⟩
        · rw [hf] at cN
          simp only at cN
          clear hr1 hB1 hf
          obtain ⟨a2, c2, a4, c4, rfl, hs4, hr4⟩ := O2.out.to_ G2.out.2 j (by have := hLS.out; omega)
          have H4 : Hid (∀ w', Grew w2 w' → RdS w' (.slice a4 j c4) ((L.map Prod.fst).take j)) := hr4
          clear hr4
          go_wp2_with fail
          refine cN.mono ?_
          rintro en w3 ⟨vt, M, rfl, hM, hO3, g3⟩
          have hMl : M.length = j := by have := congrArg List.length hM; simp at this; omega
          have G3 : Hid (Grew w2 w3) := g3
          have O3 : Hid (OwnS w2.heap.size w3 vt M) := hO3
          have HM : Hid (M.map Prod.fst = S.take j) := hM
          obtain ⟨a3, c3, rfl⟩ := hO3.form
          rw [hMl] at O3 ⊢
          clear cN hM hO3 g3
          have hjL : j < L.length := by have := hLS.out; omega
          have dj : decide ((j : Int) < L.length) = true := by simp; omega
          have hRM : Hid (RdS w3 (.slice a3 j c3) (S.take j)) := by
            have := O3.out.rds G3.out.2
            rw [HM.out] at this
            exact this
          have hRL : Hid (RdS w3 (.slice a4 j c4) (S.take j)) := by
            have := H4.out w3 G3.out
            rw [HL.out] at this
            exact this
          have HA : Hid (∀ k, Calls Try.prog 20 #[.slice a3 j c3, .slice a4 j c4, .bool true] (w3.drewN k) fun e w' => e = .returned (.bool true) ∧ ∃ n, w' = (w3.drewN k).drewN n) := fun k =>
            alike_true _ _ (S.take j) (S.take j) true _ (hRM.out.grew ((Grew.refl w3).drewN k)) (hRL.out.grew ((Grew.refl w3).drewN k)) rfl (by simp; omega) (refl_alike' _ _)
          clear hRM hRL O3 HM H4
          go_wp2_with fail
          refine (HA.out 0).mono ?_
          rintro en w4 ⟨rfl, n4, rfl⟩
          go_wp2_with fail
          go_ret
          exact ⟨by simp, ((((G1.out.trans G2.out).trans G3.out).drewN 0).drewN n4).1⟩
  · have he' : (e != 0) = true := by simpa using he
    obtain ⟨a2, c2, rfl⟩ := O2.out.form
    clear he
    go_wp2_with fail
    go_ret
    exact ⟨rfl, (G1.out.trans G2.out).1⟩
end Go.Proofs.Ytclamdpbdafmcaa
namespace Go.Proofs.Ytclamdpbdafmcaa.frameFronts
open Go.ChangeShapes Go.WideShapes Go.ChangeAt Go.RowKit
set_option linter.unusedVariables false

set_option maxRecDepth 100000 in
theorem lifted (os : Os) (started : os.Started) (H : Type) (enc : TypeId × Value → H) :
    ReturnsInHanded {} Try.checked os 7 .any (Rows.frameFrontsSpec.pre6 enc Try.prog Try.f7 Rows.frameFrontsRow.domain false) (Rows.frameFrontsSpec.post enc Try.prog Try.f7 false true false false) := by
  refine returnsInHanded_of_change_sized (C := Try.checked) own started (by kernel_rfl) Try.func7
    (ChangeSpec.witness6 (enc := enc) (C := Try.checked) false ⟨#[], #[.slice none 0 0, .int .i64 0], []⟩ 8 (by kernel_rfl) (by kernel_rfl) (by kernel_rfl) (by kernel_rfl)) ?_
  intro W base args ds gs before hval0 hW hcnd hsz0 _
  have hsz : (DataW.weightsEach Try.prog (Try.f7.params.toList ++ Rows.frameFrontsSpec.plain.varTypes Try.prog) (ds ++ gs)).all (· ≤ reachBytes) = true := hsz0
  clear hsz0
  have hval : ∀ (j : Nat) t v, Try.f7.params[j]? = some t → args[j]? = some v → Value.okWide Try.prog W .any base t v := hval0
  have hW' := hW
  obtain ⟨p, q, hA0, hV, rfl, hfz, hnd⟩ := hW
  have hA : DataW.TrodAll enc Try.prog W 0 (fun _ => true) true Try.f7.params.toList args.toList ds p := hA0
  rw [Try.params7] at hA hval hsz
  obtain ⟨v0, vs0, d0, ds0, p0, q0, hargs, rfl, rfl, h0, r0⟩ := trodAll_cons hA
  obtain ⟨v1, vs1, d1, ds1, p1, q1, rfl, rfl, rfl, h1, r1⟩ := trodAll_cons r0
  obtain ⟨rfl, rfl, rfl⟩ := trodAll_nil r1
  obtain rfl : args = #[v0, v1] := by cases args; simp_all
  obtain ⟨rfl, rfl⟩ := trodVars_none hV
  obtain ⟨a0, len0, cap0, rfl⟩ := okWide_slice Try.underlying22 (hval 0 22 v0 rfl rfl)
  have k0 := h0
  have lt0 : ∀ x ∈ p0, x.block < W.heap.size := by obtain ⟨m, hm⟩ := k0; exact DataW.trod_lt m _ _ _ hm
  obtain ⟨l0, hl0, hR0, hB0, hd0⟩ := open_bytes h0
  obtain ⟨a1, rfl, rfl, rfl, w1⟩ := open_int Try.underlying3 (hval 1 3 v1 rfl rfl) h1
  have hs0 : l0.length ≤ 140737488351232 := by
    rcases hd0 with ⟨_, h⟩ | ⟨zs, hz, hle⟩
    · omega
    · rw [hl0]; exact reach_bytes (j := 0) hsz rfl (by rw [hz]; rfl) hle
  clear hA0 hval0
  refine (fronts_walk _ l0 a1 W hR0 hB0 hs0).mono fun e W' ⟨he, bel⟩ => ?_
  subst he
  exact ⟨_, rfl, _, _, _, [], _, [], hW', trodAll_mk1 (shut_bool Try.underlying4 _), (trodAll_cons_mk (Below.trod laidOut (by kernel_rfl) (of_decide_eq_true (by kernel_rfl)) k0 bel lt0) (trodAll_cons_mk (shut_int Try.underlying3 w1) trodAll_mk0)), rfl, bel.frame _, fun h => by cases h⟩

theorem over : Rows.frameFrontsRow.holds Try.pinned (OpenSpec.ofChange Rows.frameFrontsSpec) :=
  OpenClaim.holds_of_wide 7 Try.f7 rfl rfl rfl rfl rfl rfl rfl ⟨rfl, rfl, rfl, rfl, rfl⟩ rfl rfl rfl rfl rfl (by kernel_rfl) Try.func7 (by kernel_rfl)
    (of_decide_eq_true (by kernel_rfl)) (by unfold Func.isWrapper; first | (rw [if_pos (by decide +kernel)]; kernel_rfl) | (rw [if_neg (by decide +kernel)]; exact ⟨rfl, rfl⟩))
    (fun os started H enc _ => lifted os started H enc)

end Go.Proofs.Ytclamdpbdafmcaa.frameFronts
namespace Go.Proofs.Ytclamdpbdafmcaa
theorem frameFronts_holds : Rows.FrameFrontsSaid := frameFronts.over
#print axioms frameFronts_holds
end Go.Proofs.Ytclamdpbdafmcaa
