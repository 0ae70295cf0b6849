/-
  Proved: for every row of bytes FrameSplits returns true, and the argument reads as before: Split gives the document's sections, place and error, its answers are memory of their own, and what was handed in stays. No conditions.
-/
import Derived.Test.YtclamdpbdafmcaaArgs
import Derived.Test.YtclamdpbdafmcaaRefS
import Derived.Test.YtclamdpbdafmcaaSplitW
import Derived.Test.YtclamdpbdafmcaaSpoil
import Derived.Test.YtclamdpbdafmcaaKept
namespace Go.Proofs.Ytclamdpbdafmcaa
open Go.RowKit
set_option linter.unusedVariables false


theorem sgo_bd (l : List Int) (hb : Byt l) : ∀ (g a : Nat) (last : Int) (acc : List Sec), (sgo l g a last acc).1.length ≤ acc.length + g ∧ ∀ s ∈ (sgo l g a last acc).1, s ∈ acc ∨ s.data.length ≤ l.length := by
  intro g
  induction g with
  | zero => intro a last acc; simp only [sgo]; exact ⟨by omega, fun s hs => Or.inl hs⟩
  | succ g ih =>
    intro a last acc
    rw [sgo]
    split
    · rename_i ha
      cases hs : secAt l a last with
      | error x => obtain ⟨p, e⟩ := x; simp
      | ok x =>
        obtain ⟨s, a', last'⟩ := x
        simp only
        obtain ⟨h1, h2⟩ := ih a' last' (acc ++ [s])
        refine ⟨by simp at h1; omega, fun t ht => ?_⟩
        rcases h2 t ht with h | h
        · rcases List.mem_append.1 h with h | h
          · exact Or.inl h
          · simp at h
            subst h
            right
            rcases sec_cases l a last ha hb with ⟨_, e⟩ | ⟨_, ⟨n, q, e', _, _, e⟩ | ⟨n, N, Q, _, _, _, _, _, ⟨_, e⟩ | ⟨_, ⟨_, _, e⟩ | ⟨_, _, _, e⟩ | ⟨_, _, ⟨s', p', e', _, _, e⟩ | ⟨s', P, _, _, _, e⟩⟩⟩⟩⟩ <;> rw [e] at hs
            all_goals first
              | (simp only [Except.ok.injEq, Prod.mk.injEq] at hs; obtain ⟨rfl, _, _⟩ := hs; simp; omega)
              | (cases hs)
        · exact Or.inr h
    · exact ⟨by simp only; omega, fun s hs => Or.inl hs⟩
theorem split_bd (l : List Int) (hb : Byt l) : (split l).1.length ≤ 1048576 ∧ ∀ s ∈ (split l).1, s.data.length ≤ 1048576 := by
  unfold split
  split
  · simp
  · rename_i hl
    split
    · simp
    · obtain ⟨h1, h2⟩ := sgo_bd l hb (l.length - 8) 8 0 []
      refine ⟨by unfold sat; simp at h1; omega, fun s hs => ?_⟩
      rcases h2 s hs with h | h
      · simp at h
      · omega
theorem own_lt {B : Nat} {w : World} {v : Value} {L : List (Sec × Value)} (h : OwnS B w v L) {x : Sec × Value} (hx : x ∈ L) : ∀ k, x.2.ownBlock = some k → B ≤ k ∧ k < w.heap.size := fun k hk => (h.2.1 x hx).lt k hk
theorem OwnS.turnLt {base : Nat} {w w' : World} {v : Value} {L : List (Sec × Value)} {S : List Nat} (h : OwnS base w v L) (ht : Turn S w w') (hS : ∀ b ∈ S, b < base) : OwnS base w' v L := by
  have key : ∀ {e sz n : Nat} {v : Value} {xs : List Value}, w.ownsRow base e sz v n xs → w'.ownsRow base e sz v n xs := by
    intro e sz n v xs h
    obtain ⟨hl, ho⟩ := h
    refine ⟨hl, ?_⟩
    rcases ho with ho | ⟨g, cap, cur, rfl, hg, hh, h3⟩
    · exact Or.inl ho
    · exact Or.inr ⟨g, cap, cur, rfl, hg, ht.other hh (fun hm => by have := hS g hm; omega), h3⟩
  exact ⟨key h.1, fun x hx => key (h.2.1 x hx), h.2.2⟩
theorem refl_alike (L : List Sec) (pl : Bool) : ∀ (i : Nat) (s t : Sec), L[i]? = some s → L[i]? = some t → s.id = t.id ∧ s.name = t.name ∧ s.data = t.data ∧ (pl = true → s.at_ = t.at_) := by
  intro i s t h1 h2
  rw [h1] at h2
  simp at h2
  subst h2
  exact ⟨rfl, rfl, rfl, fun _ => rfl⟩
theorem grew_drewN (w : World) (n : Nat) : Grew w (w.drewN n) := (Grew.refl w).drewN n

set_option maxRecDepth 100000 in
set_option maxHeartbeats 4000000 in
theorem splits_walk (v : Value) (l : List Int) (w : World) (hR : Reads w v l) (hb : Byt l) (hlen : l.length ≤ 140737488351232) :
    Calls Try.prog 4 #[v] w fun e w' => e = .returned (.bool true) ∧ Below w.heap.size w w' := by
  obtain ⟨rS, hS⟩ : ∃ r, r = split l := ⟨_, rfl⟩
  obtain ⟨hbd1, hbd2⟩ := split_bd l hb
  rw [← hS] at hbd1 hbd2
  have BD1 : Hid (rS.1.length ≤ 1048576) := hbd1
  have BD2 : Hid (∀ s ∈ rS.1, s.data.length ≤ 1048576) := hbd2
  have HW := wide_any v l w hR hlen
  have HR : Hid (Reads w v l) := hR
  have HB : Hid (Byt l) := hb
  have ES : Hid (rS = split l) := hS
  obtain ⟨a, cap, rfl⟩ := hR.len
  clear hR hb hS hbd1 hbd2
  go_enter Try.func4, Try.ntmps4
  go_wp2_with fail
  refine HW.mono ?_
  rintro en w1 ⟨v1, rfl, hh⟩
  clear HW
  have HF := hh.reads
  obtain ⟨a1, c1, rfl⟩ := HF.len
  have hl9 : (l ++ wd 9).length = l.length + 9 := by rw [List.length_append, wd_len]
  obtain ⟨a2, c2, hsl, hr2⟩ := HF.to_ l.length (by omega)
  rw [hl9] at hsl
  rw [List.take_left' rfl] at hr2
  have G1 : Hid (Grew w w1) := hh.gr
  have H2 : Hid (Reads w1 (.slice a2 l.length c2) l) := hr2
  rw [hl9] at HF
  have H1 : Hid (Reads w1 (.slice a1 (l.length + 9) c1) (l ++ wd 9)) := HF
  clear hh HF hr2
  rw [hl9]
  go_wp2_with fail
  refine (split_any _ l _ H2.out HB.out hlen).mono ?_
  rw [← ES.out]
  rintro en w2 ⟨vs, L, rfl, hL, hO, g2⟩
  have G2 : Hid (Grew w1 w2) := g2
  have HL : Hid (L.map Prod.fst = rS.1) := hL
  have O2 : Hid (OwnS w1.heap.size w2 vs L) := hO
  have hlL : L.length ≤ 1048576 := by have := BD1.out; rw [← hL, List.length_map] at this; exact this
  clear g2 hL hO
  go_wp2_with fail
  refine (refSplit_any _ l _ ((G1.out.trans G2.out).reads HR.out) HB.out hlen).mono ?_
  rw [← ES.out]
  rintro en w3 ⟨vm, M, rfl, hM, hOM, g3⟩
  have G3 : Hid (Grew w2 w3) := g3
  have HM : Hid (M.map Prod.fst = rS.1) := hM
  have OM : Hid (OwnS w2.heap.size w3 vm M) := hOM
  clear g3 hM hOM
  go_wp2_with fail
  refine (alike_true vs vm rS.1 rS.1 true _ (by rw [← HL.out]; exact (O2.out.grew G3.out).rds (Nat.le_trans G2.out.2 G3.out.2)) (by rw [← HM.out]; exact OM.out.rds G3.out.2) rfl (by have := BD1.out; omega) (refl_alike _ _)).mono ?_
  rintro en w4 ⟨rfl, n4, rfl⟩
  go_wp2_with fail
  have G14 : Hid (Grew w1 (w3.drewN n4)) := (G2.out.trans G3.out).trans (grew_drewN _ _)
  refine (kept_true _ _ l _ (G14.out.reads H1.out) ((G1.out.trans G14.out).reads HR.out) hlen).mono ?_
  rintro en w5 ⟨rfl, g5⟩
  have G5 : Hid (Grew w3 w5) := (grew_drewN _ _).trans g5
  clear g5 G14
  obtain ⟨a3, c3, rfl⟩ := O2.out.form
  go_wp2_with fail
  go_loopw [10] (fun i wr => ∃ k : Nat, i = .int .i64 k ∧ k ≤ L.length ∧ wr.ownsRow w1.heap.size 45 4 (.slice a3 L.length c3) L.length (cellsS L) ∧ (∀ x ∈ L.drop k, wr.ownsRow w1.heap.size 5 1 x.2 x.1.data.length (U8 x.1.data)) ∧ OwnS w2.heap.size wr vm M ∧ Grew w1 wr ∧ w2.heap.size ≤ wr.heap.size) (fun i _ => L.length - (intOf i).toNat)
  case atStart =>
    have o5 := O2.out.grew (G3.out.trans G5.out)
    exact ⟨0, rfl, by omega, o5.1, fun x hx => o5.2.1 x (by simpa using hx), OM.out.grew G5.out, (G2.out.trans G3.out).trans G5.out, Nat.le_trans G3.out.2 G5.out.2⟩
  case round =>
    obtain ⟨k, rfl, hk, hrow, hds, hOm, hG, hw2⟩ := hrel
    have HROW : Hid (wr.ownsRow w1.heap.size 45 4 (.slice a3 L.length c3) L.length (cellsS L)) := hrow
    have HDS : Hid (∀ x ∈ L.drop k, wr.ownsRow w1.heap.size 5 1 x.2 x.1.data.length (U8 x.1.data)) := hds
    have HOM : Hid (OwnS w2.heap.size wr vm M) := hOm
    have HG : Hid (Grew w1 wr) := hG
    clear hrow hds hOm hG
    by_cases hlt : k < L.length
    · obtain ⟨x, hx⟩ : ∃ x, L[k]? = some x := ⟨_, List.getElem?_eq_getElem hlt⟩
      have hxm : x ∈ L := List.mem_of_getElem? hx
      have hdk : L.drop k = x :: L.drop (k + 1) := by
        rw [List.drop_eq_getElem_cons hlt]; congr 1; rw [List.getElem?_eq_getElem hlt] at hx; simpa using hx
      obtain ⟨g, rfl⟩ : ∃ g, a3 = some ⟨g, 0, none⟩ := by
        obtain ⟨_, ⟨e, h0⟩ | ⟨g, cap, cur, e, _⟩⟩ := id HROW.out
        · omega
        · injection e with e1 _ _; exact ⟨g, e1⟩
      have cd := HROW.out.cellAt (k * 4 + 2) (by omega)
      rw [cellsS_get L k 2 x hx (by omega)] at cd
      simp [secC] at cd
      have hox := HDS.out x (by rw [hdk]; simp)
      have hdl : x.1.data.length ≤ 1048576 := BD2.out x.1 (by rw [← HL.out]; exact List.mem_map_of_mem hxm)
      have csp := spoil_any w1.heap.size x.2 x.1.data wr hox HG.out.2 hdl
      obtain ⟨ax, cx, hvx⟩ : ∃ ax cx, x.2 = .slice ax x.1.data.length cx := by
        obtain ⟨_, ⟨e, h0⟩ | ⟨g', cap, cur, e, _⟩⟩ := id hox
        · exact ⟨none, 0, by rw [e, h0]⟩
        · exact ⟨_, _, e⟩
      have HX : Hid (L[k]? = some x) := hx
      have HDK : Hid (L.drop k = x :: L.drop (k + 1)) := hdk
      have HXM : Hid (x ∈ L) := hxm
      have HVX : Hid (x.2 = .slice ax x.1.data.length cx) := hvx
      have HOX : Hid (wr.ownsRow w1.heap.size 5 1 x.2 x.1.data.length (U8 x.1.data)) := hox
      obtain ⟨S, hSS⟩ : ∃ S, S = x.2.ownBlock.toList := ⟨_, rfl⟩
      rw [← hSS] at csp
      have HSS : Hid (S = x.2.ownBlock.toList) := hSS
      rw [hvx] at cd csp
      clear hx hdk hxm hox hvx hSS
      generalize x.1.data.length = dl at *
      go_wp2_with fail
      refine csp.mono ?_
      rintro en w6 ⟨rfl, t6⟩
      clear csp
      go_wp2_with fail
      have hSb : ∀ b ∈ S, x.2.ownBlock = some b := by
        intro b hb; rw [HSS.out] at hb; cases hq : x.2.ownBlock with
        | none => rw [hq] at hb; simp at hb
        | some z => rw [hq] at hb; simp at hb; rw [hb]
      go_roundw
      case rel =>
        refine ⟨k + 1, by go_num, by omega, ?_, ?_, ?_, ?_, Nat.le_trans hw2 t6.size⟩
        · refine row_turn HROW.out t6 (fun b hb cur hne => ?_)
          obtain ⟨_, ⟨e, h0⟩ | ⟨g', cap, cur', e, _, hh, _⟩⟩ := id HOX.out
          · have := hSb b hb; rw [e] at this; simp [Value.ownBlock] at this
          · have := hSb b hb; rw [e] at this; simp [Value.ownBlock] at this
            rw [← this, hh] at hne
            simp at hne
        · intro y hy
          have hyo := HDS.out y (by rw [HDK.out]; exact List.mem_cons_of_mem _ hy)
          have hp : x.2.ownBlock = none ∨ x.2.ownBlock ≠ y.2.ownBlock := by
            have hpw := O2.out.2.2
            rw [← List.take_append_drop k L, HDK.out, List.pairwise_append] at hpw
            exact (List.pairwise_cons.1 hpw.2.1).1 y hy
          refine own_turn hyo t6 (fun z hz hm => ?_)
          have := hSb z hm
          rcases hp with hp | hp
          · rw [hp] at this; cases this
          · exact hp (by rw [this, hz])
        · refine HOM.out.turnLt t6 (fun b hb => ?_)
          exact (own_lt O2.out HXM.out b (hSb b hb)).2
        · exact t6.grew HG.out (fun b hb => (own_lt O2.out HXM.out b (hSb b hb)).1)
      case measure => simp [intOf]; omega
    · go_wp2_with fail
      refine (split_any _ l _ (HG.out.reads H2.out) HB.out hlen).mono ?_
      rw [← ES.out]
      rintro en w7 ⟨vt, N, rfl, hN, hON, g7⟩
      have G7 : Hid (Grew wr w7) := g7
      have HN : Hid (N.map Prod.fst = rS.1) := hN
      have ON : Hid (OwnS wr.heap.size w7 vt N) := hON
      clear g7 hN hON
      go_wp2_with fail
      refine (kept_true _ _ l _ ((HG.out.trans G7.out).reads H1.out) ((G1.out.trans (HG.out.trans G7.out)).reads HR.out) hlen).mono ?_
      rintro en w8 ⟨rfl, g8⟩
      have G8 : Hid (Grew w7 w8) := g8
      clear g8
      go_wp2_with fail
      refine (alike_true vt vm rS.1 rS.1 true _ (by rw [← HN.out]; exact (ON.out.grew G8.out).rds (Nat.le_trans G7.out.2 G8.out.2)) (by rw [← HM.out]; exact (HOM.out.grew (G7.out.trans G8.out)).rds (by
        obtain ⟨_, _⟩ := G7.out
        have h1 := G8.out.2
        have h2 := HG.out.2
        have h3 : w2.heap.size ≤ wr.heap.size := hw2
        omega)) rfl (by have := BD1.out; omega) (refl_alike _ _)).mono ?_
      rintro en w9 ⟨rfl, n9, rfl⟩
      go_wp2_with fail
      go_ret
      exact ⟨by simp, (((G1.out.trans HG.out).trans (G7.out.trans G8.out)).trans (grew_drewN _ _)).1⟩
end Go.Proofs.Ytclamdpbdafmcaa
namespace Go.Proofs.Ytclamdpbdafmcaa.frameSplits
open Go.ChangeShapes Go.WideShapes Go.ChangeAt Go.RowKit
set_option linter.unusedVariables false

set_option maxRecDepth 100000 in
theorem lifted (os : Os) (started : os.Started) (H : Type) (enc : TypeId × Value → H) :
    ReturnsInHanded {} Try.checked os 4 .any (Rows.frameSplitsSpec.pre6 enc Try.prog Try.f4 Rows.frameSplitsRow.domain false) (Rows.frameSplitsSpec.post enc Try.prog Try.f4 false true false false) := by
  refine returnsInHanded_of_change_sized (C := Try.checked) own started (by kernel_rfl) Try.func4
    (ChangeSpec.witness6 (enc := enc) (C := Try.checked) false ⟨#[], #[.slice none 0 0], []⟩ 8 (by kernel_rfl) (by kernel_rfl) (by kernel_rfl) (by kernel_rfl)) ?_
  intro W base args ds gs before hval0 hW hcnd hsz0 _
  have hsz : (DataW.weightsEach Try.prog (Try.f4.params.toList ++ Rows.frameSplitsSpec.plain.varTypes Try.prog) (ds ++ gs)).all (· ≤ reachBytes) = true := hsz0
  clear hsz0
  have hval : ∀ (j : Nat) t v, Try.f4.params[j]? = some t → args[j]? = some v → Value.okWide Try.prog W .any base t v := hval0
  have hW' := hW
  obtain ⟨p, q, hA0, hV, rfl, hfz, hnd⟩ := hW
  have hA : DataW.TrodAll enc Try.prog W 0 (fun _ => true) true Try.f4.params.toList args.toList ds p := hA0
  rw [Try.params4] at hA hval hsz
  obtain ⟨v0, vs0, d0, ds0, p0, q0, hargs, rfl, rfl, h0, r0⟩ := trodAll_cons hA
  obtain ⟨rfl, rfl, rfl⟩ := trodAll_nil r0
  obtain rfl : args = #[v0] := by cases args; simp_all
  obtain ⟨rfl, rfl⟩ := trodVars_none hV
  obtain ⟨a0, len0, cap0, rfl⟩ := okWide_slice Try.underlying22 (hval 0 22 v0 rfl rfl)
  have k0 := h0
  have lt0 : ∀ x ∈ p0, x.block < W.heap.size := by obtain ⟨m, hm⟩ := k0; exact DataW.trod_lt m _ _ _ hm
  obtain ⟨l0, hl0, hR0, hB0, hd0⟩ := open_bytes h0
  have hs0 : l0.length ≤ 140737488351232 := by
    rcases hd0 with ⟨_, h⟩ | ⟨zs, hz, hle⟩
    · omega
    · rw [hl0]; exact reach_bytes (j := 0) hsz rfl (by rw [hz]; rfl) hle
  clear hA0 hval0
  refine (splits_walk _ l0 W hR0 hB0 hs0).mono fun e W' ⟨he, bel⟩ => ?_
  subst he
  exact ⟨_, rfl, _, _, _, [], _, [], hW', trodAll_mk1 (shut_bool Try.underlying4 _), (trodAll_cons_mk (Below.trod laidOut (by kernel_rfl) (of_decide_eq_true (by kernel_rfl)) k0 bel lt0) trodAll_mk0), rfl, bel.frame _, fun h => by cases h⟩

theorem over : Rows.frameSplitsRow.holds Try.pinned (OpenSpec.ofChange Rows.frameSplitsSpec) :=
  OpenClaim.holds_of_wide 4 Try.f4 rfl rfl rfl rfl rfl rfl rfl ⟨rfl, rfl, rfl, rfl, rfl⟩ rfl rfl rfl rfl rfl (by kernel_rfl) Try.func4 (by kernel_rfl)
    (of_decide_eq_true (by kernel_rfl)) (by unfold Func.isWrapper; first | (rw [if_pos (by decide +kernel)]; kernel_rfl) | (rw [if_neg (by decide +kernel)]; exact ⟨rfl, rfl⟩))
    (fun os started H enc _ => lifted os started H enc)

end Go.Proofs.Ytclamdpbdafmcaa.frameSplits
namespace Go.Proofs.Ytclamdpbdafmcaa
theorem frameSplits_holds : Rows.FrameSplitsSaid := frameSplits.over
#print axioms frameSplits_holds
end Go.Proofs.Ytclamdpbdafmcaa
