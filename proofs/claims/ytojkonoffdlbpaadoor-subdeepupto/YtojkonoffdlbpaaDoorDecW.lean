/-
  Sub's Decl; no statement is proved here.
-/
import Derived.Test.YtojkonoffdlbpaaDoorDepO
namespace Go.Proofs.YtojkonoffdlbpaaDoor
open Go.RowKit
set_option linter.unusedVariables false
set_option linter.unusedSimpArgs false

/- The depths told so far. -/
def DR (dg N : Nat) (A : World) : Prop := ∃ cur, A.heap[dg]? = some (.cells cur 3 (0, 0)) ∧ ∀ i < N, ∃ d : Int, cur[i]? = some (.int .i64 d) ∧ 0 ≤ d ∧ d ≤ 63
/- The ids do not lie there. -/
def NB (ob dg : Nat) (A : World) : Prop := ∀ v tv iv, A.heap[ob]? = some (oobj v tv iv) → iv.ownBlock ≠ some dg
theorem NB.mv {ob dg : Nat} {A B : World} (h : NB ob dg A) (k : MV ob A B) {v tv iv : Value} (ho : A.heap[ob]? = some (oobj v tv iv)) (hd : dg < A.heap.size) : NB ob dg B :=
  fun v' tv' iv' h2 h3 => h v tv iv ho (k.n _ _ _ _ _ _ dg ho h2 h3 hd)
theorem OW.setI {ob q : Nat} {L : List RT} {w A : World} (h : OW ob L w A) {cs : Array Value} {f : Nat × Nat} (hq : A.heap[q]? = some (.cells cs 3 f)) (hn : NB ob q A) (h3 : q ≠ ob) (h4 : w.heap.size ≤ q) (j : Nat) (u : Value) : OW ob L w (A.setCell ⟨q, j, none⟩ u) := by
  obtain ⟨v, tv, iv, e1, e2, ⟨ps, p1, p2, p3⟩, e4⟩ := h.o
  exact ⟨h.fit, h.cl, h.tab, h.g.set h4 _, h.lo, v, tv, iv, heap_other e1 (fun e => h3 e.symm) _, e2, ⟨ps, p1, row_set p2 (NoT.of hq (by decide)) _, p3⟩, e4.imp id (fun e4 => row_same e4 (fun g hg => Below.heap_setCell _ _ _ _ (fun e => hn v tv iv e1 (by rw [hg]; exact congrArg some e))))⟩
theorem DR.cell {dg N i : Nat} {A : World} (h : DR dg N A) (hi : i < N) : ∃ d : Int, A.cell? ⟨dg, i, none⟩ = some (.int .i64 d) ∧ 0 ≤ d ∧ d ≤ 63 := by
  obtain ⟨cur, h1, h2⟩ := h
  obtain ⟨d, h3, h4⟩ := h2 i hi
  exact ⟨d, by rw [cell_of h1]; exact h3, h4⟩
theorem DR.set {dg N i : Nat} {A : World} (h : DR dg N A) (hi : i < N) {d : Int} (h0 : 0 ≤ d) (h1 : d ≤ 63) : DR dg N (A.setCell ⟨dg, i, none⟩ (.int .i64 d)) := by
  obtain ⟨cur, h2, h3⟩ := h
  refine ⟨_, heap_set h2 i _, fun j hj => ?_⟩
  by_cases e : i = j
  · subst e
    obtain ⟨d', h4, _⟩ := h3 i hi
    have hlt := (Array.getElem?_eq_some_iff.1 h4).1
    exact ⟨d, by rw [Array.getElem?_setIfInBounds_self_of_lt hlt], h0, h1⟩
  · obtain ⟨d', h4, h5⟩ := h3 j hj
    exact ⟨d', by rw [Array.getElem?_setIfInBounds_ne e]; exact h4, h5⟩
theorem DR.mv {ob dg N : Nat} {A B : World} (h : DR dg N A) (k : MV ob A B) (hne : dg ≠ ob) : DR dg N B := by
  obtain ⟨cur, h1, h2⟩ := h
  exact ⟨cur, k.ob hne h1, h2⟩
theorem depth_any {ob n dg dc : Nat} {L : List RT} {w W : World} {x : SB} (hO : OW ob L w W) (hx : (flatT L)[n]? = some x) (hdc : (flatT L).length ≤ dc) (hD : DR dg (flatT L).length W) (hdg : dg ≠ ob) :
    Calls Tryd.prog 12 #[.pointer (some ⟨ob, 0, none⟩), .int .i64 (n : Int), .slice (some ⟨dg, 0, none⟩) (flatT L).length dc] W fun en w' => ∃ d' e : Int, en = .returned (.tuple #[.int .i64 d', .int .i64 e]) ∧ 0 ≤ d' ∧ d' ≤ 63 ∧ (e = 0 → DeclOk L n x) ∧ OW ob L w w' ∧ MV ob W w' := by
  match hs : x.supers with
  | [] =>
    refine (depth_nil hO hx hs ⟨_, _, _, rfl⟩).mono ?_
    rintro en w' ⟨rfl, g⟩
    exact ⟨0, 0, rfl, by omega, by omega, fun _ => Or.inl hs, hO.grew g, g.mv ob⟩
  | [s] =>
    have hsp : supI L n = some s := by unfold supI; rw [hx]; simp [hs]
    obtain ⟨m, rfl, hm⟩ := closed_sup hO.cl hsp
    by_cases hlt : m < n
    · obtain ⟨up, hup⟩ : ∃ up, (flatT L)[m]? = some up := ⟨_, List.getElem?_eq_getElem hm⟩
      obtain ⟨d, c1, c2, c3⟩ := hD.cell hm
      refine (depth_one hO hx hs hlt hup hdc c1 c2 c3 hdg).mono ?_
      rintro en w' ⟨d', e, rfl, h1, h2, h3, h4⟩
      exact ⟨d', e, rfl, h1, h2, fun he => Or.inr ⟨m, up, hs, hlt, hup, (h3 he).1, (h3 he).2⟩, h4⟩
    · refine (depth_big hO hx (by rw [hs]; simp) ⟨_, _, _, rfl⟩ ⟨(m : Int), by rw [hs]; simp, by omega⟩).mono ?_
      rintro en w' ⟨rfl, g⟩
      exact ⟨0, 50, rfl, by omega, by omega, (fun h => absurd h (by decide)), hO.grew g, g.mv ob⟩
  | s :: s' :: l =>
    refine (depth_two hO hx (by rw [hs]; simp) ⟨_, _, _, rfl⟩).mono ?_
    rintro en w' ⟨⟨e, rfl, he⟩, g⟩
    exact ⟨0, e, rfl, by omega, by omega, (fun h => absurd h he), hO.grew g, g.mv ob⟩
/- The frame of Decl's loop. -/
structure DF (ob dg : Nat) (L : List RT) (w w1 : World) (i : Nat) (A : World) : Prop where
  o : OW ob L w1 A
  g : Grew w A
  d : DR dg (flatT L).length A
  nb : NB ob dg A
  ok : ∀ j < i, ∀ x, (flatT L)[j]? = some x → DeclOk L j x
set_option maxRecDepth 100000 in
set_option maxHeartbeats 2000000 in
theorem decl_any {w : World} {v : Value} {L : List RT} (h : LR w v L) (hf : Fit L) (ht : Tab w) :
    Calls Tryd.prog 4 #[v] w fun en w' => ∃ n e : Int, en = .returned (.tuple #[.int .i64 n, .int .i64 e]) ∧ Grew w w' ∧ (e = 0 → closedP 0 L = true ∧ ∀ j x, (flatT L)[j]? = some x → DeclOk L j x) := by
  obtain ⟨va, vc, ev, _⟩ := h.one
  subst ev
  cases hc : closedP 0 L with
  | false =>
    have C : Hid (Calls Tryd.prog 10 #[.slice va L.length vc] w fun en w' => ∃ p : Int, en = .returned (.tuple #[.int .i64 p, .int .i64 50]) ∧ Grew w w') := by
      have := closed_any h hf.sml
      rw [hc] at this
      exact this
    clear h hf hc ht
    go_enter Tryd.func4, Tryd.ntmps4
    go_wp2_with fail
    refine C.out.mono ?_
    rintro en w1 ⟨p, rfl, g1⟩
    have G1 : Hid (Grew w w1) := g1
    clear g1 C
    go_wp2_with fail
    go_ret2
    exact ⟨p, 50, rfl, G1.out, (fun h => absurd h (by decide))⟩
  | true =>
    have C : Hid (Calls Tryd.prog 10 #[.slice va L.length vc] w fun en w' => ∃ p : Int, en = .returned (.tuple #[.int .i64 p, .int .i64 0]) ∧ Grew w w') := by
      have := closed_any h hf.sml
      rw [hc] at this
      exact this
    have CN : Hid (∀ X, Grew w X → Calls Tryd.prog 11 #[.slice va L.length vc] X fun en w' => ∃ ob a cap, en = .returned (.pointer (some ⟨ob, 0, none⟩)) ∧ w'.heap[ob]? = some (oobj (.slice va L.length vc) (.slice a (flatT L).length cap) NILS) ∧ OW ob L X w' ∧ Grew w w') := fun X g => by
      refine (newOrder_any (h.grew g) hf).mono ?_
      rintro en w' ⟨ob, tv, e, h1, h2, h3, g'⟩
      obtain ⟨ps, p1, p2, p3⟩ := h3
      obtain ⟨a, cap, rfl, _⟩ := row_max p2
      exact ⟨ob, a, cap, e, h2, ⟨hf, hc, ht.grew g, g', h1, _, _, _, h2, h.grew g, ⟨ps, p1, p2, p3⟩, Or.inl rfl⟩, g.trans g'⟩
    have hN : (flatT L).length ≤ 1048576 := by rw [flat_cnt]; exact hf.sml.2.1
    clear h hf hc ht
    go_enter Tryd.func4, Tryd.ntmps4
    go_wp2_with fail
    refine C.out.mono ?_
    rintro en w1 ⟨p, rfl, g1⟩
    have G1 : Hid (Grew w w1) := g1
    have HW : Hid (w.heap.size ≤ w1.heap.size) := g1.2
    clear g1 C
    go_wp2_with fail
    refine (CN.out w1 G1.out).mono ?_
    rintro en w2 ⟨ob, ta, tcap, rfl, h2, hO, g2⟩
    have K2 : Hid (OW ob L w1 w2 ∧ Grew w w2 ∧ w2.heap[ob]? = some (oobj (.slice va L.length vc) (.slice ta (flatT L).length tcap) NILS)) := ⟨hO, g2, h2⟩
    have o1 := cell_of h2 1
    simp at o1
    clear h2 hO g2 CN G1
    obtain ⟨N, hNN⟩ : ∃ N, N = (flatT L).length := ⟨_, rfl⟩
    rw [← hNN] at o1 hN
    have HN : Hid (N = (flatT L).length) := hNN
    clear hNN
    obtain ⟨i0, hi0, hz0, hz1, hz2⟩ := info_parts infoI
    go_wp2_with (at_make; refine wpList_make_full _ rfl _ _ 26 rfl w2.heap.size 3 i0 (.int .i64 0) 1 Tryd.underlying26 hi0 hz0 hz1 .i64 .i64 _ _ N rfl rfl rfl rfl (by rw [hz2]; omega) (by unfold maxLen; omega) (Nat.le_refl _) ?_; intro w3 hown hgr; have g3 : Grew w2 w3 := ⟨⟨hgr.os, hgr.tape, hgr.output, hgr.size, fun k hk => hgr.block k hk (fun e => by cases e)⟩, hgr.size⟩; have o3 := cell_grew o1 g3)
    have K3 : Hid (DF ob w2.heap.size L w w1 0 w3) := by
      have A3 := g3.other K2.out.2.2
      refine (⟨K2.out.1.grew g3, K2.out.2.1.trans g3, ?_, ?_, fun j hj => absurd hj (Nat.not_lt_zero j)⟩ : DF ob w2.heap.size L w w1 0 w3)
      · rw [← HN.out]
        have hown' := hown
        obtain ⟨_, ⟨hv0, h0⟩ | ⟨g, cap, cur, hv, hB, hg, _⟩⟩ := hown'
        · injection hv0 with hv0 _ _
          cases hv0
        · injection hv with hv _ _
          injection hv with hv
          injection hv with hv _ _
          subst hv
          refine ⟨cur, hg, fun i hi => ⟨0, ?_, by omega, by omega⟩⟩
          have := hown.cellAt i (by omega)
          rw [cell_of hg] at this
          rw [this]
          show (madeCells #[Value.int .i64 0] (N * 1)).toList[i]? = _
          rw [toList_madeCells_one, List.getElem?_replicate, if_pos (by omega)]
      · intro v tv iv h1 h2
        rw [A3] at h1
        obtain ⟨_, _, rfl⟩ := oobj_inj h1
        cases h2
    have hdg : w2.heap.size ≠ ob := by have := lt_of_obj K2.out.2.2; omega
    have hlo : w1.heap.size ≤ w2.heap.size := K2.out.1.g.2
    have hwd : w.heap.size ≤ w2.heap.size := K2.out.2.1.2
    clear g3 hown hgr K2 o1 o3 hi0 hz0 hz1 hz2
    generalize w2.heap.size = dg at *
    go_loopw [33] (fun i_ A => ∃ i : Nat, i_ = .int .i64 i ∧ i ≤ N ∧ Hid (DF ob dg L w w1 i A)) (fun i_ _ => N - (intOf i_).toNat)
    case atStart => exact ⟨0, rfl, Nat.zero_le _, K3⟩
    case round =>
      clear K3
      obtain ⟨i, rfl, hi, K⟩ := hrel
      obtain ⟨A, hA⟩ : ∃ A, A = wr := ⟨_, rfl⟩
      rw [← hA] at K ⊢
      clear hA
      by_cases hlt : i < N
      · obtain ⟨x, hx⟩ : ∃ x, (flatT L)[i]? = some x := ⟨_, List.getElem?_eq_getElem (by rw [← HN.out]; exact hlt)⟩
        have CD : Hid (Calls Tryd.prog 12 #[.pointer (some ⟨ob, 0, none⟩), .int .i64 (i : Int), .slice (some ⟨dg, 0, none⟩) N N] A fun en w' => ∃ d' e : Int, en = .returned (.tuple #[.int .i64 d', .int .i64 e]) ∧ 0 ≤ d' ∧ d' ≤ 63 ∧ (e = 0 → DeclOk L i x) ∧ OW ob L w1 w' ∧ MV ob A w') := by
          have := depth_any (dc := N) K.out.o hx (by rw [← HN.out]; exact Nat.le_refl _) K.out.d hdg
          rw [← HN.out] at this
          exact this
        have d1 : decide ((i : Int) < (N : Int)) = true := by simp; omega
        have d2 : decide (i < N) = true := by simp; omega
        have HX : Hid ((flatT L)[i]? = some x) := hx
        clear hx
        go_wp2_with fail
        refine CD.out.mono ?_
        rintro en B ⟨d', e, rfl, h1, h2, h3, h4, h5⟩
        have H3 : Hid (e = 0 → DeclOk L i x) := h3
        have hdA : dg < A.heap.size := by
          obtain ⟨cur, hc, _⟩ := K.out.d
          exact lt_of_obj hc
        have KB : Hid (DF ob dg L w w1 i B) := by
          obtain ⟨v0, tv0, iv0, hv0, _⟩ := K.out.o.o
          refine (⟨h4, ?_, K.out.d.mv h5 hdg, K.out.nb.mv h5 hv0 hdA, K.out.ok⟩ : DF ob dg L w w1 i B)
          exact h5.t.grew K.out.g (fun k hk => by
            rw [hk]
            have := K.out.o.lo
            have : w.heap.size ≤ w1.heap.size := HW.out
            omega)
        clear h3 h4 h5 CD K
        by_cases he : e = 0
        · subst he
          obtain ⟨cur, hcur, hcc⟩ := KB.out.d
          obtain ⟨dd, hdd, _⟩ := hcc i (by rw [← HN.out]; exact hlt)
          have cz := cell_of hcur i
          rw [hdd] at cz
          have zz := free_of hcur i
          have lB := lt_of_obj hcur
          have KC' : Hid (DF ob dg L w w1 (i + 1) (B.setCell ⟨dg, i, none⟩ (.int .i64 d'))) := by
            refine (⟨KB.out.o.setI hcur KB.out.nb hdg hlo i _, KB.out.g.set hwd _, KB.out.d.set (by rw [← HN.out]; exact hlt) h1 h2, ?_, ?_⟩ : DF ob dg L w w1 (i + 1) (B.setCell ⟨dg, i, none⟩ (.int .i64 d')))
            · intro v tv iv hv
              rw [Below.heap_setCell _ _ _ _ (fun e => hdg e.symm)] at hv
              exact KB.out.nb v tv iv hv
            · intro j hj y hy
              by_cases hji : j = i
              · subst hji
                rw [HX.out] at hy
                injection hy with hy
                subst hy
                exact H3.out rfl
              · exact KB.out.ok j (by omega) y hy
          clear hcur hcc hdd KB H3
          go_wp2_with fail
          go_roundw
          case rel => exact ⟨i + 1, by go_num, by omega, KC'⟩
          case measure => simp [intOf]; omega
        · have de : (e != 0) = true := by simpa using he
          have de2 : (e == 0) = false := by simpa using he
          have HE : Hid (e ≠ 0) := he
          clear he
          go_wp2_with fail
          go_ret2
          exact ⟨i, e, rfl, KB.out.g, (fun h => absurd h HE.out)⟩
      · have d1 : decide ((i : Int) < (N : Int)) = false := by simp; omega
        have HF : Hid (Grew w A ∧ ∀ j x, (flatT L)[j]? = some x → DeclOk L j x) := by
          refine (⟨K.out.g, fun j x hx => K.out.ok j ?_ x hx⟩ : Grew w A ∧ ∀ j x, (flatT L)[j]? = some x → DeclOk L j x)
          have := (List.getElem?_eq_some_iff.1 hx).1
          rw [← HN.out] at this
          omega
        clear K
        go_wp2_with fail
        go_ret2
        exact ⟨0, 0, rfl, HF.out.1, fun _ => ⟨trivial, HF.out.2⟩⟩
end Go.Proofs.YtojkonoffdlbpaaDoor
