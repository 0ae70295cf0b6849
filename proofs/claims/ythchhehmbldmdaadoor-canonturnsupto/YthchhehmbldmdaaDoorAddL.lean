/-
  A table's Add where there are too many types; no statement is proved here.
-/
import Derived.Test.YthchhehmbldmdaaDoorTuM
namespace Go.Proofs.YthchhehmbldmdaaDoor
open Go.RowKit
set_option linter.unusedVariables false
set_option linter.unusedSimpArgs false

set_option maxRecDepth 100000 in
set_option maxHeartbeats 2000000 in
theorem add_long {w0 w : World} {tb kb n nk : Nat} {iv v : Value} {f : FM} {L : List RT} {s' : Dr} (ht : Tab w0) (hT : TbI tb kb iv w f n nk) (hnk : nk ≤ 4194304) (hG : GoodT f n) (h : ∀ W, TurnP (TbF tb kb iv) w W → LR W v L) (hf : Fit L) (hc : closedP 0 L = true) (hg : Grew w0 w) (hb : w0.heap.size ≤ kb) (hn : numF stepD L [] (D0 f n) = (none, s')) :
    Calls Tryd.prog 9 #[.pointer (some ⟨tb, 0, none⟩), v] w fun en w' => ∃ g : Int, en = .returned (.tuple #[NILS, .int .i64 g, .int .i64 2]) ∧ TbI tb kb iv w' f n nk ∧ TurnP (TbF tb kb iv) w w' := by
  have hTw := hT
  obtain ⟨t1, t2, cs, t3⟩ := hT
  obtain ⟨ia, ic, hiv, _⟩ := row_max t3
  subst hiv
  have C1 : Hid (Calls Tryd.prog 24 #[.pointer (some ⟨tb, 0, none⟩)] w fun en w' => en = .returned (.bool true) ∧ Grew w w') := made_yes t1
  have C2 : Hid (∀ W, Grew w W → Calls Tryd.prog 11 #[v] W fun en w' => ∃ p : Int, en = .returned (.tuple #[.int .i64 p, .int .i64 0]) ∧ Grew W w') := fun W g => by
    have := closed_any (h W (g.turnP _)) hf.sml
    rw [hc] at this
    exact this
  have C3 : Hid (∀ W, Grew w W → Calls Tryd.prog 26 #[.pointer (some ⟨tb, 1, none⟩)] W fun en w' => en = .returned (.int .i64 (n : Int)) ∧ w' = W) := fun W g => countS_any (g.other t1)
  have C4 : Hid (∀ W, Calls Tryd.prog 25 #[.agg #[.map (some kb)], .int .i64 (n : Int), .int .i64 10000] W fun en w' => ∃ db fb, en = .returned (.pointer (some ⟨db, 0, none⟩)) ∧ W.heap.size ≤ db ∧ W.heap.size ≤ fb ∧ w'.heap[db]? = some (dobj kb fb NILS (n : Int) 10000) ∧ MapF w' fb 0 NOF ∧ Grew W w') := fun W => newDraft_any
  have C5 : Hid (∀ W db F, Grew w W → InvD db kb nk W (D0 f n) F → (∀ x, F x → w0.heap.size ≤ x) → (∀ x, F x → TbF tb kb (.slice ia n ic) x ∨ w.heap.size ≤ x) → Calls Tryd.prog 27 #[.pointer (some ⟨db, 0, none⟩), v] W fun en w' => ∃ (g : Int) (F' : Nat → Prop), en = .returned (.tuple #[NILS, .int .i64 g, .bool false]) ∧ Num' db kb nk W w' F F' s') := fun W db F g hI hF hF2 => numberD_no ht (fun W' t => h W' ((g.turnP _).trans' t hF2)) hf hc (hg.trans g) hI hF (good_D0 hG) (by decide) (by decide) hn
  have HT : Hid (w.heap[tb]? = some (tobj kb (.slice ia n ic))) := t1
  have htk : tb ≠ kb := fun e => by
    obtain ⟨es, ck, he⟩ := t2.obj
    rw [← e, t1] at he
    cases he
  have HOW : Hid (∀ g, (Value.slice ia n ic).ownBlock = some g → g ≠ tb ∧ g ≠ kb ∧ g < w.heap.size) := fun g hg => by
    obtain ⟨cur, hc⟩ := row_tag t3 hg
    refine ⟨fun e => ?_, fun e => ?_, (t3.lt g hg).2⟩
    · rw [e, t1] at hc; unfold tobj at hc; injection hc with hc; injection hc with _ hc _; revert hc; decide
    · obtain ⟨es, ck, he⟩ := t2.obj
      rw [← e, hc] at he
      cases he
  have htl := lt_of_obj t1
  have hkl := t2.lt
  have HM : Hid (MapF w kb nk f) := t2
  have HR : Hid (w.ownsRow 0 84 8 (.slice ia n ic) n cs) := t3
  have HTW : Hid (TbI tb kb (.slice ia n ic) w f n nk) := hTw
  have HG0 : Hid (Grew w0 w) := hg
  have hle := hG.le
  obtain ⟨va, vc, ev, _⟩ := (h w (TurnP.refl _ _)).one
  subst ev
  have hLl := hf.sml.1
  have hcn := hf.sml.2.1
  obtain ⟨hmost, hbase, hf0⟩ := num_rest _ _ _ _ _ hn
  have HMost : Hid (s'.most = 10000) := hmost
  have HF0 : Hid (s'.f0 = f) := hf0
  have HBase : Hid (s'.base = (n : Int)) := hbase
  clear h hf hc hg ht hn hG t1 t2 t3 hTw hbase hf0 hmost
  generalize hLL : L.length = N at *
  clear hLL
  generalize cntT L = K at *
  go_enter Tryd.func9, Tryd.ntmps9
  go_wp2_with fail
  refine C1.out.mono ?_
  rintro en w1 ⟨rfl, g1⟩
  have G1 : Hid (Grew w w1) := g1
  clear g1 C1
  go_wp2_with fail
  refine (C2.out w1 G1.out).mono ?_
  rintro en w2 ⟨p, rfl, g2⟩
  have G2 : Hid (Grew w w2) := G1.out.trans g2
  have T2 := G2.out.other HT.out
  have c0 := cell_of T2 0
  have c1 := cell_of T2 1
  simp at c0 c1
  have hl2 := lt_of_obj T2
  clear g2 C2 T2
  go_wp2_with fail
  go_region_held3 (fun w' => w'.cell? ⟨tb, 0, none⟩ = some (.map (some kb)) ∧ w'.cell? ⟨tb, 1, none⟩ = some (.slice ia n ic)) (go_keep)
    (first
     | (go_at_call 26
        refine (C3.out _ (by first | exact G2.out | exact G2.out.drew | exact G2.out.drewN _)).mono ?_
        rintro en w3 ⟨rfl, h3⟩
        obtain rfl := h3.symm)
     | (go_at_call 25
        refine (C4.out _).mono ?_
        rintro en w3 ⟨db, fb, rfl, hdb, hfb, hd3, hM3, g3⟩
        have g3' : Grew w2 w3 := (by first | exact g3 | exact ((Grew.refl _).drew).trans g3 | exact ((Grew.refl _).drewN _).trans g3)
        have hdb' : w2.heap.size ≤ db := by first | exact hdb | simpa using hdb
        have hfb' : w2.heap.size ≤ fb := by first | exact hfb | simpa using hfb
        have G3 : Hid (Grew w w3) := G2.out.trans g3'
        have D3 : Hid (w3.heap[db]? = some (dobj kb fb NILS (n : Int) 10000)) := hd3
        have M3 : Hid (MapF w3 fb 0 NOF) := hM3
        have j0 := cell_grew c0 g3'
        have j1 := cell_grew c1 g3'
        clear g3 g3' hd3 hM3 hdb hfb))
  all_goals go_wp2_with fail
  have hw2 := G2.out.2
  have I3 : InvD db kb nk w3 (D0 f n) (fun x => x = db ∨ x = kb ∨ x = fb) := by
    refine ⟨fun x hx => ?_, fb, NILS, [], D3.out, HM.out.grew G3.out, M3.out, by omega, World.ownsRow_nil _ _ _ _, rfl, (fun g hg => by cases hg), Or.inl rfl, Or.inr (Or.inl rfl), Or.inr (Or.inr rfl), (fun g hg => by cases hg), (fun g hg => by cases hg)⟩
    have := G3.out.2
    rcases hx with rfl | rfl | rfl
    · exact lt_of_obj D3.out
    · omega
    · exact M3.out.lt
  have hw0 := HG0.out.2
  refine (C5.out w3 db _ G3.out I3 (fun x hx => by rcases hx with rfl | rfl | rfl <;> omega) (fun x hx => by
    rcases hx with h | h | h
    · exact Or.inr (by omega)
    · exact Or.inl (Or.inr (Or.inl h))
    · exact Or.inr (by omega))).mono ?_
  rintro en w4 ⟨gg, F', rfl, hN⟩
  have hsz3 := G3.out.2
  have tF := hN.turn
  obtain ⟨_, fb', gv, G, d1, d2, d3, d4, d5, d6, d7, _⟩ := hN.inv
  rw [HF0.out] at d2
  have T4 : w4.heap[tb]? = some (tobj kb (.slice ia n ic)) := tF.other (G3.out.other HT.out) (fun hx => by rcases hx with h | h | h <;> omega)
  have HT4 : Hid (w4.heap[tb]? = some (tobj kb (.slice ia n ic))) := T4
  have HR4 : Hid (w4.ownsRow 0 84 8 (.slice ia n ic) n cs) := row_turnP (row_grew HR.out G3.out) tF (fun g hg hx => by have := HOW.out g hg; rcases hx with h | h | h <;> omega)
  have HU4 : Hid (TurnP (TbF tb kb (.slice ia n ic)) w w4) := (G3.out.turnP _).trans' tF (fun x hx => by
    rcases hx with h | h | h
    · exact Or.inr (by omega)
    · exact Or.inl (Or.inr (Or.inl h))
    · exact Or.inr (by omega))
  have HM4 : Hid (MapF w4 kb nk f) := d2
  clear hN tF d1 d2 d3 d5 d6 d7 T4 C5 C4 C3 I3 j0 j1 D3 M3 HM
  go_wp2_with fail
  go_ret3
  exact ⟨gg, rfl, ⟨HT4.out, HM4.out, cs, HR4.out⟩, HU4.out⟩
end Go.Proofs.YthchhehmbldmdaaDoor
