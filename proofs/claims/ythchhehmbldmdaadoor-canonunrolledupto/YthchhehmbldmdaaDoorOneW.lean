/-
  The program's One, where it answers; no statement is proved here.
-/
import Derived.Test.YthchhehmbldmdaaDoorSamW
namespace Go.Proofs.YthchhehmbldmdaaDoor
open Go.RowKit
set_option linter.unusedVariables false
set_option linter.unusedSimpArgs false

set_option maxRecDepth 100000 in
set_option maxHeartbeats 2000000 in
theorem one_yes {w : World} {v u : Value} {La Lb : List RT} {x y : Int} {ids1 ids2 : List Int} {s1 s2 : Dr} (ht : Tab w) (ha : LR w v La) (hb : LR w u Lb) (fa : Fit La) (fb : Fit Lb) (ca : closedP 0 La = true) (cb : closedP 0 Lb = true) (hx : 0 ≤ x ∧ x < (cntT La : Int)) (hy : 0 ≤ y ∧ y < (cntT Lb : Int))
    (n1 : numF stepD La [] U0 = (some ids1, s1)) (n2 : numF stepD Lb [] s1 = (some ids2, s2)) (g1 : GoodD s1 (cntT La) La.length) (l1 : ids1.length = cntT La) (l2 : ids2.length = cntT Lb) :
    Calls Tryd.prog 14 #[v, u, .int .i64 x, .int .i64 y] w fun en w' => en = .returned (.tuple #[.bool (decide (atI ids1 x = atI ids2 y)), .int .i64 0]) ∧ Grew w w' := by
  have CA : Hid (∀ W, Grew w W → Calls Tryd.prog 11 #[v] W fun en w' => ∃ p : Int, en = .returned (.tuple #[.int .i64 p, .int .i64 0]) ∧ Grew W w') := fun W g => by have := closed_any (ha.grew g) fa.sml; rw [ca] at this; exact this
  have CB : Hid (∀ W, Grew w W → Calls Tryd.prog 11 #[u] W fun en w' => ∃ p : Int, en = .returned (.tuple #[.int .i64 p, .int .i64 0]) ∧ Grew W w') := fun W g => by have := closed_any (hb.grew g) fb.sml; rw [cb] at this; exact this
  have HA : Hid (∀ W, Grew w W → Calls Tryd.prog 20 #[v, .int .i64 x] W fun en w' => en = .returned (.bool true) ∧ Grew W w') := fun W g => by
    have := has_any (n := x) (ha.grew g) fa.sml.1 fa.sml.2.1
    rw [show (decide (0 ≤ x) && decide (x < (cntT La : Int))) = true by simp [hx.1, hx.2]] at this
    exact this
  have HB : Hid (∀ W, Grew w W → Calls Tryd.prog 20 #[u, .int .i64 y] W fun en w' => en = .returned (.bool true) ∧ Grew W w') := fun W g => by
    have := has_any (n := y) (hb.grew g) fb.sml.1 fb.sml.2.1
    rw [show (decide (0 ≤ y) && decide (y < (cntT Lb : Int))) = true by simp [hy.1, hy.2]] at this
    exact this
  have CU : Hid (∀ W, Calls Tryd.prog 21 #[] W fun en w' => ∃ db kb F, en = .returned (.pointer (some ⟨db, 0, none⟩)) ∧ InvD db kb 0 w' U0 F ∧ (∀ x, F x → W.heap.size ≤ x) ∧ Grew W w') := newUnbounded_any
  have C1 : Hid (∀ W db kb F, Grew w W → InvD db kb 0 W U0 F → (∀ x, F x → w.heap.size ≤ x) → Calls Tryd.prog 22 #[.pointer (some ⟨db, 0, none⟩), v] W fun en w' => ∃ iv F', en = .returned iv ∧ RowI W.heap.size w' iv ids1 ∧ (∀ g, iv.ownBlock = some g → ¬ F' g) ∧ InvD db kb 0 w' s1 F' ∧ (∀ x, F' x → w.heap.size ≤ x) ∧ Grew w w') := fun W db kb F g hI hF =>
    (allD_any ht (fun W' t => ha.grew (t.grew g hF)) fa ca g hI hF good_U0 (by decide) (by decide) n1).mono fun en w' ⟨iv, F', e, r, o, n, _⟩ => ⟨iv, F', e, r, o, n.inv, fun x hx => (n.up x hx).elim (hF x) (fun h => Nat.le_trans g.2 h), n.turn.grew g hF⟩
  have C2 : Hid (∀ W db kb F, Grew w W → InvD db kb 0 W s1 F → (∀ x, F x → w.heap.size ≤ x) → Calls Tryd.prog 22 #[.pointer (some ⟨db, 0, none⟩), u] W fun en w' => ∃ iv, en = .returned iv ∧ LI w' iv ids2 ∧ TurnP F W w' ∧ Grew w w') := fun W db kb F g hI hF =>
    (allD_any ht (fun W' t => hb.grew (t.grew g hF)) fb cb g hI hF g1 fa.sml.2.1 fa.sml.1 n2).mono fun en w' ⟨iv, F', e, r, o, n, _⟩ => ⟨iv, e, r.lst, n.turn, n.turn.grew g hF⟩
  obtain ⟨va, vc, ev, _⟩ := ha.one
  subst ev
  obtain ⟨ua, uc, eu, _⟩ := hb.one
  subst eu
  have HL1 : Hid (ids1.length = cntT La) := l1
  have HL2 : Hid (ids2.length = cntT Lb) := l2
  obtain ⟨p, hp⟩ : ∃ p, atI ids1 x = p := ⟨_, rfl⟩
  obtain ⟨q, hq⟩ : ∃ q, atI ids2 y = q := ⟨_, rfl⟩
  have ga : Hid (ids1[x.toNat]? = some p) := (by rw [← hp]; unfold atI; rw [List.getD_eq_getElem?_getD, List.getElem?_eq_getElem (by rw [HL1.out]; omega)]; rfl : ids1[x.toNat]? = some p)
  have gb : Hid (ids2[y.toNat]? = some q) := (by rw [← hq]; unfold atI; rw [List.getD_eq_getElem?_getD, List.getElem?_eq_getElem (by rw [HL2.out]; omega)]; rfl : ids2[y.toNat]? = some q)
  rw [hp, hq]
  clear ht ha hb fa fb ca cb n1 n2 g1 l1 l2 hp hq
  generalize La.length = Na at *
  generalize Lb.length = Nb at *
  go_enter Tryd.func14, Tryd.ntmps14
  go_wp2_with fail
  have G0 : Hid (Grew w (w.alloc (.cells #[.slice va Na vc, .slice ua Nb uc] 22))) := (Grew.refl w).alloc _
  have B0 : Hid ((w.alloc (.cells #[.slice va Na vc, .slice ua Nb uc] 22)).heap[w.heap.size]? = some (.cells #[.slice va Na vc, .slice ua Nb uc] 22 (0, 0))) := heap_alloc_last _ _
  generalize (w.alloc (.cells #[.slice va Na vc, .slice ua Nb uc] 22)) = W0 at *
  have b0 := cell_of B0.out 0
  have b1 := cell_of B0.out 1
  simp at b0 b1
  have hl0 := lt_of_obj B0.out
  refine wp_loop_rounds 3 ?_
  rw [rounds_succ]
  go_wp2_with fail
  refine (CA.out W0 G0.out).mono ?_
  rintro en w1 ⟨p1, rfl, g1⟩
  have c1 := cell_grew b1 g1
  have G1 : Hid (Grew w w1) := G0.out.trans g1
  have hl1 := Nat.lt_of_lt_of_le hl0 g1.2
  clear b0 b1 g1 CA
  go_wp2_with fail
  rw [rounds_succ]
  go_wp2_with fail
  refine (CB.out w1 G1.out).mono ?_
  rintro en w2 ⟨p2, rfl, g2⟩
  have G2 : Hid (Grew w w2) := G1.out.trans g2
  clear c1 g2 CB
  go_wp2_with fail
  rw [rounds_succ]
  go_wp2_with fail
  refine (HA.out w2 G2.out).mono ?_
  rintro en w3 ⟨rfl, g3⟩
  have G3 : Hid (Grew w w3) := G2.out.trans g3
  clear g3 HA
  go_wp2_with fail
  refine (HB.out w3 G3.out).mono ?_
  rintro en w4 ⟨rfl, g4⟩
  have G4 : Hid (Grew w w4) := G3.out.trans g4
  clear g4 HB
  go_wp2_with fail
  refine (CU.out w4).mono ?_
  rintro en w5 ⟨db, kb, F, rfl, hI, hF, g5⟩
  have HI : Hid (InvD db kb 0 w5 U0 F) := hI
  have HF : Hid (∀ x, F x → w.heap.size ≤ x) := fun x hx => Nat.le_trans G4.out.2 (hF x hx)
  have G5 : Hid (Grew w w5) := G4.out.trans g5
  clear g5 hI hF CU
  go_wp2_with fail
  have hx1 : x.toNat < ids1.length := by rw [HL1.out]; omega
  have hy1 : y.toNat < ids2.length := by rw [HL2.out]; omega
  have D1 : Hid (∀ W, Grew w W → InvD db kb 0 W U0 F → Calls Tryd.prog 22 #[.pointer (some ⟨db, 0, none⟩), .slice va Na vc] W fun en w' => ∃ ib ic F', en = .returned (.slice (some ⟨ib, 0, none⟩) ids1.length ic) ∧ w'.cell? ⟨ib, x.toNat, none⟩ = some (.int .i64 p) ∧ ids1.length ≤ ic ∧ ¬ F' ib ∧ InvD db kb 0 w' s1 F' ∧ (∀ x, F' x → w.heap.size ≤ x) ∧ Grew w w') := fun W g hI =>
    (C1.out W db kb F g hI HF.out).mono fun en w' ⟨iv, F', e, hr, ho, i', hf, g'⟩ => by
      obtain ⟨ib, ic, hv, hc, hob⟩ := row_at hr (by omega)
      subst hv
      refine ⟨ib, ic, F', e, ?_, hc, ho ib hob, i', hf, g'⟩
      have := World.ownsRow.cellAt hr x.toNat (by omega)
      rw [this, show x.toNat = x.toNat * 1 + 0 by omega]
      exact flat_at ic1 1 (fun _ => rfl) ids1 x.toNat p 0 ga.out (by decide)
  have D2 : Hid (∀ W F', Grew w W → InvD db kb 0 W s1 F' → (∀ x, F' x → w.heap.size ≤ x) → Calls Tryd.prog 22 #[.pointer (some ⟨db, 0, none⟩), .slice ua Nb uc] W fun en w' => ∃ ib io ic, en = .returned (.slice (some ⟨ib, io, none⟩) ids2.length ic) ∧ w'.cell? ⟨ib, io + y.toNat, none⟩ = some (.int .i64 q) ∧ ids2.length ≤ ic ∧ TurnP F' W w' ∧ Grew w w') := fun W F' g hI hf =>
    (C2.out W db kb F' g hI hf).mono fun en w' ⟨iv, e, hr, t, g'⟩ => by
      obtain ⟨ia, ic, hv, hc, _⟩ := hr.one
      subst hv
      obtain ⟨ib, io, hb, _, hE⟩ := hr.get (by omega)
      subst hb
      have k := hE _ _ gb.out
      unfold EI at k
      rw [Nat.mul_one] at k
      exact ⟨ib, io, ic, e, k, hc, t, g'⟩
  have dx : decide (x.toNat < ids1.length) = true := by simp [hx1]
  have dy : decide (y.toNat < ids2.length) = true := by simp [hy1]
  have hID : Hid (InvD db kb 0 w5.drew U0 F) := HI.out.keep (fun _ _ => rfl)
  have GD : Hid (Grew w w5.drew) := G5.out.drew
  clear C1 C2 ga gb HI HL1 HL2
  generalize ids1.length = N1 at *
  generalize ids2.length = N2 at *
  by_cases hpq : p = q
  · subst hpq
    first | go_region_with (first
      | (go_at_call 22
         refine (D2.out _ F6 G6.out HI6.out HF6.out).mono ?_
         rintro en w7 ⟨ib7, io7, ic7, rfl, kb7, hc7, t7, g7⟩
         have ka7 : w7.cell? ⟨ib6, x.toNat, none⟩ = some (.int .i64 p) := by
           have hh := t7.block ib6 hil HO6.out
           unfold World.cell? at ka ⊢
           rw [hh]; exact ka
         have G7 : Hid (Grew w w7) := g7
         have hib7 := lt_of_cell kb7
         clear t7 g7)
      | (go_at_call 22
         refine (D1.out _ GD.out hID.out).mono ?_
         rintro en w6 ⟨ib6, ic6, F6, rfl, ka, hc6, ho6, hI6, hF6, g6⟩
         have HI6 : Hid (InvD db kb 0 w6 s1 F6) := hI6
         have HF6 : Hid (∀ x, F6 x → w.heap.size ≤ x) := hF6
         have HO6 : Hid (¬ F6 ib6) := ho6
         have G6 : Hid (Grew w w6) := g6
         have hil := lt_of_cell ka
         clear ho6 hI6 hF6 g6)) | fail
    all_goals go_wp2_with fail
    all_goals go_ret2
    all_goals refine ⟨by simp, ?_⟩
    all_goals repeat (first | exact G7.out | refine Grew.alloc ?_ _ | refine Grew.drew ?_ | refine Grew.drewN ?_ _)
  · have hne : (p == q) = false := by simpa using hpq
    have hd : Hid (decide (p = q) = false) := (by simpa using hpq : decide (p = q) = false)
    first | go_region_with (first
      | (go_at_call 22
         refine (D2.out _ F6 G6.out HI6.out HF6.out).mono ?_
         rintro en w7 ⟨ib7, io7, ic7, rfl, kb7, hc7, t7, g7⟩
         have ka7 : w7.cell? ⟨ib6, x.toNat, none⟩ = some (.int .i64 p) := by
           have hh := t7.block ib6 hil HO6.out
           unfold World.cell? at ka ⊢
           rw [hh]; exact ka
         have G7 : Hid (Grew w w7) := g7
         have hib7 := lt_of_cell kb7
         clear t7 g7)
      | (go_at_call 22
         refine (D1.out _ GD.out hID.out).mono ?_
         rintro en w6 ⟨ib6, ic6, F6, rfl, ka, hc6, ho6, hI6, hF6, g6⟩
         have HI6 : Hid (InvD db kb 0 w6 s1 F6) := hI6
         have HF6 : Hid (∀ x, F6 x → w.heap.size ≤ x) := hF6
         have HO6 : Hid (¬ F6 ib6) := ho6
         have G6 : Hid (Grew w w6) := g6
         have hil := lt_of_cell ka
         clear ho6 hI6 hF6 g6)) | fail
    all_goals go_wp2_with fail
    all_goals go_ret2
    all_goals refine ⟨by rw [hd.out]; rfl, ?_⟩
    all_goals repeat (first | exact G7.out | refine Grew.alloc ?_ _ | refine Grew.drew ?_ | refine Grew.drewN ?_ _)
end Go.Proofs.YthchhehmbldmdaaDoor
