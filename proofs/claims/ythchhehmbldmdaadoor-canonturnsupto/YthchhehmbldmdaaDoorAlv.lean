/-
  The statements' own alive; no statement is proved here.
-/
import Derived.Test.YthchhehmbldmdaaDoorAdd
import Derived.Test.YthchhehmbldmdaaDoorPln
namespace Go.Proofs.YthchhehmbldmdaaDoor
open Go.RowKit
set_option linter.unusedVariables false
set_option linter.unusedSimpArgs false

def pL : List RT := [pRT, pRT]
theorem p_fit : Fit pL := fit_of (by decide) (fun r hr x hx => by
  have e1 : r = pRT := by simpa [pL] using hr
  subst e1
  have e2 : x = pSB := by simpa [pRT] using hx
  subst e2
  exact ⟨fun n hn => (by cases hn), by unfold R64 pSB; simp, fun v hv => (by cases hv), fun v hv => (by cases hv), fun v hv => (by cases hv)⟩)
theorem p_closed : closedP 0 pL = true := by decide
theorem p_num : ∃ s', numF stepD pL [] (D0 NOF 0) = (some [0, 0], s') ∧ s'.count = 1 := by
  have e1 : ∀ f, pRT.types.map (SB.sw f) = [pSB] := fun f => rfl
  have s1 : stepD (D0 NOF 0) [pSB] = some (0, ⟨NOF, putF NOF (txt [pSB]) 0, [[pSB]], 1, 10000, 0⟩) := by
    unfold stepD D0 NOF
    simp
  have s2 : stepD ⟨NOF, putF NOF (txt [pSB]) 0, [[pSB]], 1, 10000, 0⟩ [pSB] = some (0, ⟨NOF, putF NOF (txt [pSB]) 0, [[pSB]], 1, 10000, 0⟩) := by
    unfold stepD NOF putF
    simp
  refine ⟨⟨NOF, putF NOF (txt [pSB]) 0, [[pSB]], 1, 10000, 0⟩, ?_, rfl⟩
  refine (numF_at (step := stepD) (L := pL) (i := 0) (r := pRT) rfl [] (D0 NOF 0)).trans ?_
  rw [e1, s1]
  refine (numF_at (step := stepD) (L := pL) (i := 1) (r := pRT) rfl _ _).trans ?_
  rw [e1, s2]
  rfl
theorem good_0 : GoodT NOF 0 := ⟨by decide, fun m v h => by cases h⟩
theorem lr_p {W : World} {B B' : Nat} {v tv : Value} (h : W.ownsRow B 38 2 v 2 [tv, .bool false, tv, .bool false]) (ht : W.ownsRow B' 59 6 tv 1 [.bool true, NILS, .int .i64 1, NILS, NILS, NILS]) : LR W v pL := by
  obtain ⟨g, c, hv, hc, _⟩ := row_at h (by decide)
  obtain ⟨tg, tc, htv, htc, _⟩ := row_at ht (by decide)
  obtain ⟨_, _, _, _, hmx, _⟩ := row_max h
  obtain ⟨_, _, e1, _, hmt, _⟩ := row_max ht
  rw [htv] at e1
  injection e1 with _ _ e1
  have hls : LS W tv [pSB] := by
    refine ⟨_, tc, htv, by simpa using htc, by rw [e1]; exact hmt, (fun h => by cases h), Or.inr ⟨tg, 0, rfl, fun i x hx => ?_⟩⟩
    rw [htv] at ht
    have hi : i = 0 ∧ x = pSB := by
      match i, hx with
      | 0, hx => exact ⟨rfl, by simpa using hx.symm⟩
      | i + 1, hx => simp at hx
    obtain ⟨rfl, rfl⟩ := hi
    have c0 := ht.cellAt 0 (by decide)
    have c1 := ht.cellAt 1 (by decide)
    have c2 := ht.cellAt 2 (by decide)
    have c3 := ht.cellAt 3 (by decide)
    have c4 := ht.cellAt 4 (by decide)
    have c5 := ht.cellAt 5 (by decide)
    exact ⟨NILS, NILS, NILS, NILS, ⟨Lst.nil _ _ _, Lst.nil _ _ _, Lst.nil _ _ _, Lst.nil _ _ _⟩, c0, c1, c2, c3, c4, c5⟩
  have hcm : c ≤ maxLen := by
    obtain ⟨_, _, e2, _, hm2, _⟩ := row_max h
    rw [hv] at e2
    injection e2 with _ _ e2
    rw [e2]; exact hm2
  refine ⟨_, c, hv, hc, hcm, (fun h => by cases h), Or.inr ⟨g, 0, rfl, fun i x hx => ?_⟩⟩
  rw [hv] at h
  match i, hx with
  | 0, hx =>
    have e : x = pRT := by simpa [pL] using hx.symm
    subst e
    exact ⟨tv, hls, h.cellAt 0 (by decide), h.cellAt 1 (by decide)⟩
  | 1, hx =>
    have e : x = pRT := by simpa [pL] using hx.symm
    subst e
    exact ⟨tv, hls, h.cellAt 2 (by decide), h.cellAt 3 (by decide)⟩
  | i + 2, hx => simp [pL] at hx
set_option maxRecDepth 100000 in
set_option maxHeartbeats 2000000 in
theorem alive_any {w : World} (ht : Tab w) : Calls Tryd.prog 6 #[] w fun en w' => en = .returned (.bool true) ∧ Grew w w' := by
  obtain ⟨s', hnum, hcnt⟩ := p_num
  have CN : Hid (∀ W, Calls Tryd.prog 8 #[] W fun en w' => ∃ tb kb, en = .returned (.pointer (some ⟨tb, 0, none⟩)) ∧ W.heap.size ≤ tb ∧ W.heap.size ≤ kb ∧ w'.heap[tb]? = some (tobj kb NILS) ∧ MapF w' kb 0 NOF ∧ Grew W w') := new_any
  have CP : Hid (∀ W, Calls Tryd.prog 19 #[] W fun en w' => ∃ v tv, en = .returned v ∧ w'.ownsRow W.heap.size 38 2 v 1 [tv, .bool false] ∧ w'.ownsRow W.heap.size 59 6 tv 1 [.bool true, NILS, .int .i64 1, NILS, NILS, NILS] ∧ Grew W w') := plain_any
  have CA : Hid (∀ W tb kb v, Grew w W → w.heap.size ≤ kb → TbI tb kb NILS W NOF 0 0 → (∀ W', TurnP (TbF tb kb NILS) W W' → LR W' v pL) → Calls Tryd.prog 9 #[.pointer (some ⟨tb, 0, none⟩), v] W fun en w' => ∃ (ri iv' : Value) (n' : Nat), en = .returned (.tuple #[ri, .int .i64 0, .int .i64 0]) ∧ RowI W.heap.size w' ri [0, 0] ∧ (n' : Int) = s'.count ∧ TbI tb kb iv' w' (overF NOF s'.f1) n' (0 + pL.length) ∧ TurnP (TbF tb kb NILS) W w' ∧ (iv'.ownBlock = (NILS).ownBlock ∨ ∃ g, iv'.ownBlock = some g ∧ W.heap.size ≤ g)) :=
    fun W tb kb v g hb hT hv => add_yes ht hT (by decide) good_0 hv p_fit p_closed g hb hnum
  have CC : Hid (∀ W tb kb n a c, W.heap[tb]? = some (tobj kb (.slice a n c)) → Calls Tryd.prog 17 #[.pointer (some ⟨tb, 0, none⟩)] W fun en w' => en = .returned (.int .i64 (n : Int)) ∧ Grew W w') := fun W tb kb n a c h => countT_any h
  clear ht hnum
  go_enter Tryd.func6, Tryd.ntmps6
  go_wp2_with fail
  refine (CN.out w).mono ?_
  rintro en w1 ⟨tb, kb, rfl, htb, hkb, hT1, hM1, g1⟩
  have HT1 : Hid (w1.heap[tb]? = some (tobj kb NILS)) := hT1
  have HM1 : Hid (MapF w1 kb 0 NOF) := hM1
  have G1 : Hid (Grew w w1) := g1
  have hl1 := lt_of_obj hT1
  have hk1 := hM1.lt
  clear hT1 hM1 g1 CN
  go_wp2_with fail
  refine (CP.out w1).mono ?_
  rintro en w2 ⟨v, tv, rfl, hr2, ht2, g2⟩
  obtain ⟨g6, c6, hv6, hc6, ho6⟩ := row_at hr2 (by decide)
  obtain ⟨t6, tc6, htv6, htc6, hto6⟩ := row_at ht2 (by decide)
  subst hv6 htv6
  have p0 := hr2.cellAt 0 (by decide)
  have p1 := hr2.cellAt 1 (by decide)
  simp at p0 p1
  have HR2 : Hid (w2.ownsRow w1.heap.size 38 2 (.slice (some ⟨g6, 0, none⟩) 1 c6) 1 [.slice (some ⟨t6, 0, none⟩) 1 tc6, .bool false]) := hr2
  have HS2 : Hid (w2.ownsRow w1.heap.size 59 6 (.slice (some ⟨t6, 0, none⟩) 1 tc6) 1 [.bool true, NILS, .int .i64 1, NILS, NILS, NILS]) := ht2
  have G2 : Hid (Grew w1 w2) := g2
  have hl6 := lt_of_cell p0
  clear hr2 ht2 g2 CP
  go_wp2_with (at_builtin; refine wp_app1a (w := w2) (v := .slice (some ⟨g6, 0, none⟩) 1 c6) (n := 1) (cs := [.slice (some ⟨t6, 0, none⟩) 1 tc6, .bool false]) (B := w1.heap.size) rfl _ _ 22 38 2 32 _ Tryd.underlying22 infoR rfl (by decide) (by decide) rfl rfl rfl HR2.out G2.out.2 rfl (by simp [Value.oneCell']) (by decide) ?_; intro v3 w3 hO3 hT3 hL3)
  obtain ⟨a3, c3, e3, _⟩ := row_max hO3
  subst e3
  have hS3 : w3.ownsRow w1.heap.size 59 6 (.slice (some ⟨t6, 0, none⟩) 1 tc6) 1 [.bool true, NILS, .int .i64 1, NILS, NILS, NILS] := row_turnP HS2.out hT3 (fun g hg hx => by
    obtain ⟨cur, hc⟩ := row_tag HS2.out hg
    obtain ⟨cur', hc'⟩ := row_tag HR2.out hx
    rw [hc] at hc'
    injection hc' with q'
    injection q' with _ q' _
    revert q'; decide)
  have hO3' : w3.ownsRow w1.heap.size 38 2 (.slice a3 2 c3) 2 [.slice (some ⟨t6, 0, none⟩) 1 tc6, .bool false, .slice (some ⟨t6, 0, none⟩) 1 tc6, .bool false] := hO3
  have k3 : ∀ x, x < w1.heap.size → w3.heap[x]? = w1.heap[x]? := fun x hx => (hT3.block x (by have := G2.out.2; omega) (fun e => by have := (HR2.out.lt x e).1; omega)).trans (G2.out.1.block x hx)
  have T3 : w3.heap[tb]? = some (tobj kb NILS) := (k3 tb hl1).trans HT1.out
  have M3 : MapF w3 kb 0 NOF := HM1.out.same (k3 kb hk1)
  have I3 : TbI tb kb NILS w3 NOF 0 0 := ⟨T3, M3, [], World.ownsRow_nil _ _ _ _⟩
  have G3 : Hid (Grew w w3) := hT3.grew (G1.out.trans G2.out) (fun x hx => by have := (HR2.out.lt x hx).1; have := G1.out.2; omega)
  have LR3 : ∀ W', TurnP (TbF tb kb NILS) w3 W' → LR W' (.slice a3 2 c3) pL := fun W' t => by
    have kp : ∀ {B e k v n ds}, w1.heap.size ≤ B → w3.ownsRow B e k v n ds → W'.ownsRow B e k v n ds := fun hB hr => row_turnP hr t (fun g hg hx => by
      have := (hr.lt g hg).1
      rcases hx with h | h | h
      · omega
      · omega
      · cases h)
    exact lr_p (kp (Nat.le_refl _) hO3') (kp (Nat.le_refl _) hS3)
  have CA3 := CA.out w3 tb kb (.slice a3 2 c3) G3.out hkb I3 LR3
  have hw13 : w1.heap.size ≤ w3.heap.size := Nat.le_trans G2.out.2 hT3.size
  have HC : Hid (s'.count = 1) := hcnt
  clear CA hO3 hT3 hL3 hS3 hO3' k3 T3 M3 I3 LR3 p0 p1 HR2 HS2 HT1 HM1 hcnt
  go_wp2_with fail
  refine CA3.mono ?_
  rintro en w4 ⟨ri, iv', n', rfl, hri, hn', hT4, tp4, _⟩
  obtain ⟨ib, ic, hv4, hc4, hob4⟩ := row_at hri (by decide)
  subst hv4
  have q0 := World.ownsRow.cellAt hri 0 (by decide)
  have q1 := World.ownsRow.cellAt hri 1 (by decide)
  simp [ic1] at q0 q1
  have hn1 : n' = 1 := by rw [HC.out] at hn'; omega
  subst hn1
  obtain ⟨t4, m4, cs4, r4⟩ := hT4
  obtain ⟨ja, jc, hjv, _⟩ := row_max r4
  subst hjv
  have C4 := CC.out w4 tb kb 1 ja jc t4
  have HT4 : Hid (w4.heap[tb]? = some (tobj kb (.slice ja 1 jc))) := t4
  have G4 : Hid (Grew w w4) := tp4.grew G3.out (fun x hx => by
    rcases hx with h | h | h
    · omega
    · omega
    · cases h)
  have hl4 := lt_of_obj t4
  have hb4 := lt_of_cell q0
  have CCH : Hid (Calls Tryd.prog 17 #[.pointer (some ⟨tb, 0, none⟩)] w4 fun en w' => en = .returned (.int .i64 ((1 : Nat) : Int)) ∧ Grew w4 w') := C4
  clear CA3 CC hri hn' tp4 t4 m4 r4 C4 G3
  go_wp2_with fail
  refine CCH.out.mono ?_
  rintro en w5 ⟨rfl, g5⟩
  have G5 : Hid (Grew w w5) := G4.out.trans g5
  clear CCH g5
  go_wp2_with fail
  go_ret
  exact ⟨rfl, G5.out⟩
end Go.Proofs.YthchhehmbldmdaaDoor
