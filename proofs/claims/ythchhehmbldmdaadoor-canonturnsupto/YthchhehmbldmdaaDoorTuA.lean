/-
  A table's Add in all its cases, and the law's ints; no statement is proved here.
-/
import Derived.Test.YthchhehmbldmdaaDoorAddL
namespace Go.Proofs.YthchhehmbldmdaaDoor
open Go.RowKit
set_option linter.unusedVariables false
set_option linter.unusedSimpArgs false

/- A table of the call's own. -/
structure TbK (w0 : World) (tb kb : Nat) (W : World) (nk : Nat) (f : FM) (n : Nat) : Prop where
  ex : ∃ iv nk', TbI tb kb iv W f n nk' ∧ nk' ≤ nk ∧ ∀ g, iv.ownBlock = some g → w0.heap.size ≤ g
  good : GoodT f n
  inj : InjT f
  tb0 : w0.heap.size ≤ tb
  kb0 : w0.heap.size ≤ kb
theorem add_any {w0 w : World} {tb kb n nk : Nat} {v : Value} {f : FM} {L : List RT} (ht : Tab w0) (hg : Grew w0 w) (T : TbK w0 tb kb w nk f n) (hnk : nk ≤ 4194304) (h : LR w0 v L) (hf : Fit L) :
    Calls Tryd.prog 9 #[.pointer (some ⟨tb, 0, none⟩), v] w fun en w' => Grew w0 w' ∧ ∃ (f' : FM) (n' : Nat) (r0 : Value) (p e : Int), en = .returned (.tuple #[r0, .int .i64 p, .int .i64 e]) ∧ TbK w0 tb kb w' (nk + L.length) f' n' ∧
      (closedP 0 L = true → (r0 = NILS ∧ e = 2) ∨ (e = 0 ∧ ∃ ids, RowI w.heap.size w' r0 ids ∧ numF stepD L [] (D0 f' n') = (some ids, D0 f' n'))) := by
  obtain ⟨⟨iv, nk', hT, hle, hiv⟩, hG, hI, htb, hkb⟩ := T
  have hF : ∀ x, TbF tb kb iv x → w0.heap.size ≤ x := fun x hx => by
    rcases hx with h | h | h
    · omega
    · omega
    · exact hiv x h
  have hLR : ∀ W, TurnP (TbF tb kb iv) w W → LR W v L := fun W t => h.grew (t.grew hg hF)
  by_cases hc : closedP 0 L = true
  · cases hn : numF stepD L [] (D0 f n) with
    | mk o s' =>
    cases o with
    | none =>
      refine (add_long ht hT (by omega) hG hLR hf hc hg hkb hn).mono ?_
      rintro en w' ⟨g, rfl, hT', t⟩
      exact ⟨t.grew hg hF, f, n, _, g, 2, rfl, ⟨⟨iv, nk', hT', by omega, hiv⟩, hG, hI, htb, hkb⟩, fun _ => Or.inl ⟨rfl, rfl⟩⟩
    | some ids =>
      refine (add_yes ht hT (by omega) hG hLR hf hc hg hkb hn).mono ?_
      rintro en w' ⟨ri, iv', n', rfl, hri, hn', hT', t, hl⟩
      obtain ⟨hmost, _, hf0⟩ := num_rest _ _ _ _ _ hn
      have hb := hf.sml.2.1
      obtain ⟨g1, g2, _⟩ := num_good L [] (D0 f n) 0 0 ids s' (good_D0 hG) (inj_D0 hI) (by omega) hc hf.sml.2.2 (fun a ha => by cases ha) hn
      have hf0' : f = s'.f0 := hf0.symm
      subst hf0'
      refine ⟨t.grew hg hF, overF s'.f0 s'.f1, n', ri, 0, 0, rfl, ⟨⟨iv', nk' + L.length, hT', by omega, fun g hx => ?_⟩, good_over g2 g1 hmost hn', inj_over g2, htb, hkb⟩, fun _ => Or.inr ⟨rfl, ids, hri, num_again L [] _ ids s' _ hn (fun m v hv => by
        show overF s'.f0 s'.f1 (txt m) = some v
        rw [look_over g2]; exact hv)⟩⟩
      rcases hl with h | ⟨g', h, h2⟩
      · rw [h] at hx; exact hiv g hx
      · rw [h] at hx; injection hx with hx; subst hx; have := hg.2; omega
  · have hc0 : closedP 0 L = false := by simpa using hc
    refine (add_open hT (hLR w (TurnP.refl _ _)) hf hc0).mono ?_
    rintro en w' ⟨p, rfl, g⟩
    exact ⟨hg.trans g, f, n, _, p, 50, rfl, ⟨⟨iv, nk', hT.grew g, by omega, hiv⟩, hG, hI, htb, hkb⟩, fun h => absurd h hc⟩
/- The same list once more. -/
theorem add_again {w0 w : World} {tb kb n nk : Nat} {v : Value} {f : FM} {L : List RT} {ids : List Int} (ht : Tab w0) (hg : Grew w0 w) (T : TbK w0 tb kb w nk f n) (hnk : nk ≤ 4194304) (h : LR w0 v L) (hf : Fit L) (hc : closedP 0 L = true) (hn : numF stepD L [] (D0 f n) = (some ids, D0 f n)) :
    Calls Tryd.prog 9 #[.pointer (some ⟨tb, 0, none⟩), v] w fun en w' => Grew w0 w' ∧ ∃ r0, en = .returned (.tuple #[r0, .int .i64 0, .int .i64 0]) ∧ RowI w.heap.size w' r0 ids ∧ ∀ B u l, RowI B w u l → RowI B w' u l := by
  obtain ⟨⟨iv, nk', hT, hle, hiv⟩, hG, hI, htb, hkb⟩ := T
  have hF : ∀ x, TbF tb kb iv x → w0.heap.size ≤ x := fun x hx => by
    rcases hx with h | h | h
    · omega
    · omega
    · exact hiv x h
  have hLR : ∀ W, TurnP (TbF tb kb iv) w W → LR W v L := fun W t => h.grew (t.grew hg hF)
  refine (add_yes ht hT (by omega) hG hLR hf hc hg hkb hn).mono ?_
  rintro en w' ⟨ri, iv', n', rfl, hri, hn', hT', t, hl⟩
  obtain ⟨t1, t2, cs, t3⟩ := hT
  refine ⟨t.grew hg hF, ri, rfl, hri, fun B u l hr => row_turnP hr t (fun g hg hx => ?_)⟩
  obtain ⟨cur, hc⟩ := row_tag hr hg
  rcases hx with hx | hx | hx
  · rw [hx, t1] at hc; unfold tobj at hc; injection hc with hc; injection hc with _ hc _; revert hc; decide
  · obtain ⟨es, ck, he⟩ := t2.obj
    rw [← hx, hc] at he
    cases he
  · obtain ⟨cur', hc'⟩ := row_tag t3 hx
    rw [hc] at hc'
    injection hc' with hc'
    injection hc' with _ hc' _
    revert hc'; decide
set_option maxRecDepth 100000 in
set_option maxHeartbeats 1000000 in
theorem ints_same {w : World} {v u : Value} {l : List Int} (h1 : LI w v l) (h2 : LI w u l) (hl : l.length ≤ 4194304) :
    Calls Tryd.prog 10 #[v, u] w fun en w' => en = .returned (.bool true) ∧ Grew w w' := by
  obtain ⟨va, vc, ev, _⟩ := h1.one
  subst ev
  obtain ⟨ua, uc, eu, _⟩ := h2.one
  subst eu
  have H1 : Hid (LI w (.slice va l.length vc) l) := h1
  have H2 : Hid (LI w (.slice ua l.length uc) l) := h2
  clear h1 h2
  go_enter Tryd.func10, Tryd.ntmps10
  go_wp2_with fail
  go_loopw [5] (fun i_ w' => ∃ i : Nat, i_ = .int .i64 i ∧ i ≤ l.length ∧ Hid (Grew w w')) (fun i_ _ => l.length - (intOf i_).toNat)
  case atStart => exact ⟨0, rfl, Nat.zero_le _, Grew.refl _⟩
  case round =>
    obtain ⟨i, rfl, hi, GI⟩ := hrel
    obtain ⟨w1, hw1⟩ : ∃ w1, w1 = wr := ⟨_, rfl⟩
    rw [← hw1] at GI ⊢
    clear hw1
    by_cases hlt : i < l.length
    · have d1 : decide ((i : Int) < (l.length : Int)) = true := by simp; omega
      have d2 : decide (i < l.length) = true := by simp; omega
      obtain ⟨x, hx⟩ : ∃ x, l[i]? = some x := ⟨_, List.getElem?_eq_getElem hlt⟩
      obtain ⟨b1, o1, hb1, hc1, e1⟩ := (H1.out.grew GI.out).get (by omega)
      obtain ⟨b2, o2, hb2, hc2, e2⟩ := (H2.out.grew GI.out).get (by omega)
      have k1 := e1 _ _ hx
      have k2 := e2 _ _ hx
      unfold EI at k1 k2
      rw [Nat.mul_one] at k1 k2
      clear e1 e2 hx H1 H2
      subst hb1 hb2
      go_wp2_with fail
      go_region
      all_goals go_wp2_with fail
      all_goals
        go_roundw
        case rel => exact ⟨i + 1, by go_num, by omega, (by repeat (first | exact GI.out | refine Grew.alloc ?_ _ | refine Grew.drew ?_ | refine Grew.drewN ?_ _))⟩
        case measure => simp [intOf]; omega
    · have d1 : decide ((i : Int) < (l.length : Int)) = false := by simp; omega
      go_wp2_with fail
      go_ret
      exact ⟨rfl, GI.out⟩
end Go.Proofs.YthchhehmbldmdaaDoor
