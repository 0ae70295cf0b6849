/-
  The walk of CanonUnrolled; the statement itself is proved in the text that imports this one.
-/
import Derived.Test.YthchhehmbldmdaaDoorUnN
import Derived.Test.YthchhehmbldmdaaDoorAlv
import Derived.Test.YthchhehmbldmdaaDoorLay
namespace Go.Proofs.YthchhehmbldmdaaDoor
open Go.RowKit
set_option linter.unusedVariables false
set_option linter.unusedSimpArgs false

theorem lr_one {W : World} {B : Nat} {v tv : Value} {r : RT} (h : W.ownsRow B 38 2 v 1 [tv, .bool r.explicit]) (ht : LS W tv r.types) : LR W v [r] := by
  obtain ⟨g, c, hv, hc, _⟩ := row_at h (by decide)
  obtain ⟨_, _, e2, _, hm2, _⟩ := row_max h
  rw [hv] at e2
  injection e2 with _ _ e2
  refine ⟨_, c, hv, hc, by rw [e2]; exact hm2, (fun h => by cases h), Or.inr ⟨g, 0, rfl, fun i x hx => ?_⟩⟩
  rw [hv] at h
  match i, hx with
  | 0, hx =>
    have e : x = r := by simpa using hx.symm
    subst e
    exact ⟨tv, ht, h.cellAt 0 (by decide), h.cellAt 1 (by decide)⟩
  | i + 1, hx => simp at hx
theorem lr_two {W : World} {B : Nat} {v tv sv : Value} {r s : RT} (h : W.ownsRow B 38 2 v 2 [tv, .bool r.explicit, sv, .bool s.explicit]) (ht : LS W tv r.types) (hs : LS W sv s.types) : LR W v [r, s] := by
  obtain ⟨g, c, hv, hc, _⟩ := row_at h (by decide)
  obtain ⟨_, _, e2, _, hm2, _⟩ := row_max h
  rw [hv] at e2
  injection e2 with _ _ e2
  refine ⟨_, c, hv, hc, by rw [e2]; exact hm2, (fun h => by cases h), Or.inr ⟨g, 0, rfl, fun i x hx => ?_⟩⟩
  rw [hv] at h
  match i, hx with
  | 0, hx =>
    have e : x = r := by simpa using hx.symm
    subst e
    exact ⟨tv, ht, h.cellAt 0 (by decide), h.cellAt 1 (by decide)⟩
  | 1, hx =>
    have e : x = s := by simpa using hx.symm
    subst e
    exact ⟨sv, hs, h.cellAt 2 (by decide), h.cellAt 3 (by decide)⟩
  | i + 2, hx => simp at hx
theorem at_one {len : Nat} {i : Int} (h : 0 ≤ i ∧ i < (len : Int)) : atI (idsOf 0 len) i = i := by
  have hl : i.toNat < len := by omega
  unfold atI
  rw [List.getD_eq_getElem?_getD, idsOf_get 0 hl]
  simp only [Option.getD_some]
  omega
theorem at_two {f : Int} {n len : Nat} {i : Int} (h : 0 ≤ i ∧ i < (len : Int)) : atI (idsOf f n ++ idsOf 0 len) ((n : Int) + i) = i := by
  have hl : i.toNat < len := by omega
  unfold atI
  rw [List.getD_eq_getElem?_getD, List.getElem?_append_right (by rw [idsOf_len]; omega), idsOf_len, show ((n : Int) + i).toNat - n = i.toNat by omega, idsOf_get 0 hl]
  simp only [Option.getD_some]
  omega
theorem fine_of {r : RT} (h : closedP 0 [r] = true) : ∀ x ∈ r.types, fineP x (r.types.length : Int) = true := fun x hx => by
  have := closedP_mem (g := 0) h rfl x hx
  simpa [cntT] using this
theorem ofK_len (c : CT) : c.ofK.params.length ≤ c.params.length ∧ c.ofK.results.length ≤ c.results.length ∧ c.ofK.fields.length ≤ c.fields.length := by
  unfold CT.ofK
  split
  · exact ⟨Nat.le_refl _, Nat.le_refl _, Nat.zero_le _⟩
  · split
    · exact ⟨Nat.zero_le _, Nat.zero_le _, Nat.le_refl _⟩
    · exact ⟨Nat.zero_le _, Nat.zero_le _, Nat.zero_le _⟩
theorem fit_1 {r : RT} (hb : muR r ≤ 1048576) (g : ∀ x ∈ r.types, Rng x) : Fit [r] := fit_of (by simpa using hb) (fun t ht x hx => by
  rw [List.mem_singleton] at ht; subst ht; exact g x hx)
theorem one_un {W : World} {lv mv : Value} {r m : RT} {i : Int} (ht : Tab W) (hl : LR W lv [r]) (hm : LR W mv [m, unR (m.types.length : Int) r]) (hb : muR r + muR m ≤ 1048576) (g1 : ∀ x ∈ r.types, Rng x) (g2 : ∀ x ∈ m.types, Rng x) (ca : closedP 0 [r] = true) (cm : closedP 0 [m] = true) (hi : 0 ≤ i ∧ i < (r.types.length : Int)) :
    Calls Tryd.prog 14 #[lv, mv, .int .i64 i, .int .i64 ((m.types.length : Int) + i)] W fun en w' => en = .returned (.tuple #[.bool true, .int .i64 0]) ∧ Grew W w' := by
  have l1 := sum_len (μ := muS) (fun a => by unfold muS; omega) r.types
  have l2 := sum_len (μ := muS) (fun a => by unfold muS; omega) m.types
  have hb' := hb
  unfold muR at hb'
  have f1 := fit_1 (r := r) (by omega) g1
  have fe := fine_of ca
  have f2 := un_fit fe (by omega) hb g1 g2
  have n1 := n_one (r := r) (by omega)
  obtain ⟨f, s2, n2⟩ := n_two (m := m) fe (by omega)
  obtain ⟨s', e1, _, gd, _⟩ := idsU_eq f1.sml ca
  have es : s' = S1 (tyT r) := by
    have := e1.symm.trans n1
    exact (Prod.mk.inj this).2
  rw [es] at gd
  have e3 : (unR (m.types.length : Int) r).types.length = r.types.length := by unfold unR; simp
  have c1 : cntT [r] = r.types.length := by simp [cntT]
  have c2 : cntT [m, unR (m.types.length : Int) r] = m.types.length + r.types.length := by simp [cntT, e3]
  have := one_yes (x := i) (y := (m.types.length : Int) + i) ht hl hm f1 f2 ca (un_closed ca cm) (by rw [c1]; exact hi) (by rw [c2]; omega) n1 n2 gd (by rw [idsOf_len, c1]) (by rw [List.length_append, idsOf_len, idsOf_len, c2])
  rw [at_one hi, at_two hi] at this
  simpa using this
theorem same_un {W : World} {lv : Value} {r : RT} {i k : Int} (ht : Tab W) (hl : LR W lv [r]) (hb : muR r ≤ 1048576) (g1 : ∀ x ∈ r.types, Rng x) (ca : closedP 0 [r] = true) (hi : 0 ≤ i ∧ i < (r.types.length : Int)) (hk : 0 ≤ k ∧ k < i) :
    Calls Tryd.prog 7 #[lv, .int .i64 i, .int .i64 k] W fun en w' => en = .returned (.tuple #[.bool false, .int .i64 0]) ∧ Grew W w' := by
  have l1 := sum_len (μ := muS) (fun a => by unfold muS; omega) r.types
  have hb' := hb
  unfold muR at hb'
  have h := same_any (a := i) (b := k) ht hl (fit_1 hb g1)
  have c1 : cntT [r] = r.types.length := by simp [cntT]
  have i1 : inL [r] i = true := by unfold inL; rw [c1]; simp; omega
  have i2 : inL [r] k = true := by unfold inL; rw [c1]; simp; omega
  have e1 : sameR [r] i k = false := by
    unfold sameR
    rw [idsU_one (by omega), at_one hi, at_one (by omega)]
    have : decide (i = k) = false := by simp; omega
    rw [this]; simp
  have e2 : sameE [r] i k = 0 := by unfold sameE; rw [ca, i1, i2]; rfl
  rw [e1, e2] at h
  exact h
set_option maxRecDepth 100000 in
set_option maxHeartbeats 4000000 in
theorem unrolled_no {w : World} {gv mv : Value} {r m : RT} (ht : Tab w) (hg : LS w gv r.types) (hm : LS w mv m.types) (hb : muR r + muR m ≤ 1048576) (g1 : ∀ x ∈ r.types, Rng x) (g2 : ∀ x ∈ m.types, Rng x) (hc : closedP 0 [r] = false ∨ closedP 0 [m] = false) :
    Calls Tryd.prog 4 #[.agg #[gv, .bool r.explicit], .agg #[mv, .bool m.explicit]] w fun en w' => en = .returned (.bool true) ∧ Grew w w' := by
  have CV : Hid (∀ W, Grew w W → Calls Tryd.prog 6 #[] W fun en w' => en = .returned (.bool true) ∧ Grew W w') := fun W g => alive_any (ht.grew g)
  have HTab : Hid (Tab w) := ht
  obtain ⟨ga, gc, eg, _⟩ := hg.one
  subst eg
  obtain ⟨ma, mc, em, _⟩ := hm.one
  subst em
  have HG : Hid (LS w (.slice ga r.types.length gc) r.types) := hg
  have HM : Hid (LS w (.slice ma m.types.length mc) m.types) := hm
  have HB : Hid (muR r + muR m ≤ 1048576) := hb
  have HG1 : Hid (∀ x ∈ r.types, Rng x) := g1
  have HG2 : Hid (∀ x ∈ m.types, Rng x) := g2
  have hlr : r.types.length ≤ 1048576 := by
    have l1 := sum_len (μ := muS) (fun a => by unfold muS; omega) r.types
    unfold muR at hb; omega
  have hlm : m.types.length ≤ 1048576 := by
    have l1 := sum_len (μ := muS) (fun a => by unfold muS; omega) m.types
    unfold muR at hb; omega
  have CLr : Hid (∀ W v, LR W v [r] → Calls Tryd.prog 11 #[v] W fun en w' => ∃ p : Int, en = .returned (.tuple #[.int .i64 p, .int .i64 (if closedP 0 [r] then 0 else 50)]) ∧ Grew W w') := fun W v h => closed_any h (fit_1 (by omega) g1).sml
  have CLm : Hid (∀ W v, LR W v [m] → Calls Tryd.prog 11 #[v] W fun en w' => ∃ p : Int, en = .returned (.tuple #[.int .i64 p, .int .i64 (if closedP 0 [m] then 0 else 50)]) ∧ Grew W w') := fun W v h => closed_any h (fit_1 (by omega) g2).sml
  obtain ⟨ev, hev⟩ : ∃ ev : Int, (if closedP 0 [r] then 0 else 50) = ev := ⟨_, rfl⟩
  obtain ⟨fv, hfv⟩ : ∃ fv : Int, (if closedP 0 [m] then 0 else 50) = fv := ⟨_, rfl⟩
  rw [hev] at CLr
  rw [hfv] at CLm
  have HNE : Hid (ev ≠ 0 ∨ fv ≠ 0) := by
    rcases hc with h | h
    · rw [h] at hev; exact Or.inl (by rw [← hev]; decide)
    · rw [h] at hfv; exact Or.inr (by rw [← hfv]; decide)
  clear ht hg hm hb g1 g2 hc hev hfv
  go_enter Tryd.func4, Tryd.ntmps4
  go_wp2_with fail
  have g0 : Grew w ((w.alloc (.cells #[.slice ga r.types.length gc, .bool r.explicit] 38)).alloc (.cells #[.slice ma m.types.length mc, .bool m.explicit] 38)) := ((Grew.refl w).alloc _).alloc _
  have BG0 : ((w.alloc (.cells #[.slice ga r.types.length gc, .bool r.explicit] 38)).alloc (.cells #[.slice ma m.types.length mc, .bool m.explicit] 38)).heap[w.heap.size]? = some (.cells #[.slice ga r.types.length gc, .bool r.explicit] 38 (0, 0)) := heap_alloc (heap_alloc_last _ _) _
  have BM0 : ((w.alloc (.cells #[.slice ga r.types.length gc, .bool r.explicit] 38)).alloc (.cells #[.slice ma m.types.length mc, .bool m.explicit] 38)).heap[w.heap.size + 1]? = some (.cells #[.slice ma m.types.length mc, .bool m.explicit] 38 (0, 0)) := by
    have e1 : (w.alloc (.cells #[.slice ga r.types.length gc, .bool r.explicit] 38)).heap.size = w.heap.size + 1 := alloc_size _ _
    rw [← e1]; exact heap_alloc_last _ _
  generalize ((w.alloc (.cells #[.slice ga r.types.length gc, .bool r.explicit] 38)).alloc (.cells #[.slice ma m.types.length mc, .bool m.explicit] 38)) = W0 at *
  refine (CV.out W0 g0).mono ?_
  rintro en w1 ⟨rfl, g1⟩
  have G1 : Hid (Grew w w1) := g0.trans g1
  have BG1 := g1.other BG0
  have BM1 := g1.other BM0
  have HBG1 : Hid (w1.heap[w.heap.size]? = some (.cells #[.slice ga r.types.length gc, .bool r.explicit] 38 (0, 0))) := BG1
  have HBM1 : Hid (w1.heap[w.heap.size + 1]? = some (.cells #[.slice ma m.types.length mc, .bool m.explicit] 38 (0, 0))) := BM1
  have a0 := cell_of BG1 0
  have a1 := cell_of BG1 1
  have b0 := cell_of BM1 0
  have b1 := cell_of BM1 1
  simp at a0 a1 b0 b1
  have k0 := lt_of_obj BG1
  have k1 := lt_of_obj BM1
  clear CV g0 g1 BG0 BM0 BG1 BM1
  go_wp2_with (first
    | (at_builtin; refine wp_app1a (w := w2) (v := NILS) (n := 0) (cs := []) (B := w2.heap.size) rfl _ _ 22 38 2 32 _ Tryd.underlying22 infoR rfl (by decide) (by decide) rfl rfl rfl (World.ownsRow_nil _ _ _ _) (Nat.le_refl _) rfl (by simp [Value.oneCell']) (by decide) ?_; intro v3 w3 hO3 hT3 hL3; obtain ⟨a3, c3, e3, _⟩ := row_max hO3; subst e3; have g3 : Grew w2 w3 := hT3.grew (Grew.refl _) (fun x hx => by cases hx))
    | (at_builtin; refine wp_app1a (w := w1) (v := NILS) (n := 0) (cs := []) (B := w1.heap.size) rfl _ _ 22 38 2 32 _ Tryd.underlying22 infoR rfl (by decide) (by decide) rfl rfl rfl (World.ownsRow_nil _ _ _ _) (Nat.le_refl _) rfl (by simp [Value.oneCell']) (by decide) ?_; intro v2 w2 hO2 hT2 hL2; obtain ⟨a2, c2, e2, _⟩ := row_max hO2; subst e2; have g2 : Grew w1 w2 := hT2.grew (Grew.refl _) (fun x hx => by cases hx); have b0' := cell_grew b0 g2; have b1' := cell_grew b1 g2; have k1' := Nat.lt_of_lt_of_le k1 g2.2))
  have HW3 : Hid (Grew w w3) := (G1.out.trans g2).trans g3
  have LRl : Hid (LR w3 (.slice a2 1 c2) [r]) := lr_one (B := w1.heap.size) (r := r) (row_grew hO2 g3) (HG.out.grew HW3.out)
  have LRm : Hid (LR w3 (.slice a3 1 c3) [m]) := lr_one (B := w2.heap.size) (r := m) hO3 (HM.out.grew HW3.out)
  clear hO2 hO3 hT2 hT3 hL2 hL3 g2 g3
  refine (CLr.out w3 _ LRl.out).mono ?_
  rintro en w4 ⟨p4, rfl, g4⟩
  have LRm4 : Hid (LR w4 (.slice a3 1 c3) [m]) := LRm.out.grew g4
  have HW4 : Hid (Grew w w4) := HW3.out.trans g4
  clear g4 CLr LRl LRm
  go_wp2_with fail
  refine (CLm.out w4 _ LRm4.out).mono ?_
  rintro en w5 ⟨p5, rfl, g5⟩
  have HW5 : Hid (Grew w w5) := HW4.out.trans g5
  clear g5 CLm LRm4
  by_cases he : ev = 0
  · subst he
    have hf : (fv == 0) = false := by
      rcases HNE.out with h | h
      · exact absurd rfl h
      · simpa using h
    have hf' : decide (fv = 0) = false := by simpa using hf
    go_wp2_with fail
    go_ret
    exact ⟨rfl, HW5.out⟩
  · have hf : (ev == 0) = false := by simpa using he
    go_wp2_with fail
    go_ret
    exact ⟨rfl, HW5.out⟩
set_option maxRecDepth 100000 in
set_option maxHeartbeats 4000000 in
theorem unrolled_yes {w : World} {gv mv : Value} {r m : RT} (ht : Tab w) (hg : LS w gv r.types) (hm : LS w mv m.types) (hb : muR r + muR m ≤ 1048576) (g1 : ∀ x ∈ r.types, Rng x) (g2 : ∀ x ∈ m.types, Rng x) (ca : closedP 0 [r] = true) (cm : closedP 0 [m] = true) :
    Calls Tryd.prog 4 #[.agg #[gv, .bool r.explicit], .agg #[mv, .bool m.explicit]] w fun en w' => en = .returned (.bool true) ∧ Grew w w' := by
  have CV : Hid (∀ W, Grew w W → Calls Tryd.prog 6 #[] W fun en w' => en = .returned (.bool true) ∧ Grew W w') := fun W g => alive_any (ht.grew g)
  have HTab : Hid (Tab w) := ht
  obtain ⟨ga, gc, eg, _⟩ := hg.one
  subst eg
  obtain ⟨ma, mc, em, _⟩ := hm.one
  subst em
  have HG : Hid (LS w (.slice ga r.types.length gc) r.types) := hg
  have HM : Hid (LS w (.slice ma m.types.length mc) m.types) := hm
  have HB : Hid (muR r + muR m ≤ 1048576) := hb
  have HG1 : Hid (∀ x ∈ r.types, Rng x) := g1
  have HG2 : Hid (∀ x ∈ m.types, Rng x) := g2
  have hlr : r.types.length ≤ 1048576 := by
    have l1 := sum_len (μ := muS) (fun a => by unfold muS; omega) r.types
    unfold muR at hb; omega
  have hlm : m.types.length ≤ 1048576 := by
    have l1 := sum_len (μ := muS) (fun a => by unfold muS; omega) m.types
    unfold muR at hb; omega
  have CLr : Hid (∀ W v, LR W v [r] → Calls Tryd.prog 11 #[v] W fun en w' => ∃ p : Int, en = .returned (.tuple #[.int .i64 p, .int .i64 (if closedP 0 [r] then 0 else 50)]) ∧ Grew W w') := fun W v h => closed_any h (fit_1 (by omega) g1).sml
  have CLm : Hid (∀ W v, LR W v [m] → Calls Tryd.prog 11 #[v] W fun en w' => ∃ p : Int, en = .returned (.tuple #[.int .i64 p, .int .i64 (if closedP 0 [m] then 0 else 50)]) ∧ Grew W w') := fun W v h => closed_any h (fit_1 (by omega) g2).sml
  rw [ca] at CLr
  rw [cm] at CLm
  have CR : Hid (∀ W v, LR W v [r] → Calls Tryd.prog 12 #[v, .int .i64 0] W fun e w' => ∃ u, e = .returned (.tuple #[.agg #[u, .bool r.explicit], .int .i64 0]) ∧ LS w' u (r.types.map fun x => x.cp.mp (rollN 0)) ∧ Grew W w') := fun W v h => roll_any (g := 0) h (fit_1 (by omega) g1).sml rfl (fun x hx k hk => by
    have := fineP_num (fine_of ca x hx) k (num_cp hk)
    simpa [cntT] using this)
  have CU : Hid (∀ W v, LS W v (r.types.map fun x => x.cp.mp (rollN 0)) → Calls Tryd.prog 13 #[.agg #[v, .bool r.explicit], .int .i64 (m.types.length : Int)] W fun e w' => ∃ u qs B hi, e = .returned (.tuple #[.agg #[u, .bool r.explicit], .int .i64 0]) ∧ SubsO B w' u qs hi ∧ W.heap.size ≤ B ∧ qs.map Prod.fst = (unR (m.types.length : Int) r).types ∧ Grew W w') := fun W v h => by
    have := unrollO_any (first := (m.types.length : Int)) (ex := r.explicit) h (by rw [List.length_map]; exact hlr) (fun x hx => by
      obtain ⟨y, hy, rfl⟩ := List.mem_map.1 hx
      have hsy := (fit_1 (r := r) (by omega) g1).sml.2.2 r (by simp) y hy
      obtain ⟨q1, q2, q3⟩ := ofK_len y.comp
      obtain ⟨s1, s2, s3, s4⟩ := hsy
      refine ⟨?_, ?_, ?_, ?_⟩
      · show (y.supers.map (rollN 0)).length ≤ _
        rw [List.length_map]; exact s1
      · show ((y.comp.ofK.params.map VT.cnt).map (VT.mp (rollN 0))).length ≤ _
        rw [List.length_map, List.length_map]; omega
      · show ((y.comp.ofK.results.map VT.cnt).map (VT.mp (rollN 0))).length ≤ _
        rw [List.length_map, List.length_map]; omega
      · show ((y.comp.ofK.fields.map FT.cnt).map (FT.mp (rollN 0))).length ≤ _
        rw [List.length_map, List.length_map]; omega) (by omega) (by omega) (fun x hx k hk => by
      obtain ⟨y, hy, rfl⟩ := List.mem_map.1 hx
      rw [List.length_map]
      exact num_roll (fine_of ca y hy) hk)
    rw [List.map_map] at this
    exact this
  have CO : Hid (∀ W lv mv i, Grew w W → LR W lv [r] → LR W mv [m, unR (m.types.length : Int) r] → 0 ≤ i ∧ i < (r.types.length : Int) → Calls Tryd.prog 14 #[lv, mv, .int .i64 i, .int .i64 ((m.types.length : Int) + i)] W fun en w' => en = .returned (.tuple #[.bool true, .int .i64 0]) ∧ Grew W w') := fun W lv mv i g h1 h2 hi => one_un (ht.grew g) h1 h2 hb g1 g2 ca cm hi
  have CS : Hid (∀ W lv i k, Grew w W → LR W lv [r] → 0 ≤ i ∧ i < (r.types.length : Int) → 0 ≤ k ∧ k < i → Calls Tryd.prog 7 #[lv, .int .i64 i, .int .i64 k] W fun en w' => en = .returned (.tuple #[.bool false, .int .i64 0]) ∧ Grew W w') := fun W lv i k g h1 hi hk => same_un (ht.grew g) h1 (by omega) g1 ca hi hk
  clear ht hg hm hb g1 g2 ca cm
  go_enter Tryd.func4, Tryd.ntmps4
  go_wp2_with fail
  have g0 : Grew w ((w.alloc (.cells #[.slice ga r.types.length gc, .bool r.explicit] 38)).alloc (.cells #[.slice ma m.types.length mc, .bool m.explicit] 38)) := ((Grew.refl w).alloc _).alloc _
  have BG0 : ((w.alloc (.cells #[.slice ga r.types.length gc, .bool r.explicit] 38)).alloc (.cells #[.slice ma m.types.length mc, .bool m.explicit] 38)).heap[w.heap.size]? = some (.cells #[.slice ga r.types.length gc, .bool r.explicit] 38 (0, 0)) := heap_alloc (heap_alloc_last _ _) _
  have BM0 : ((w.alloc (.cells #[.slice ga r.types.length gc, .bool r.explicit] 38)).alloc (.cells #[.slice ma m.types.length mc, .bool m.explicit] 38)).heap[w.heap.size + 1]? = some (.cells #[.slice ma m.types.length mc, .bool m.explicit] 38 (0, 0)) := by
    have e1 : (w.alloc (.cells #[.slice ga r.types.length gc, .bool r.explicit] 38)).heap.size = w.heap.size + 1 := alloc_size _ _
    rw [← e1]; exact heap_alloc_last _ _
  generalize ((w.alloc (.cells #[.slice ga r.types.length gc, .bool r.explicit] 38)).alloc (.cells #[.slice ma m.types.length mc, .bool m.explicit] 38)) = W0 at *
  refine (CV.out W0 g0).mono ?_
  rintro en w1 ⟨rfl, g1⟩
  have G1 : Hid (Grew w w1) := g0.trans g1
  have BG1 := g1.other BG0
  have BM1 := g1.other BM0
  have HBG1 : Hid (w1.heap[w.heap.size]? = some (.cells #[.slice ga r.types.length gc, .bool r.explicit] 38 (0, 0))) := BG1
  have HBM1 : Hid (w1.heap[w.heap.size + 1]? = some (.cells #[.slice ma m.types.length mc, .bool m.explicit] 38 (0, 0))) := BM1
  have a0 := cell_of BG1 0
  have a1 := cell_of BG1 1
  have b0 := cell_of BM1 0
  have b1 := cell_of BM1 1
  simp at a0 a1 b0 b1
  have k0 := lt_of_obj BG1
  have k1 := lt_of_obj BM1
  clear CV g0 g1 BG0 BM0 BG1 BM1
  go_wp2_with (first
    | (at_builtin; refine wp_app1a (w := w2) (v := NILS) (n := 0) (cs := []) (B := w2.heap.size) rfl _ _ 22 38 2 32 _ Tryd.underlying22 infoR rfl (by decide) (by decide) rfl rfl rfl (World.ownsRow_nil _ _ _ _) (Nat.le_refl _) rfl (by simp [Value.oneCell']) (by decide) ?_; intro v3 w3 hO3 hT3 hL3; obtain ⟨a3, c3, e3, _⟩ := row_max hO3; subst e3; have g3 : Grew w2 w3 := hT3.grew (Grew.refl _) (fun x hx => by cases hx))
    | (at_builtin; refine wp_app1a (w := w1) (v := NILS) (n := 0) (cs := []) (B := w1.heap.size) rfl _ _ 22 38 2 32 _ Tryd.underlying22 infoR rfl (by decide) (by decide) rfl rfl rfl (World.ownsRow_nil _ _ _ _) (Nat.le_refl _) rfl (by simp [Value.oneCell']) (by decide) ?_; intro v2 w2 hO2 hT2 hL2; obtain ⟨a2, c2, e2, _⟩ := row_max hO2; subst e2; have g2 : Grew w1 w2 := hT2.grew (Grew.refl _) (fun x hx => by cases hx); have b0' := cell_grew b0 g2; have b1' := cell_grew b1 g2; have k1' := Nat.lt_of_lt_of_le k1 g2.2))
  have HW3 : Hid (Grew w w3) := (G1.out.trans g2).trans g3
  have LRl : Hid (LR w3 (.slice a2 1 c2) [r]) := lr_one (B := w1.heap.size) (r := r) (row_grew hO2 g3) (HG.out.grew HW3.out)
  have LRm : Hid (LR w3 (.slice a3 1 c3) [m]) := lr_one (B := w2.heap.size) (r := m) hO3 (HM.out.grew HW3.out)
  have HBG3 : Hid (w3.heap[w.heap.size]? = some (.cells #[.slice ga r.types.length gc, .bool r.explicit] 38 (0, 0))) := g3.other (g2.other HBG1.out)
  have HBM3 : Hid (w3.heap[w.heap.size + 1]? = some (.cells #[.slice ma m.types.length mc, .bool m.explicit] 38 (0, 0))) := g3.other (g2.other HBM1.out)
  have HRL : Hid (w3.ownsRow w1.heap.size 38 2 (.slice a2 1 c2) 1 [.slice ga r.types.length gc, .bool r.explicit]) := row_grew hO2 g3
  have HRM : Hid (w3.ownsRow w2.heap.size 38 2 (.slice a3 1 c3) 1 [.slice ma m.types.length mc, .bool m.explicit]) := hO3
  have HOL : Hid (∀ g, (Value.slice a2 1 c2).ownBlock = some g → g < w2.heap.size) := fun g hg => (hO2.lt g hg).2
  have hw12 : w1.heap.size ≤ w2.heap.size := g2.2
  have hw23 : w2.heap.size ≤ w3.heap.size := g3.2
  have hwk : w.heap.size + 1 < w1.heap.size := k1
  clear hO2 hO3 hT2 hT3 hL2 hL3 g2 g3 a0 a1 b0 b1 b0' b1' k0 k1 k1'
  refine (CLr.out w3 _ LRl.out).mono ?_
  rintro en w4 ⟨p4, rfl, g4⟩
  have LRm4 : Hid (LR w4 (.slice a3 1 c3) [m]) := LRm.out.grew g4
  have H4 : Hid (Grew w3 w4) := g4
  clear g4 CLr LRm
  go_wp2_with fail
  refine (CLm.out w4 _ LRm4.out).mono ?_
  rintro en w5 ⟨p5, rfl, g5⟩
  have H5 : Hid (Grew w3 w5) := H4.out.trans g5
  clear g5 CLm LRm4 H4
  go_wp2_with fail
  refine (CR.out w5 _ (LRl.out.grew H5.out)).mono ?_
  rintro en w6 ⟨u6, rfl, ls6, g6⟩
  obtain ⟨ua6, uc6, eu6, _⟩ := ls6.one
  subst eu6
  have LS6 : Hid (LS w6 (.slice ua6 (r.types.map fun x => x.cp.mp (rollN 0)).length uc6) (r.types.map fun x => x.cp.mp (rollN 0))) := ls6
  have H6 : Hid (Grew w3 w6) := H5.out.trans g6
  have BM6 := H6.out.other HBM3.out
  have m0 := cell_of BM6 0
  have m1 := cell_of BM6 1
  simp at m0 m1
  have km := lt_of_obj BM6
  clear g6 ls6 CR H5 BM6
  generalize (r.types.map fun x => x.cp.mp (rollN 0)).length = N6 at *
  go_wp2_with fail
  have gA : Grew w6 (w6.alloc (.cells #[.slice ua6 N6 uc6, .bool r.explicit] 38)) := (Grew.refl w6).alloc _
  generalize (w6.alloc (.cells #[.slice ua6 N6 uc6, .bool r.explicit] 38)) = w7 at *
  refine (CU.out w7 _ (LS6.out.grew gA)).mono ?_
  rintro en w8 ⟨u8, qs, B8, hi8, rfl, so8, hB8, hq8, g8⟩
  obtain ⟨ua8, uc8, eu8, _⟩ := row_max so8.1
  subst eu8
  have H8 : Hid (Grew w3 w8) := (H6.out.trans gA).trans g8
  have SO8 : Hid (SubsO B8 w8 (.slice ua8 qs.length uc8) qs hi8) := so8
  have HQ8 : Hid (qs.map Prod.fst = (unR (m.types.length : Int) r).types) := hq8
  have hB8' : w3.heap.size ≤ B8 := Nat.le_trans (Nat.le_trans H6.out.2 gA.2) hB8
  clear gA g8 so8 hq8 hB8 CU LS6 H6 m0 m1 km
  generalize qs.length = Q8 at *
  go_wp2_with (at_builtin; refine wp_app1a (w := w8.alloc (.cells #[.slice ua8 Q8 uc8, .bool r.explicit] 38)) (v := .slice a3 1 c3) (n := 1) (cs := [.slice ma m.types.length mc, .bool m.explicit]) (B := w2.heap.size) rfl _ _ 22 38 2 32 _ Tryd.underlying22 infoR rfl (by decide) (by decide) rfl rfl (by first | rfl | (simp; rfl)) (row_grew HRM.out (H8.out.trans ((Grew.refl _).alloc _))) (by have := H8.out.2; simp; omega) rfl (by simp [Value.oneCell']) (by decide) ?_; intro v9 w9 hO9 hT9 hL9)
  have hO9' : w9.ownsRow w2.heap.size 38 2 v9 2 [.slice ma m.types.length mc, .bool m.explicit, .slice ua8 Q8 uc8, .bool r.explicit] := hO9
  clear hO9
  obtain ⟨a9, c9, e9, _⟩ := row_max hO9'
  subst e9
  have gU : Grew w8 (w8.alloc (.cells #[.slice ua8 Q8 uc8, .bool r.explicit] 38)) := (Grew.refl _).alloc _
  have HOM : ∀ g, (Value.slice a3 1 c3).ownBlock = some g → w2.heap.size ≤ g ∧ g < w3.heap.size := fun g hg => HRM.out.lt g hg
  have h3U : Grew w3 (w8.alloc (.cells #[.slice ua8 Q8 uc8, .bool r.explicit] 38)) := H8.out.trans gU
  have HW9 : Hid (Grew w w9) := hT9.grew (HW3.out.trans h3U) (fun x hx => by have := (HOM x hx).1; omega)
  have BG9 : w9.heap[w.heap.size]? = some (.cells #[.slice ga r.types.length gc, .bool r.explicit] 38 (0, 0)) := hT9.other (h3U.other HBG3.out) (fun hx => by have := (HOM _ hx).1; omega)
  have BM9 : w9.heap[w.heap.size + 1]? = some (.cells #[.slice ma m.types.length mc, .bool m.explicit] 38 (0, 0)) := hT9.other (h3U.other HBM3.out) (fun hx => by have := (HOM _ hx).1; omega)
  have LRl9 : Hid (LR w9 (.slice a2 1 c2) [r]) := lr_one (B := w1.heap.size) (r := r) (row_turnP (row_grew HRL.out h3U) hT9 (fun g hg hx => by have := (HOM g hx).1; have := HOL.out g hg; omega)) (HG.out.grew HW9.out)
  have LSu : LS w9 (.slice ua8 Q8 uc8) (unR (m.types.length : Int) r).types := by
    rw [← HQ8.out]
    exact ((SO8.out.grew gU).low hT9 (fun g hx => by have := (HOM g hx).2; omega)).lst
  have LRm9 : Hid (LR w9 (.slice a9 2 c9) [m, unR (m.types.length : Int) r]) := lr_two (B := w2.heap.size) (r := m) (s := unR (m.types.length : Int) r) hO9' (HM.out.grew HW9.out) LSu
  have HBG9 : Hid (w9.heap[w.heap.size]? = some (.cells #[.slice ga r.types.length gc, .bool r.explicit] 38 (0, 0))) := BG9
  have HBM9 : Hid (w9.heap[w.heap.size + 1]? = some (.cells #[.slice ma m.types.length mc, .bool m.explicit] 38 (0, 0))) := BM9
  clear hO9' hT9 hL9 gU HOM h3U BG9 BM9 LSu SO8 HQ8 HRL HRM HOL LRl HBG3 HBM3 HBG1 HBM1 HG HM H8 HW3 G1 HB HG1 HG2
  go_loopw [13] (fun i_ w' => ∃ i : Nat, i_ = .int .i64 i ∧ i ≤ r.types.length ∧ Hid (Grew w9 w')) (fun i_ _ => r.types.length - (intOf i_).toNat)
  case atStart => exact ⟨0, rfl, Nat.zero_le _, Grew.refl _⟩
  case round =>
    obtain ⟨i, rfl, hi, GI⟩ := hrel
    obtain ⟨w10, hw10⟩ : ∃ w10, w10 = wr := ⟨_, rfl⟩
    rw [← hw10] at GI ⊢
    clear hw10
    have B1 := GI.out.other HBG9.out
    have B2 := GI.out.other HBM9.out
    have p0 := cell_of B1 0
    have p1 := cell_of B1 1
    have q0 := cell_of B2 0
    have q1 := cell_of B2 1
    simp at p0 p1 q0 q1
    have l1 := lt_of_obj B1
    have l2 := lt_of_obj B2
    clear B1 B2
    by_cases hlt : i < r.types.length
    · have d1 : decide ((i : Int) < (r.types.length : Int)) = true := by simp; omega
      have C1 := CO.out w10 _ _ (i : Int) (HW9.out.trans GI.out) (LRl9.out.grew GI.out) (LRm9.out.grew GI.out) ⟨by omega, by omega⟩
      go_wp2_with fail
      refine C1.mono ?_
      rintro en w11 ⟨rfl, g11⟩
      have G11 : Hid (Grew w9 w11) := GI.out.trans g11
      clear C1 g11 p0 p1 q0 q1 GI
      go_wp2_with fail
      go_loopw [16] (fun k_ w' => ∃ k : Nat, k_ = .int .i64 k ∧ k ≤ i ∧ Hid (Grew w9 w')) (fun k_ _ => i - (intOf k_).toNat)
      case atStart => exact ⟨0, rfl, Nat.zero_le _, G11⟩
      case round =>
        obtain ⟨k, rfl, hk, GK⟩ := hrel
        obtain ⟨w12, hw12⟩ : ∃ w12, w12 = wr := ⟨_, rfl⟩
        rw [← hw12] at GK ⊢
        clear hw12
        by_cases hkl : k < i
        · have e1 : decide ((k : Int) < (i : Int)) = true := by simp; omega
          have C2 := CS.out w12 (.slice a2 1 c2) (i : Int) (k : Int) (HW9.out.trans GK.out) (LRl9.out.grew GK.out) ⟨by omega, by omega⟩ ⟨by omega, by omega⟩
          go_wp2_with fail
          refine C2.mono ?_
          rintro en w13 ⟨rfl, g13⟩
          have G13 : Hid (Grew w9 w13) := GK.out.trans g13
          clear C2 g13
          go_wp2_with fail
          go_roundw
          case rel => exact ⟨k + 1, by go_num, by omega, G13⟩
          case measure => simp [intOf]; omega
        · have e1 : decide ((k : Int) < (i : Int)) = false := by simp; omega
          go_wp2_with fail
          go_roundw
          case rel => exact ⟨i + 1, by go_num, by omega, GK⟩
          case measure => simp [intOf]; omega
    · have d1 : decide ((i : Int) < (r.types.length : Int)) = false := by simp; omega
      go_wp2_with fail
      go_ret
      exact ⟨rfl, HW9.out.trans GI.out⟩
end Go.Proofs.YthchhehmbldmdaaDoor
