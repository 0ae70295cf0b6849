/-
  The document's heaps, All; no statement is proved here.
-/
import Derived.Test.YtoihkcdjfhmccaaDoorTy
namespace Go.Proofs.YtoihkcdjfhmccaaDoor
open Go.RowKit
set_option linter.unusedVariables false
set_option linter.unusedSimpArgs false

def heapsL (l : List VT) : List Int := l.filterMap fun x => if x.num = 5 then some x.heap else none
theorem heapsL_len (l : List VT) : (heapsL l).length ≤ l.length := List.length_filterMap_le _ _
theorem take_snoc {α : Type} {l : List α} {i : Nat} {x : α} (h : l[i]? = some x) : l.take (i + 1) = l.take i ++ [x] := by
  rw [List.take_add_one, h]; rfl
theorem heapsL_yes {l : List VT} {i : Nat} {x : VT} (h : l[i]? = some x) (hx : x.num = 5) : heapsL (l.take (i + 1)) = heapsL (l.take i) ++ [x.heap] := by
  rw [take_snoc h]; unfold heapsL; rw [List.filterMap_append]; simp [hx]
theorem heapsL_no {l : List VT} {i : Nat} {x : VT} (h : l[i]? = some x) (hx : ¬ x.num = 5) : heapsL (l.take (i + 1)) = heapsL (l.take i) := by
  rw [take_snoc h]; unfold heapsL; rw [List.filterMap_append]; simp [hx]
set_option maxRecDepth 100000 in
theorem heaps_any {w : World} {v : Value} {l : List VT} (h : LV w v l) (hl : l.length ≤ 1048576) :
    Calls Tryd.prog 79 #[v] w fun en w' => ∃ u, en = .returned u ∧ RowI w.heap.size w' u (heapsL l) ∧ Grew w w' := by
  obtain ⟨a, cap, hv, hcap, hmax⟩ := h.one
  subst hv
  have H : Hid (LV w (.slice a l.length cap) l) := h
  obtain ⟨n, hn⟩ : ∃ n, n = l.length := ⟨_, rfl⟩
  rw [← hn] at hl hcap ⊢
  rw [← hn] at H
  have HN : Hid (n = l.length) := hn
  clear h hn
  go_enter Tryd.func79, Tryd.ntmps79
  go_wp2_with fail
  go_loopw [3, 4] (fun v_ i_ w' => ∃ i : Nat, i_ = .int .i64 i ∧ i ≤ n ∧ Hid (RowI w.heap.size w' v_ (heapsL (l.take i))) ∧ Hid (Grew w w')) (fun _ i_ _ => n - (intOf i_).toNat)
  case atStart => exact ⟨0, rfl, Nat.zero_le _, RowI.nil _ _, Grew.refl _⟩
  case round =>
    obtain ⟨i, rfl, hi, R, G⟩ := hrel
    obtain ⟨ra, rc, hra, hrc, hrm, _⟩ := row_max R.out
    subst hra
    by_cases hlt : i < n
    · obtain ⟨x, hx⟩ : ∃ x, l[i]? = some x := ⟨_, List.getElem?_eq_getElem (by have := HN.out; omega)⟩
      obtain ⟨b, off, ha, hc', hE⟩ := (H.out.grew G.out).get (by have := HN.out; omega)
      subst ha
      obtain ⟨c0, c1, c2⟩ := hE i x hx
      clear hE
      have d1 : decide ((i : Int) < (n : Int)) = true := by simp; omega
      have d2 : decide (i < n) = true := by simp; omega
      have hlen := heapsL_len (l.take i)
      rw [List.length_take] at hlen
      have hgs := G.out.2
      by_cases h5 : x.num = 5
      · have HS : Hid (heapsL (l.take (i + 1)) = heapsL (l.take i) ++ [x.heap]) := heapsL_yes hx h5
        rw [h5] at c0
        generalize x.heap = hp at *
        generalize hm : heapsL (l.take i) = m at *
        clear hx h5 hm
        go_wp2_with (at_builtin; refine wp_app1 (v := .slice ra m.length rc) (n := m.length) (cs := m.flatMap ic1) (B := w.heap.size) rfl _ _ 35 3 1 8 _ Tryd.underlying35 infoI rfl (by decide) (by decide) rfl w.heap.size rfl rfl R.out hgs rfl (by simp [Value.oneCell']) (by omega) ?_; intro v3 w3 hO3 hT3 hG3)
        go_roundw
        case rel => exact ⟨i + 1, by go_num, by omega, by rw [HS.out]; exact RowI.snoc hO3, hT3.grew' G.out (Nat.le_refl _) (Nat.le_refl _)⟩
        case measure => simp [intOf]; omega
      · have HS : Hid (heapsL (l.take (i + 1)) = heapsL (l.take i)) := heapsL_no hx h5
        have d5 : (x.num == 5) = false := by simpa using h5
        generalize hm : heapsL (l.take i) = m at *
        clear hx hm
        go_wp2_with fail
        go_roundw
        case rel => exact ⟨i + 1, by go_num, by omega, by rw [HS.out]; exact R.out, G.out⟩
        case measure => simp [intOf]; omega
    · have d1 : decide ((i : Int) < (n : Int)) = false := by simp; omega
      have hin : l.take i = l := List.take_of_length_le (by have := HN.out; omega)
      have e : heapsL l = heapsL (l.take i) := by rw [hin]
      go_wp2_with fail
      go_ret
      exact ⟨_, rfl, by rw [e]; exact R.out, G.out⟩
def allL (x : SB) : List Int := x.supers ++ heapsL x.comp.params ++ heapsL x.comp.results ++ heapsL (x.comp.fields.map FT.ty)
/- No list is too long. -/
def Sml (x : SB) : Prop := x.supers.length ≤ 1048576 ∧ x.comp.params.length ≤ 1048576 ∧ x.comp.results.length ≤ 1048576 ∧ x.comp.fields.length ≤ 1048576
theorem RowI.app {B : Nat} {w : World} {v : Value} {l m : List Int} (h : w.ownsRow B 3 1 v (l.length + m.length) (l.flatMap ic1 ++ m.flatMap ic1)) : RowI B w v (l ++ m) := by
  unfold RowI
  rw [List.length_append, List.flatMap_append]
  exact h
theorem RowI.app' {B : Nat} {w : World} {v : Value} {l m k : List Int} (h : w.ownsRow B 3 1 v (l.length + m.length) (l.flatMap ic1 ++ m.flatMap ic1)) (hk : k = l ++ m) : RowI B w v k := by
  subst hk; exact RowI.app h
theorem app_len {l m k : List Int} {a b c : Nat} (hk : k = l ++ m) (ha : l.length ≤ a) (hb : m.length ≤ b) (hc : a + b ≤ c) : k.length ≤ c := by
  subst hk; rw [List.length_append]; omega
theorem ei_cells {w : World} (b o : Nat) (y : Int) (h : EI w b o y) (j : Nat) (hj : j < 1) : w.cell? ⟨b, o + j, none⟩ = (ic1 y)[j]? := by
  obtain rfl : j = 0 := by omega
  exact h
theorem one_i (y : Int) : ∀ c ∈ ic1 y, c.oneCell' = true := by simp [ic1, Value.oneCell']
theorem heapsF_snoc {l : List FT} {i : Nat} {x : FT} (h : l[i]? = some x) : heapsL ((l.take (i + 1)).map FT.ty) = heapsL ((l.take i).map FT.ty) ++ heapsL [x.ty] := by
  rw [take_snoc h, List.map_append]; unfold heapsL; rw [List.filterMap_append]; rfl
theorem lv_one (w : World) (x : VT) : LV (w.alloc (.cells #[.int .i64 x.num, .bool x.null, .int .i64 x.heap] 71)) (.slice (some ⟨w.heap.size, 0, none⟩) 1 1) [x] := by
  refine ⟨_, 1, rfl, Nat.le_refl _, by decide, (fun h => by cases h), Or.inr ⟨_, 0, rfl, fun i y hy => ?_⟩⟩
  obtain rfl : i = 0 := by
    have := (List.getElem?_eq_some_iff.1 hy).1
    simp at this; omega
  simp only [List.getElem?_cons_zero, Option.some.injEq] at hy
  subst hy
  have h := heap_alloc_last w (.cells #[.int .i64 x.num, .bool x.null, .int .i64 x.heap] 71)
  exact ⟨cell_of h 0, cell_of h 1, cell_of h 2⟩
set_option maxRecDepth 100000 in
set_option maxHeartbeats 1000000 in
theorem all_any {w : World} {sv pv rv fv : Value} {x : SB} (h : SubR w x sv pv rv fv) (hm : Sml x) :
    Calls Tryd.prog 55 #[.agg #[.bool x.final_, sv, .int .i64 x.comp.kind, pv, rv, fv]] w fun en w' => ∃ u, en = .returned u ∧ RowI w.heap.size w' u (allL x) ∧ Grew w w' := by
  obtain ⟨h1, h2, h3, h4⟩ := h
  obtain ⟨m1, m2, m3, m4⟩ := hm
  obtain ⟨sa, sc, e1, _, _⟩ := h1.one
  obtain ⟨pa, pc, e2, _, _⟩ := h2.one
  obtain ⟨ra, rc, e3, _, _⟩ := h3.one
  obtain ⟨fa, fc, e4, _, _⟩ := h4.one
  subst e1 e2 e3 e4
  obtain ⟨fin, sup, ⟨kind, params, results, fields⟩⟩ := x
  simp only [allL] at *
  have H1 : Hid (LI w (.slice sa sup.length sc) sup) := h1
  have H2 : Hid (LV w (.slice pa params.length pc) params) := h2
  have H3 : Hid (LV w (.slice ra results.length rc) results) := h3
  have H4 : Hid (LF w (.slice fa fields.length fc) fields) := h4
  obtain ⟨pH, hpH⟩ : ∃ y, heapsL params = y := ⟨_, rfl⟩
  obtain ⟨rH, hrH⟩ : ∃ y, heapsL results = y := ⟨_, rfl⟩
  have q2 : pH.length ≤ 1048576 := by rw [← hpH]; exact Nat.le_trans (heapsL_len params) m2
  have q3 : rH.length ≤ 1048576 := by rw [← hrH]; exact Nat.le_trans (heapsL_len results) m3
  rw [hpH, hrH]
  clear h1 h2 h3 h4
  have G0 : Hid (Grew w (w.alloc (.cells #[.bool fin, .slice sa sup.length sc, .int .i64 kind, .slice pa params.length pc, .slice ra results.length rc, .slice fa fields.length fc] 42))) := (Grew.refl w).alloc _
  have A0 : Hid ((w.alloc (.cells #[.bool fin, .slice sa sup.length sc, .int .i64 kind, .slice pa params.length pc, .slice ra results.length rc, .slice fa fields.length fc] 42)).heap[w.heap.size]? = some (sobj fin (.slice sa sup.length sc) kind (.slice pa params.length pc) (.slice ra results.length rc) (.slice fa fields.length fc))) := heap_alloc_last _ _
  have S0 : Hid ((w.alloc (.cells #[.bool fin, .slice sa sup.length sc, .int .i64 kind, .slice pa params.length pc, .slice ra results.length rc, .slice fa fields.length fc] 42)).heap.size = w.heap.size + 1) := alloc_size _ _
  have L0 : Hid (LI (w.alloc (.cells #[.bool fin, .slice sa sup.length sc, .int .i64 kind, .slice pa params.length pc, .slice ra results.length rc, .slice fa fields.length fc] 42)) (.slice sa sup.length sc) sup) := H1.out.grew G0.out
  have N0 : Hid ((w.alloc (.cells #[.bool fin, .slice sa sup.length sc, .int .i64 kind, .slice pa params.length pc, .slice ra results.length rc, .slice fa fields.length fc] 42)).ownsRow (w.heap.size + 1) 3 1 NILS ([] : List Int).length (([] : List Int).flatMap ic1)) := World.ownsRow_nil _ _ _ _
  generalize hW : (w.alloc (.cells #[.bool fin, .slice sa sup.length sc, .int .i64 kind, .slice pa params.length pc, .slice ra results.length rc, .slice fa fields.length fc] 42)) = W at *
  obtain ⟨b0, b1, b2, b3, b4, b5⟩ := box_s A0.out
  go_enter Tryd.func55, Tryd.ntmps55
  go_wp2_with (at_builtin; refine wp_appL (f := ic1) (E := EI) (l := sup) (v := NILS) (n := (([] : List Int)).length) (cs := (([] : List Int)).flatMap ic1) (B := w.heap.size + 1) rfl _ _ 35 3 1 8 _ Tryd.underlying35 infoI rfl (by decide) (by decide) rfl (w.heap.size + 1) rfl rfl N0.out L0.out (fun _ => rfl) (fun b o y hy j hj => ei_cells b o y hy j hj) (Nat.le_of_eq S0.out.symm) one_i (by simp; omega) ?_; intro v1 w1 hO1 hT1 hG1; clear L0 N0; have g1 : Grew W w1 := hT1.grew (Nat.le_of_eq S0.out) (Nat.le_of_eq S0.out); have r1 := RowI.app hO1; rw [List.nil_append] at r1; have R1 : Hid (RowI (w.heap.size + 1) w1 v1 sup) := r1; clear r1; clear hT1 hO1 hG1; have G1 : Hid (Grew W w1) := g1; obtain ⟨c0, c1, c2, c3, c4, c5⟩ := box_s (g1.other A0.out); clear g1)
  refine (heaps_any (H2.out.grew (G0.out.trans G1.out)) m2).mono ?_
  rw [hpH]
  rintro en w2 ⟨u2, rfl, r2, g2⟩
  have U2 : Hid (LI w2 u2 pH) := r2.lst
  have R2 : Hid (RowI (w.heap.size + 1) w2 v1 sup) := R1.out.grew g2
  have G2 : Hid (Grew W w2) := G1.out.trans g2
  obtain ⟨ua2, uc2, e2, _, _⟩ := U2.out.one
  subst e2
  obtain ⟨va1, vc1, e1, _, _, _⟩ := row_max R2.out
  subst e1
  have hs2 : w.heap.size + 1 ≤ w2.heap.size := by have := G2.out.2; have := S0.out; omega
  clear r2 R1 G1 g2 c0 c1 c2 c3 c4 c5
  obtain ⟨mA, hm2⟩ : ∃ m, m = sup ++ pH := ⟨_, rfl⟩
  have l2 : mA.length ≤ 2097152 := by rw [hm2, List.length_append]; omega
  have MA : Hid (mA = sup ++ pH) := hm2
  clear hm2
  go_wp2_with (at_builtin; refine wp_appL (f := ic1) (E := EI) (l := pH) (v := (.slice va1 sup.length vc1)) (n := (sup).length) (cs := (sup).flatMap ic1) (B := w.heap.size + 1) rfl _ _ 35 3 1 8 _ Tryd.underlying35 infoI rfl (by decide) (by decide) rfl (w.heap.size + 1) rfl rfl R2.out U2.out (fun _ => rfl) (fun b o y hy j hj => ei_cells b o y hy j hj) hs2 one_i (by omega) ?_; intro v3 w3 hO3 hT3 hG3; have g3 : Grew W w3 := hT3.grew' G2.out (Nat.le_of_eq S0.out) (Nat.le_of_eq S0.out); have R3 : Hid (RowI (w.heap.size + 1) w3 v3 mA) := RowI.app' hO3 MA.out; clear hT3 hO3 hG3 R2 U2 G2; have G3 : Hid (Grew W w3) := g3; obtain ⟨c0, c1, c2, c3, c4, c5⟩ := box_s (g3.other A0.out); clear g3)
  refine (heaps_any (H3.out.grew (G0.out.trans G3.out)) m3).mono ?_
  rw [hrH]
  rintro en w4 ⟨u4, rfl, r4, g4⟩
  have U4 : Hid (LI w4 u4 rH) := r4.lst
  have R4 : Hid (RowI (w.heap.size + 1) w4 v3 mA) := R3.out.grew g4
  have G4 : Hid (Grew W w4) := G3.out.trans g4
  obtain ⟨ua4, uc4, e4, _, _⟩ := U4.out.one
  subst e4
  obtain ⟨va3, vc3, e3, _, _, _⟩ := row_max R4.out
  subst e3
  have hs4 : w.heap.size + 1 ≤ w4.heap.size := by have := G4.out.2; have := S0.out; omega
  clear r4 R3 G3 g4 c0 c1 c2 c3 c4 c5
  obtain ⟨mB, hm4⟩ : ∃ m, m = mA ++ rH := ⟨_, rfl⟩
  have l4 : mB.length ≤ 3145728 := by rw [hm4, List.length_append]; omega
  have MB : Hid (mB = mA ++ rH) := hm4
  clear hm4
  go_wp2_with (at_builtin; refine wp_appL (f := ic1) (E := EI) (l := rH) (v := (.slice va3 mA.length vc3)) (n := (mA).length) (cs := (mA).flatMap ic1) (B := w.heap.size + 1) rfl _ _ 35 3 1 8 _ Tryd.underlying35 infoI rfl (by decide) (by decide) rfl (w.heap.size + 1) rfl rfl R4.out U4.out (fun _ => rfl) (fun b o y hy j hj => ei_cells b o y hy j hj) hs4 one_i (by omega) ?_; intro v5 w5 hO5 hT5 hG5; have g5 : Grew W w5 := hT5.grew' G4.out (Nat.le_of_eq S0.out) (Nat.le_of_eq S0.out); have R5 : Hid (RowI (w.heap.size + 1) w5 v5 mB) := RowI.app' hO5 MB.out; clear hT5 hO5 hG5 R4 U4 G4; have G5 : Hid (Grew W w5) := g5; obtain ⟨c0, c1, c2, c3, c4, c5⟩ := box_s (g5.other A0.out); clear g5)
  clear c0 c1 c2 c3 c4 c5
  go_loopw [3, 4] (fun v_ i_ w' => ∃ (i : Nat) (m : List Int), i_ = .int .i64 i ∧ i ≤ fields.length ∧ Hid (m = mB ++ heapsL ((fields.take i).map FT.ty)) ∧ m.length ≤ 3145728 + i ∧ Hid (RowI (w.heap.size + 1) w' v_ m) ∧ Hid (Grew W w')) (fun _ i_ _ => fields.length - (intOf i_).toNat)
  case atStart => exact ⟨0, mB, rfl, Nat.zero_le _, by simp [heapsL, Hid], by omega, R5, G5⟩
  case round =>
    clear R5 G5
    obtain ⟨i, m, rfl, hi, HM, hml, R, G⟩ := hrel
    obtain ⟨c0, c1, c2, c3, c4, c5⟩ := box_s (G.out.other A0.out)
    obtain ⟨va, vc, ev, _, _, _⟩ := row_max R.out
    subst ev
    by_cases hlt : i < fields.length
    · obtain ⟨x, hx⟩ : ∃ x, fields[i]? = some x := ⟨_, List.getElem?_eq_getElem (by omega)⟩
      obtain ⟨fb, fo, hfa, hfc, hE⟩ := (H4.out.grew (G0.out.trans G.out)).get (by omega)
      subst hfa
      obtain ⟨⟨d0, d1, d2⟩, d3⟩ := hE i x hx
      clear hE
      have e1 : decide ((i : Int) < (fields.length : Int)) = true := by simp; omega
      have e2 : decide (i < fields.length) = true := by simp; omega
      have HX : Hid (heapsL ((fields.take (i + 1)).map FT.ty) = heapsL ((fields.take i).map FT.ty) ++ heapsL [x.ty]) := heapsF_snoc hx
      obtain ⟨⟨tn, tz, th⟩, mu⟩ := x
      simp only at d0 d1 d2 d3 HX
      clear hx
      go_wp2_with fail
      refine (heaps_any (lv_one wr ⟨tn, tz, th⟩) (by simp)).mono ?_
      rintro en w6 ⟨u6, rfl, r6, g6⟩
      obtain ⟨xH, hxH⟩ : ∃ y, heapsL [(⟨tn, tz, th⟩ : VT)] = y := ⟨_, rfl⟩
      have q6 : xH.length ≤ 1 := by rw [← hxH]; exact heapsL_len _
      rw [hxH] at r6 HX
      have U6 : Hid (LI w6 u6 xH) := r6.lst
      have gg : Grew wr w6 := ((Grew.refl wr).alloc _).trans g6
      have R6 : Hid (RowI (w.heap.size + 1) w6 (.slice va m.length vc) m) := R.out.grew gg
      have G6 : Hid (Grew W w6) := G.out.trans gg
      obtain ⟨ua6, uc6, e6, _, _⟩ := U6.out.one
      subst e6
      have hs6 : w.heap.size + 1 ≤ w6.heap.size := by have := G6.out.2; have := S0.out; omega
      obtain ⟨m', hm'⟩ : ∃ y, y = m ++ xH := ⟨_, rfl⟩
      have l' : m'.length ≤ 3145728 + (i + 1) := by rw [hm', List.length_append]; omega
      have M' : Hid (m' = m ++ xH) := hm'
      clear r6 gg g6 R hm' hxH c0 c1 c2 c3 c4 c5 d0 d1 d2 d3
      go_wp2_with (at_builtin; refine wp_appL (f := ic1) (E := EI) (l := xH) (v := (.slice va m.length vc)) (n := (m).length) (cs := (m).flatMap ic1) (B := w.heap.size + 1) rfl _ _ 35 3 1 8 _ Tryd.underlying35 infoI rfl (by decide) (by decide) rfl (w.heap.size + 1) rfl rfl R6.out U6.out (fun _ => rfl) (fun b o y hy j hj => ei_cells b o y hy j hj) hs6 one_i (by omega) ?_; intro v7 w7 hO7 hT7 hG7; have G7 : Hid (Grew W w7) := hT7.grew' G6.out (Nat.le_of_eq S0.out) (Nat.le_of_eq S0.out); have R7 : Hid (RowI (w.heap.size + 1) w7 v7 m') := RowI.app' hO7 M'.out; clear hT7 hO7 hG7 R6 U6 G6)
      go_roundw
      case rel => exact ⟨i + 1, m', by go_num, by omega, (by rw [M'.out, HM.out, HX.out, List.append_assoc] : m' = mB ++ heapsL ((fields.take (i + 1)).map FT.ty)), by omega, R7, G7⟩
      case measure => simp [intOf]; omega
    · have e1 : decide ((i : Int) < (fields.length : Int)) = false := by simp; omega
      have hin : fields.take i = fields := List.take_of_length_le (by omega)
      have em : sup ++ pH ++ rH ++ heapsL (fields.map FT.ty) = m := by rw [HM.out, hin, MB.out, MA.out]
      go_wp2_with fail
      go_ret
      exact ⟨_, rfl, by rw [em]; exact row_low R.out (Nat.le_succ _), G0.out.trans G.out⟩
end Go.Proofs.YtoihkcdjfhmccaaDoor
