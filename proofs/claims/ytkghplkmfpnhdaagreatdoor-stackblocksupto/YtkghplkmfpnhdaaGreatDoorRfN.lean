/-
  The document's New; no statement is proved here.
-/
import Derived.Test.YtkghplkmfpnhdaaGreatDoorRfL
namespace Go.Proofs.YtkghplkmfpnhdaaGreatDoor
open Go.RowKit
set_option linter.unusedVariables false
set_option linter.unusedSimpArgs false

/- The document's checker while it is made. -/
def RC (B : Nat) (w : World) (D : Nat) (lv sv : Value) (l : List VT) (s : List Bool) : Prop := (∃ t k3 k4 r, w.heap[D]? = some (.cells #[t, lv, sv, k3, k4, r] 93 (0, 0))) ∧ B ≤ D ∧ RowV B w lv l ∧ RowB B w sv s
theorem RC.grew {B : Nat} {w w' : World} {D : Nat} {lv sv : Value} {l : List VT} {s : List Bool} (h : RC B w D lv sv l s) (g : Grew w w') : RC B w' D lv sv l s := by
  obtain ⟨⟨t, k3, k4, r, c⟩, h1, h2, h3⟩ := h
  exact ⟨⟨t, k3, k4, r, (g.turn []).other c (by simp)⟩, h1, row_grew h2 g, row_grew h3 g⟩
theorem RC.c1 {B : Nat} {w : World} {D : Nat} {lv sv : Value} {l : List VT} {s : List Bool} (h : RC B w D lv sv l s) : D < w.heap.size ∧ w.cell? ⟨D, 1, none⟩ = some lv ∧ w.cell? ⟨D, 2, none⟩ = some sv ∧ (∃ u, w.cell? ⟨D, 4, none⟩ = some u) ∧ w.frozen? ⟨D, 1, none⟩ = false ∧ w.frozen? ⟨D, 2, none⟩ = false ∧ w.frozen? ⟨D, 4, none⟩ = false := by
  obtain ⟨⟨t, k3, k4, r, c⟩, h1, h2, h3⟩ := h
  exact ⟨lt_of_obj c, by rw [cell_of c]; rfl, by rw [cell_of c]; rfl, ⟨k4, by rw [cell_of c]; rfl⟩, free_of c _, free_of c _, free_of c _⟩
theorem RC.push1 {B : Nat} {w w' : World} {D : Nat} {lv sv : Value} {l l' : List VT} {s : List Bool} (h : RC B w D lv sv l s) (k : Keep lv w w') {u : Value} (hu : RowV B w' u l') : w'.cell? ⟨D, 1, none⟩ = some lv ∧ w'.frozen? ⟨D, 1, none⟩ = false ∧ RC B (w'.setCell ⟨D, 1, none⟩ u) D u sv l' s := by
  obtain ⟨⟨t, k3, k4, r, c⟩, h1, h2, h3⟩ := h
  have c' := obj_keep c k (row_no h2 (by decide))
  exact ⟨by rw [cell_of c']; rfl, free_of c' 1, ⟨t, k3, k4, r, by rw [heap_set c']; rfl⟩, h1, row_set hu (NoT.of c' (by decide)) _, row_set (row_keep h3 k (row_no h2 (by decide))) (NoT.of c' (by decide)) _⟩
theorem RC.push2 {B : Nat} {w w' : World} {D : Nat} {lv sv : Value} {l : List VT} {s s' : List Bool} (h : RC B w D lv sv l s) (k : Keep sv w w') {u : Value} (hu : RowB B w' u s') : w'.cell? ⟨D, 2, none⟩ = some sv ∧ w'.frozen? ⟨D, 2, none⟩ = false ∧ RC B (w'.setCell ⟨D, 2, none⟩ u) D lv u l s' := by
  obtain ⟨⟨t, k3, k4, r, c⟩, h1, h2, h3⟩ := h
  have c' := obj_keep c k (row_no h3 (by decide))
  exact ⟨by rw [cell_of c']; rfl, free_of c' 2, ⟨t, k3, k4, r, by rw [heap_set c']; rfl⟩, h1, row_set (row_keep h2 k (row_no h3 (by decide))) (NoT.of c' (by decide)) _, row_set hu (NoT.of c' (by decide)) _⟩
theorem TB.kb {B : Nat} {w w' : World} (t : TB B B w w') (hB : B ≤ w.heap.size) : KB B w w' := ⟨⟨t.os, t.tape, t.output, t.size, fun k hk => t.block k (by omega) (by omega) hk⟩, t.size⟩
theorem call_rdefault (p : Value) (w : World) : (callFunc 20 #[p]).run Tryz.prog w = .ok (.enter 20 #[p]) w := by kernel_rfl
theorem step_rdefault {ops : Array Oper} {o : Oper} {a : Act} {w : World} {K : Act → World → Prop} {Q : Exit → Act → World → Prop} {E : Prop} (x : Operand) (n h : Int) (z d : Bool) (hd : Hid (defB ⟨n, z, h⟩ = d))
    (hop : o.op = .call { callee := .value (.func 20), args := #[x], argTypes := #[44] }) (hg : o.guard = none) (hx : a.eval x = .agg #[.int .i64 n, .bool z, .int .i64 h])
    (hk : ∀ w', Grew w w' → K (a.put o.dst (.bool d)) w') :
    if Region.wanted o (yielded ops a.tmps) = true then Oper.wp Tryz.prog o a w K Q else E :=
  step_callF hop (by simp [Region.wanted, hg]) (args := #[.agg #[.int .i64 n, .bool z, .int .i64 h]]) (by simp [hx]) (call_rdefault _ w) (rdefault_any n h z w) (by rintro e w' ⟨rfl, g⟩; refine Or.inl ⟨_, rfl, ?_⟩; have := hk w' g; rw [← hd.out] at this; exact this)
theorem call_rlist (p : Value) (w : World) : (callFunc 52 #[p]).run Tryz.prog w = .ok (.enter 52 #[p]) w := by kernel_rfl
theorem call_flags (p : Value) (w : World) : (callFunc 53 #[p]).run Tryz.prog w = .ok (.enter 53 #[p]) w := by kernel_rfl
theorem step_rlist {ops : Array Oper} {o : Oper} {a : Act} {w : World} {K : Act → World → Prop} {Q : Exit → Act → World → Prop} {E : Prop} (x : Operand) {v : Value} {l : List VT} (h : LV w v l) (hl : l.length ≤ 1048576)
    (hop : o.op = .call { callee := .value (.func 52), args := #[x], argTypes := #[23] }) (hg : o.guard = none) (hx : a.eval x = v)
    (hk : ∀ u w', isSl u → Grew w w' → K (a.put o.dst u) w') :
    if Region.wanted o (yielded ops a.tmps) = true then Oper.wp Tryz.prog o a w K Q else E :=
  step_callF hop (by simp [Region.wanted, hg]) (args := #[v]) (by simp [hx]) (call_rlist _ w) (rlist_any h hl) (by rintro e w' ⟨u, rfl, r, g⟩; exact Or.inl ⟨_, rfl, hk u w' (by obtain ⟨a, c, hc⟩ := row_one r; exact ⟨_, _, _, hc⟩) g⟩)
theorem step_flags {ops : Array Oper} {o : Oper} {a : Act} {w : World} {K : Act → World → Prop} {Q : Exit → Act → World → Prop} {E : Prop} (x : Operand) {v : Value} {l : List Bool} (h : LB w v l) (hl : l.length ≤ 1048576)
    (hop : o.op = .call { callee := .value (.func 53), args := #[x], argTypes := #[90] }) (hg : o.guard = none) (hx : a.eval x = v)
    (hk : ∀ u w', isSl u → Grew w w' → K (a.put o.dst u) w') :
    if Region.wanted o (yielded ops a.tmps) = true then Oper.wp Tryz.prog o a w K Q else E :=
  step_callF hop (by simp [Region.wanted, hg]) (args := #[v]) (by simp [hx]) (call_flags _ w) (flags_any h hl) (by rintro e w' ⟨u, rfl, r, g⟩; exact Or.inl ⟨_, rfl, hk u w' (by obtain ⟨a, c, hc⟩ := row_one r; exact ⟨_, _, _, hc⟩) g⟩)
set_option maxRecDepth 100000 in
set_option maxHeartbeats 8000000 in
theorem rnew_any {w : World} {ta : Option Addr} {tl tc : Nat} {pv lv rv : Value} {P Q R : List VT} (hP : LV w pv P) (hQ : LV w lv Q) (hR : LV w rv R) (h3 : P.length + Q.length ≤ 1048576) (h4 : R.length ≤ 1048576) :
    Calls Tryz.prog 30 #[.slice ta tl tc, pv, lv, rv] w fun en w' => (∃ p, en = .returned (.pointer p)) ∧ Grew w w' := by
  have C1 : Hid (∀ X, Grew w X → Calls Tryz.prog 52 #[rv] X fun en w' => ∃ u, en = .returned u ∧ RowV X.heap.size w' u R ∧ Grew X w') := fun X g => rlist_any (hR.grew g) h4
  obtain ⟨pa, pc, hv, _⟩ := hP.one
  subst hv
  obtain ⟨qa, qc, hv, _⟩ := hQ.one
  subst hv
  obtain ⟨ra, rc, hv, _⟩ := hR.one
  subst hv
  have HP : Hid (LV w (.slice pa P.length pc) P) := hP
  have HQ : Hid (LV w (.slice qa Q.length qc) Q) := hQ
  have HR : Hid (LV w (.slice ra R.length rc) R) := hR
  clear hP hQ hR
  go_enter Tryz.func30, Tryz.ntmps30
  go_wp2_with fail
  refine (C1.out _ (by repeat (first | exact Grew.refl _ | refine Grew.alloc ?_ _))).mono ?_
  rintro en w1 ⟨u1, rfl, r1, gg1⟩
  have G1 : Hid (Grew w w1) := Grew.trans (by repeat (first | exact Grew.refl _ | refine Grew.alloc ?_ _)) gg1
  obtain ⟨ua, uc, hu⟩ := row_one r1
  subst hu
  clear r1 gg1
  go_wp2_with fail
  have D0 : Hid (RC w.heap.size (w1.alloc (.cells #[.slice ta tl tc, NILS, NILS, NILS, NILS, .slice ua R.length uc] 93)) w1.heap.size NILS NILS [] []) := ⟨⟨_, _, _, _, heap_alloc_last _ _⟩, G1.out.2, RowV.nil _ _, RowB.nil _ _⟩
  have G2 : Hid (Grew w (w1.alloc (.cells #[.slice ta tl tc, NILS, NILS, NILS, NILS, .slice ua R.length uc] 93))) := G1.out.alloc _
  generalize (w1.alloc (.cells #[.slice ta tl tc, NILS, NILS, NILS, NILS, .slice ua R.length uc] 93)) = w2 at *
  have hDB : w.heap.size ≤ w1.heap.size := G1.out.2
  generalize w1.heap.size = D at *
  clear G1
  go_loopw [10] (fun i_ w' => ∃ (i : Nat) (lv sv : Value) (l : List VT) (s : List Bool), i_ = .int .i64 i ∧ i ≤ P.length ∧ l.length = i ∧ s.length = i ∧ Hid (RC w.heap.size w' D lv sv l s) ∧ Hid (Grew w w')) (fun i_ _ => P.length - (intOf i_).toNat)
  case atStart => exact ⟨0, _, _, [], [], rfl, Nat.zero_le _, rfl, rfl, D0, G2⟩
  case round =>
    clear D0 G2
    obtain ⟨i, lv, sv, l, s, rfl, hi, hl, hs, HD, G⟩ := hrel
    obtain ⟨w0, hw0⟩ : ∃ w0, w0 = wr := ⟨_, rfl⟩
    rw [← hw0] at G HD ⊢
    clear hw0
    obtain ⟨la, lc, hla⟩ := row_one HD.out.2.2.1
    obtain ⟨sa, sc, hsa⟩ := row_one HD.out.2.2.2
    subst hla hsa
    have HL : Hid (l.length = i) := hl
    have HSs : Hid (s.length = i) := hs
    have hll : l.length ≤ 1048576 := by omega
    have hsl : s.length ≤ 1048576 := by omega
    clear hl hs
    obtain ⟨hDl, c1, c2, _, z1, z2, _⟩ := HD.out.c1
    by_cases hlt : i < P.length
    · obtain ⟨x, hx⟩ : ∃ x, P[i]? = some x := ⟨_, List.getElem?_eq_getElem hlt⟩
      obtain ⟨b, off, ha, hc', hE⟩ := (HP.out.grew G.out).get (by omega)
      subst ha
      obtain ⟨x0, x1, x2⟩ := hE i x hx
      clear hE
      have d1 : decide ((i : Int) < (P.length : Int)) = true := by simp; omega
      have d2 : decide (i < P.length) = true := by simp; omega
      have d3 : (i : Int) < (P.length : Int) := by omega
      obtain ⟨tn, tz, th⟩ := x
      simp only at x0 x1 x2
      have hgs := G.out.2
      have hxl := lt_of_cell x0
      clear hx
      go_wp2_with fail
      go_region_law (refine step_app1 (v := .slice la l.length lc) (n := l.length) (cs := l.flatMap VT.c) (B := w.heap.size) (new := VT.c ⟨tn, tz, th⟩) rfl _ _ 23 44 3 24 _ Tryz.underlying23 infoV rfl (by decide) (by decide) rfl w.heap.size rfl rfl (row_grew HD.out.2.2.1 (by repeat (first | exact Grew.refl _ | refine Grew.alloc ?_ _ | refine Grew.drewN ?_ _ | refine Grew.drew ?_))) (by simp; omega) rfl ?_ (by simp [VT.c, Value.oneCell']) (by omega) ?_
                     · intro j hj
                       first | rw [cell_of (heap_alloc_last _ _)] | (change (World.alloc _ _).cell? _ = _; rw [cell_of (heap_alloc_last _ _)])
                       match j, hj with
                       | 0, _ => rfl
                       | 1, _ => rfl
                       | 2, _ => rfl
                     intro v3 w3 hO3 hT3 hG3
                     obtain ⟨va, vc, hv3⟩ := row_one hO3
                     subst hv3
                     have hO3' := RowV.snoc (a := ⟨tn, tz, th⟩) hO3
                     obtain ⟨n1, m1, K3⟩ := (HD.out.grew (by repeat (first | exact Grew.refl _ | refine Grew.alloc ?_ _ | refine Grew.drewN ?_ _ | refine Grew.drew ?_))).push1 hG3 hO3'
                     have HD3 := Hid.mk' K3
                     have G3 : Hid (Grew w w3) := KB.grew (Grew.trans G.out (by repeat (first | exact Grew.refl _ | refine Grew.alloc ?_ _ | refine Grew.drewN ?_ _ | refine Grew.drew ?_))) (hT3.kb (by simp; omega))
                     clear hO3 hT3 hG3 hO3' K3)
      all_goals
        obtain ⟨w4, hw4⟩ : ∃ w4, w4 = w3.setCell ⟨D, 1, none⟩ (.slice va (l.length + 1) vc) := ⟨_, rfl⟩
        rw [← hw4] at HD3 ⊢
        have G4 : Hid (Grew w w4) := by rw [hw4]; exact G3.out.set (p := ⟨D, 1, none⟩) hDB _
        clear hw4 G3 n1 m1 c1 c2 z1 z2
        obtain ⟨hDl4, c1, c2, _, z1, z2, _⟩ := HD3.out.c1
        have hgs4 := G4.out.2
        go_wp2_with (at_builtin; refine wp_app1 (v := .slice sa s.length sc) (n := s.length) (cs := s.flatMap bc) (B := w.heap.size) rfl _ _ 90 4 1 1 _ Tryz.underlying90 infoBo rfl (by decide) (by decide) rfl w.heap.size rfl rfl HD3.out.2.2.2 hgs4 rfl (by simp [Value.oneCell']) (by omega) ?_; intro v5 w5 hO5 hT5 hG5; obtain ⟨xa, xc, hv5⟩ := row_one hO5; subst hv5; obtain ⟨n5, m5, K5⟩ := HD3.out.push2 hG5 (RowB.snoc (a := true) hO5); have HD5 := Hid.mk' K5; have G5 : Hid (Grew w w5) := KB.grew G4.out (hT5.kb hgs4); clear hO5 hT5 hG5 K5)
        go_roundw
        case rel => exact ⟨i + 1, _, _, l ++ [⟨tn, tz, th⟩], s ++ [true], by go_num, by omega, by simp [HL.out], by simp [HSs.out], HD5, G5.out.set (p := ⟨D, 2, none⟩) hDB _⟩
        case measure => simp [intOf]; omega
    · have d1 : decide ((i : Int) < (P.length : Int)) = false := by simp; omega
      go_wp2_with fail
      have hlP : l.length = P.length := by have := HL.out; omega
      have hsP : s.length = P.length := by have := HSs.out; omega
      have HL0 : Hid (l.length = P.length + 0) := hlP
      have HS0 : Hid (s.length = P.length + 0) := hsP
      clear HL HSs hlP hsP hDl c1 c2 z1 z2
      go_loopw [11] (fun i_ w' => ∃ (j : Nat) (lv sv : Value) (l : List VT) (s : List Bool), i_ = .int .i64 j ∧ j ≤ Q.length ∧ Hid (l.length = P.length + j) ∧ Hid (s.length = P.length + j) ∧ Hid (RC w.heap.size w' D lv sv l s) ∧ Hid (Grew w w')) (fun i_ _ => Q.length - (intOf i_).toNat)
      case atStart => exact ⟨0, _, _, l, s, rfl, Nat.zero_le _, HL0, HS0, HD, G⟩
      case round =>
        clear HD G HL0 HS0 hll hsl
        clear l s la lc sa sc
        obtain ⟨j, lv, sv, l, s, rfl, hj, HL, HSs, HD, G⟩ := hrel
        obtain ⟨w0, hw0⟩ : ∃ w0, w0 = wr := ⟨_, rfl⟩
        rw [← hw0] at G HD ⊢
        clear hw0
        obtain ⟨la, lc, hla⟩ := row_one HD.out.2.2.1
        obtain ⟨sa, sc, hsa⟩ := row_one HD.out.2.2.2
        subst hla hsa
        have hll : l.length ≤ 1048576 := by have := HL.out; omega
        have hsl : s.length ≤ 1048576 := by have := HSs.out; omega
        obtain ⟨hDl, c1, c2, _, z1, z2, _⟩ := HD.out.c1
        by_cases hlt2 : j < Q.length
        · obtain ⟨x, hx⟩ : ∃ x, Q[j]? = some x := ⟨_, List.getElem?_eq_getElem hlt2⟩
          obtain ⟨b, off, ha, hc', hE⟩ := (HQ.out.grew G.out).get (by omega)
          have hE' := (HQ.out.get (by omega))
          obtain ⟨b', off', ha', _, hE0⟩ := hE'
          rw [ha] at ha'
          injection ha' with ha'
          injection ha' with hb' ho' _
          subst hb' ho' ha
          obtain ⟨x0, x1, x2⟩ := hE j x hx
          obtain ⟨y0, y1, y2⟩ := hE0 j x hx
          clear hE hE0
          have e1 : decide ((j : Int) < (Q.length : Int)) = true := by simp; omega
          have e2 : decide (j < Q.length) = true := by simp; omega
          have e3 : (j : Int) < (Q.length : Int) := by omega
          obtain ⟨d, hd⟩ : ∃ d, defB x = d := ⟨_, rfl⟩
          have HDf : Hid (defB x = d) := hd
          obtain ⟨tn, tz, th⟩ := x
          simp only at x0 x1 x2 y0 y1 y2
          have Y0 := Hid.mk' y0
          have Y1 := Hid.mk' y1
          have Y2 := Hid.mk' y2
          have hgs := G.out.2
          have hxl := lt_of_cell x0
          clear hx hd y0 y1 y2
          go_wp2_with fail
          go_region_law (refine step_app1 (v := .slice la l.length lc) (n := l.length) (cs := l.flatMap VT.c) (B := w.heap.size) (new := VT.c ⟨tn, tz, th⟩) rfl _ _ 23 44 3 24 _ Tryz.underlying23 infoV rfl (by decide) (by decide) rfl w.heap.size rfl rfl (row_grew HD.out.2.2.1 (by repeat (first | exact Grew.refl _ | refine Grew.alloc ?_ _ | refine Grew.drewN ?_ _ | refine Grew.drew ?_))) (by simp; omega) rfl ?_ (by simp [VT.c, Value.oneCell']) (by omega) ?_
                         · intro j hj
                           first | rw [cell_of (heap_alloc_last _ _)] | (change (World.alloc _ _).cell? _ = _; rw [cell_of (heap_alloc_last _ _)])
                           match j, hj with
                           | 0, _ => rfl
                           | 1, _ => rfl
                           | 2, _ => rfl
                         intro v3 w3 hO3 hT3 hG3
                         obtain ⟨va, vc, hv3⟩ := row_one hO3
                         subst hv3
                         have hO3' := RowV.snoc (a := ⟨tn, tz, th⟩) hO3
                         obtain ⟨n1, m1, K3⟩ := (HD.out.grew (by repeat (first | exact Grew.refl _ | refine Grew.alloc ?_ _ | refine Grew.drewN ?_ _ | refine Grew.drew ?_))).push1 hG3 hO3'
                         have HD3 := Hid.mk' K3
                         have G3 : Hid (Grew w w3) := KB.grew (Grew.trans G.out (by repeat (first | exact Grew.refl _ | refine Grew.alloc ?_ _ | refine Grew.drewN ?_ _ | refine Grew.drew ?_))) (hT3.kb (by simp; omega))
                         clear hO3 hT3 hG3 hO3' K3)
          all_goals
            obtain ⟨w4, hw4⟩ : ∃ w4, w4 = w3.setCell ⟨D, 1, none⟩ (.slice va (l.length + 1) vc) := ⟨_, rfl⟩
            rw [← hw4] at HD3 ⊢
            have G4 : Hid (Grew w w4) := by rw [hw4]; exact G3.out.set (p := ⟨D, 1, none⟩) hDB _
            clear hw4 G3 n1 m1 c1 c2 z1 z2 x0 x1 x2 hDl hxl
            obtain ⟨hDl, c1, c2, _, z1, z2, _⟩ := HD3.out.c1
            have x0 := cell_grew Y0.out G4.out
            have x1 := cell_grew Y1.out G4.out
            have x2 := cell_grew Y2.out G4.out
            have hxl := lt_of_cell x0
            have hgs4 := G4.out.2
            go_wp2_with fail
            go_region_law (first
              | (refine step_rdefault (.tmp 72) tn th tz d HDf rfl rfl rfl ?_
                 intro w6 g6
                 have g6' : Grew w4 w6 := (by first | exact g6 | exact ((Grew.refl _).drew).trans g6 | exact ((Grew.refl _).drewN _).trans g6)
                 have HD6 : Hid (RC w.heap.size w6 D (.slice va (l.length + 1) vc) (.slice sa s.length sc) (l ++ [⟨tn, tz, th⟩]) s) := HD3.out.grew g6'
                 have G6 : Hid (Grew w w6) := G4.out.trans g6'
                 have hgs6 := G6.out.2
                 obtain ⟨hDl6, c16, c26, _, z16, z26, _⟩ := HD6.out.c1
                 clear g6 g6')
              | (refine step_app1 (v := .slice sa s.length sc) (n := s.length) (cs := s.flatMap bc) (B := w.heap.size) (new := bc d) rfl _ _ 90 4 1 1 _ Tryz.underlying90 infoBo rfl (by decide) (by decide) rfl w.heap.size rfl rfl (row_grew HD6.out.2.2.2 (by repeat (first | exact Grew.refl _ | refine Grew.alloc ?_ _ | refine Grew.drewN ?_ _ | refine Grew.drew ?_))) (by simp; omega) rfl ?_ (by simp [bc, Value.oneCell']) (by omega) ?_
                 · intro j hj
                   first | rw [cell_of (heap_alloc_last _ _)] | (change (World.alloc _ _).cell? _ = _; rw [cell_of (heap_alloc_last _ _)])
                   match j, hj with
                   | 0, _ => rfl
                 intro v7 w7 hO7 hT7 hG7
                 obtain ⟨xa, xc, hv7⟩ := row_one hO7
                 subst hv7
                 have hO7' := RowB.snoc (a := d) hO7
                 obtain ⟨n7, m7, K7⟩ := (HD6.out.grew (by repeat (first | exact Grew.refl _ | refine Grew.alloc ?_ _ | refine Grew.drewN ?_ _ | refine Grew.drew ?_))).push2 hG7 hO7'
                 have HD7 := Hid.mk' K7
                 have G7 : Hid (Grew w w7) := KB.grew (Grew.trans G6.out (by repeat (first | exact Grew.refl _ | refine Grew.alloc ?_ _ | refine Grew.drewN ?_ _ | refine Grew.drew ?_))) (hT7.kb (by simp; omega))
                 clear hO7 hT7 hG7 hO7' K7))
            all_goals
              go_wp2_with fail
              go_roundw
              case rel => exact ⟨j + 1, _, _, l ++ [⟨tn, tz, th⟩], s ++ [d], by go_num, by omega, by simp [Hid, HL.out]; omega, by simp [Hid, HSs.out]; omega, HD7, G7.out.set (p := ⟨D, 2, none⟩) hDB _⟩
              case measure => simp [intOf]; omega
        · have e1 : decide ((j : Int) < (Q.length : Int)) = false := by simp; omega
          go_wp2_with fail
          clear C1
          have hgs := G.out.2
          go_region_law (first
            | (refine step_rlist (.tmp 79) (HR.out.grew (G.out.trans (by repeat (first | exact Grew.refl _ | refine Grew.alloc ?_ _ | refine Grew.drewN ?_ _ | refine Grew.drew ?_)))) h4 rfl rfl rfl ?_
               rintro u5 w5 ⟨ua5, ul5, uc5, rfl⟩ g5
               have g5' : Grew w0 w5 := (by first | exact g5 | exact ((Grew.refl _).drew).trans g5 | exact ((Grew.refl _).drewN _).trans g5)
               have HD5 := Hid.mk' (HD.out.grew g5')
               have G5 : Hid (Grew w w5) := G.out.trans g5'
               obtain ⟨hDl5, c15, c25, _, z15, z25, _⟩ := HD5.out.c1
               clear g5 g5')
            | (refine step_flags (.tmp 84) (RowB.lst (HD5.out.grew (by repeat (first | exact Grew.refl _ | refine Grew.alloc ?_ _ | refine Grew.drewN ?_ _ | refine Grew.drew ?_))).2.2.2) hsl rfl rfl rfl ?_
               rintro u6 w6 ⟨ua6, ul6, uc6, rfl⟩ g6
               have g6' : Grew w5 w6 := (by first | exact g6 | exact ((Grew.refl _).drew).trans g6 | exact ((Grew.refl _).drewN _).trans g6)
               have HD6 := Hid.mk' (HD5.out.grew g6')
               have G6 : Hid (Grew w w6) := G5.out.trans g6'
               obtain ⟨hDl6, c16, c26, ⟨u46, c46⟩, z16, z26, z46⟩ := HD6.out.c1
               clear g6 g6'))
          all_goals
            go_wp2_with fail
            go_ret
            exact ⟨⟨_, rfl⟩, (Grew.set G6.out (p := ⟨D, 4, none⟩) hDB _).alloc _⟩
end Go.Proofs.YtkghplkmfpnhdaaGreatDoor
