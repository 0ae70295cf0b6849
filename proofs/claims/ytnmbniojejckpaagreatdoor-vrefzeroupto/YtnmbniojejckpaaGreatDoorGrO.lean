/-
  stack's groupsOf; no statement is proved here.
-/
import Derived.Test.YtnmbniojejckpaaGreatDoorGrR
import Derived.Test.YtnmbniojejckpaaGreatDoorLoO
set_option maxRecDepth 100000
set_option maxHeartbeats 8000000
namespace Go.Proofs.YtnmbniojejckpaaGreatDoor
open Go.RowKit
set_option linter.unusedVariables false
set_option linter.unusedSimpArgs false
def SmS (x : SB) : Prop := x.supers.length ≤ 1048576 ∧ x.comp.params.length ≤ 1048576 ∧ x.comp.results.length ≤ 1048576 ∧ x.comp.fields.length ≤ 1048576
def SmR (r : RT) : Prop := r.types.length ≤ 1048576 ∧ ∀ x ∈ r.types, SmS x
theorem call_copV (p : Value) (w : World) : (callFunc 19 #[p]).run Tryz.prog w = .ok (.enter 19 #[p]) w := by kernel_rfl
theorem step_copV {ops : Array Oper} {o : Oper} {a : Act} {w : World} {K : Act → World → Prop} {Q : Exit → Act → World → Prop} {E : Prop} (x : Operand) {v : Value} {n : Nat} {cs : List Value} (hR : Raw 3 w v n cs) (hn : n ≤ 8388608)
    (hop : o.op = .call { callee := .value (.func 19), args := #[x], argTypes := #[27] }) (hg : o.guard = none) (hx : a.eval x = v)
    (h : ∀ g w', w.heap.size ≤ g → w'.heap[g]? = some (.cells cs.toArray 46 (0, 0)) → Grew w w' → K (a.put o.dst (.slice (some ⟨g, 0, none⟩) n n)) w') :
    if Region.wanted o (yielded ops a.tmps) = true then Oper.wp Tryz.prog o a w K Q else E :=
  step_callFk hop (by simp [Region.wanted, hg]) (args := #[v]) (by simp [hx]) (call_copV _ w) (copiedV_any hR hn) (by rintro e w' ⟨g, rfl, h1, h2, h3⟩; exact Or.inl ⟨_, rfl, h g w' h1 h2 h3⟩)
theorem groupsOf_any {w : World} {v : Value} {l : List RT} (h : LR w v l) (hn : l.length ≤ 1048576) (hs : ∀ r ∈ l, SmR r) :
    Calls Tryz.prog 18 #[v] w fun en w' => (∃ g, en = .returned (.slice (some ⟨g, 0, none⟩) l.length l.length)) ∧ Grew w w' := by
  obtain ⟨f, hf, hR, hc⟩ := h.raw
  obtain ⟨a, cap, hv, hle, hmx⟩ := hR.one
  subst hv
  have HC : Hid (∀ i x, l[i]? = some x → CellR w x (f i)) := hc
  have HF : Hid (∀ i, (f i).length = 2) := hf
  have HS : Hid (∀ r ∈ l, SmR r) := hs
  have C1 := copiedR_any hR (by omega)
  clear h hf hc hR hs
  go_enter Tryz.func18, Tryz.ntmps18
  go_wp2_with fail
  refine C1.mono ?_
  rintro en w1 ⟨O, rfl, hO, b1, g1⟩
  have G1 : Hid (Grew w w1) := g1
  have R1 : Hid (RestR w w1 O l 0) := RestR.of HF.out HC.out b1
  clear C1 b1 g1 HC HF
  go_wp2_with fail
  go_loopw [11] (fun i_ w' => ∃ (i : Nat), i_ = .int .i64 (i : Int) ∧ i ≤ l.length ∧ Hid (RestR w w' O l i) ∧ Hid (Grew w w')) (fun i_ _ => l.length - (intOf i_).toNat)
  case atStart => exact ⟨0, rfl, Nat.zero_le _, R1, G1⟩
  case round =>
    clear R1 G1
    obtain ⟨i, rfl, hi, HR, HG⟩ := hrel
    obtain ⟨w2, hw2⟩ : ∃ w2, w2 = wr := ⟨_, rfl⟩
    rw [← hw2] at HR HG ⊢
    clear hw2
    by_cases hlt : i < l.length
    · obtain ⟨r, hr⟩ : ∃ r, l[i]? = some r := ⟨_, List.getElem?_eq_getElem hlt⟩
      have d1 : decide ((i : Int) < (l.length : Int)) = true := by simp; omega
      have d2 : decide (i < l.length) = true := by simp; omega
      obtain ⟨cur, hb, hcz, hcr⟩ := HR.out
      obtain ⟨tv, lt, hcell⟩ := hcr i r (Nat.le_refl _) hr
      have lt2 := lt.grew HG.out
      obtain ⟨fs, hfs, hRs, hcs⟩ := lt.raw
      obtain ⟨ta, tcap, htv, _, _⟩ := lt.one
      subst htv
      have c0 : w2.cell? ⟨O, i * 2, none⟩ = some (.slice ta r.types.length tcap) := by rw [cell_of hb]; exact hcell
      have z0 : w2.frozen? ⟨O, i * 2, none⟩ = false := free_of hb _
      have hSm := HS.out r (List.mem_of_getElem? hr)
      have hOl : O < w2.heap.size := lt_of_obj hb
      clear hcr hcell hb hcz lt2
      have C2 := copiedS_any (hRs.grew HG.out) (by have := hSm.1; omega)
      have HCS : Hid (∀ i x, r.types[i]? = some x → CellS w x (fs i)) := hcs
      have HFS : Hid (∀ i, (fs i).length = 6) := hfs
      have HSm : Hid (SmR r) := hSm
      have hrl := hSm.1
      clear hfs hcs hRs lt hSm
      go_wp2_with fail
      refine C2.mono ?_
      rintro en w3 ⟨R, rfl, hRge, b3, g3⟩
      have G3 : Hid (Grew w w3) := HG.out.trans g3
      have S3 : Hid (RestS w w3 R r.types 0) := RestS.of HFS.out HCS.out b3
      have R3 : Hid (RestR w w3 O l i) := HR.out.grew g3
      have c3 := cell_grew c0 g3
      have z3 : w3.frozen? ⟨O, i * 2, none⟩ = false := by
        obtain ⟨cur, hb, _⟩ := R3.out
        exact free_of hb _
      have hne : R ≠ O := by omega
      have hRO : w.heap.size ≤ O := hO
      have hRl : R < w3.heap.size := lt_of_obj b3
      clear b3 g3 C2 c0 z0 HR HG HCS HFS
      go_wp2_with fail
      have G4 : Hid (Grew w (w3.setCell ⟨O, i * 2, none⟩ (.slice (some ⟨R, 0, none⟩) r.types.length r.types.length))) := G3.out.set hRO _
      have S4 : Hid (RestS w (w3.setCell ⟨O, i * 2, none⟩ (.slice (some ⟨R, 0, none⟩) r.types.length r.types.length)) R r.types 0) := S3.out.other hne _
      have R4 : Hid (RestR w (w3.setCell ⟨O, i * 2, none⟩ (.slice (some ⟨R, 0, none⟩) r.types.length r.types.length)) O l (i + 1)) := R3.out.set (by omega) _
      have c4 : (w3.setCell ⟨O, i * 2, none⟩ (.slice (some ⟨R, 0, none⟩) r.types.length r.types.length)).cell? ⟨O, i * 2, none⟩ = some (.slice (some ⟨R, 0, none⟩) r.types.length r.types.length) := by
        obtain ⟨cur, hb, hz, _⟩ := R3.out
        rw [cell_of (heap_set hb _ _), Array.getElem?_setIfInBounds_self_of_lt (by omega)]
      generalize (w3.setCell ⟨O, i * 2, none⟩ (.slice (some ⟨R, 0, none⟩) r.types.length r.types.length)) = w4 at *
      clear G3 S3 R3 c3 z3
      go_loopw [30] (fun n_ w' => ∃ (n : Nat), n_ = .int .i64 (n : Int) ∧ n ≤ r.types.length ∧ Hid (RestS w w' R r.types n) ∧ Hid (RestR w w' O l (i + 1)) ∧ Hid (Grew w w') ∧ Hid (w'.cell? ⟨O, i * 2, none⟩ = some (.slice (some ⟨R, 0, none⟩) r.types.length r.types.length))) (fun n_ _ => r.types.length - (intOf n_).toNat)
      case atStart => exact ⟨0, rfl, Nat.zero_le _, S4, R4, G4, c4⟩
      case round =>
        clear S4 R4 G4 c4
        obtain ⟨n, rfl, hn', HS5, HR5, HG5, HC5⟩ := hrel
        obtain ⟨w5, hw5⟩ : ∃ w5, w5 = wr := ⟨_, rfl⟩
        rw [← hw5] at HS5 HR5 HG5 HC5 ⊢
        clear hw5
        have c5 := HC5.out
        by_cases hlt2 : n < r.types.length
        · obtain ⟨x, hx⟩ : ∃ x, r.types[n]? = some x := ⟨_, List.getElem?_eq_getElem hlt2⟩
          have e1 : decide ((n : Int) < (r.types.length : Int)) = true := by simp; omega
          have e2 : decide (n < r.types.length) = true := by simp; omega
          obtain ⟨cur, hb, hcz, hcr⟩ := HS5.out
          obtain ⟨sv, pv, rv, fv, hsub, k1, k3, k4, k5⟩ := hcr n x (Nat.le_refl _) hx
          obtain ⟨hS1, hS2, hS3, hS4⟩ := HSm.out.2 x (List.mem_of_getElem? hx)
          have s1 : w5.cell? ⟨R, n * 6 + 1, none⟩ = some sv := by rw [cell_of hb]; exact k1
          have s3 : w5.cell? ⟨R, n * 6 + 3, none⟩ = some pv := by rw [cell_of hb]; exact k3
          have s4 : w5.cell? ⟨R, n * 6 + 4, none⟩ = some rv := by rw [cell_of hb]; exact k4
          have s5 : w5.cell? ⟨R, n * 6 + 5, none⟩ = some fv := by rw [cell_of hb]; exact k5
          have hRl5 : R < w5.heap.size := lt_of_obj hb
          have HB : Hid (w5.heap[R]? = some (.cells cur 108 (0, 0))) := hb
          obtain ⟨sva, svc, hsv, _, _⟩ := hsub.1.one
          obtain ⟨pva, pvc, hpv, _, _⟩ := hsub.2.1.one
          obtain ⟨rva, rvc, hrv, _, _⟩ := hsub.2.2.1.one
          obtain ⟨fva, fvc, hfv, _, _⟩ := hsub.2.2.2.one
          subst hsv hpv hrv hfv
          have HSub : Hid (SubR w x (.slice sva x.supers.length svc) (.slice pva x.comp.params.length pvc) (.slice rva x.comp.results.length rvc) (.slice fva x.comp.fields.length fvc)) := hsub
          have C5 := copiedI_any (w := w5) (HSub.out.1.raw.grew HG5.out) (by omega)
          clear hb hcr k1 k3 k4 k5 hsub
          go_wp2_with fail
          refine C5.mono ?_
          rintro en w6 ⟨Y1, rfl, hY1, _, g6⟩
          have s1' := cell_grew s1 g6
          have s3' := cell_grew s3 g6
          have s4' := cell_grew s4 g6
          have s5' := cell_grew s5 g6
          have c6 := cell_grew c5 g6
          have z6 : w6.frozen? ⟨R, n * 6 + 1, none⟩ = false := free_of ((g6.turn []).other HB.out (by simp)) _
          have G6 : Hid (Grew w w6) := HG5.out.trans g6
          have S6 : Hid (RestS w w6 R r.types (n + 1)) := (HS5.out.le (Nat.le_succ _)).grew g6
          have R6 : Hid (RestR w w6 O l (i + 1)) := HR5.out.grew g6
          have hR6 : R < w6.heap.size := Nat.lt_of_lt_of_le hRl5 g6.2
          have hRw : w.heap.size ≤ R := by have := hO; omega
          clear g6 s1 s3 s4 s5 c5 HC5 HB C5 HS5 HR5 HG5 hcz
          clear cur
          go_wp2_with fail
          have G7 : Hid (Grew w (w6.setCell ⟨R, n * 6 + 1, none⟩ (.slice (some ⟨Y1, 0, none⟩) x.supers.length x.supers.length))) := G6.out.set hRw _
          have S7 : Hid (RestS w (w6.setCell ⟨R, n * 6 + 1, none⟩ (.slice (some ⟨Y1, 0, none⟩) x.supers.length x.supers.length)) R r.types (n + 1)) := S6.out.set (by omega) _
          have R7 : Hid (RestR w (w6.setCell ⟨R, n * 6 + 1, none⟩ (.slice (some ⟨Y1, 0, none⟩) x.supers.length x.supers.length)) O l (i + 1)) := R6.out.other (p := ⟨R, n * 6 + 1, none⟩) (Ne.symm hne) _
          have s3 : (w6.setCell ⟨R, n * 6 + 1, none⟩ (.slice (some ⟨Y1, 0, none⟩) x.supers.length x.supers.length)).cell? ⟨R, n * 6 + 3, none⟩ = some (.slice pva x.comp.params.length pvc) := by go_simp
          have s4 : (w6.setCell ⟨R, n * 6 + 1, none⟩ (.slice (some ⟨Y1, 0, none⟩) x.supers.length x.supers.length)).cell? ⟨R, n * 6 + 4, none⟩ = some (.slice rva x.comp.results.length rvc) := by go_simp
          have s5 : (w6.setCell ⟨R, n * 6 + 1, none⟩ (.slice (some ⟨Y1, 0, none⟩) x.supers.length x.supers.length)).cell? ⟨R, n * 6 + 5, none⟩ = some (.slice fva x.comp.fields.length fvc) := by go_simp
          have c7 : (w6.setCell ⟨R, n * 6 + 1, none⟩ (.slice (some ⟨Y1, 0, none⟩) x.supers.length x.supers.length)).cell? ⟨O, i * 2, none⟩ = some (.slice (some ⟨R, 0, none⟩) r.types.length r.types.length) := by
            rw [World.cell?_setCell_other _ _ _ _ (by simp [hne, Ne.symm hne])]; exact c6
          generalize (w6.setCell ⟨R, n * 6 + 1, none⟩ (.slice (some ⟨Y1, 0, none⟩) x.supers.length x.supers.length)) = w7 at *
          have hR7 : R < w7.heap.size := lt_of_cell s3
          have L2 : Hid (LV w (.slice pva x.comp.params.length pvc) x.comp.params) := HSub.out.2.1
          have L3 : Hid (LV w (.slice rva x.comp.results.length rvc) x.comp.results) := HSub.out.2.2.1
          clear s1' s3' s4' s5' c6 z6 G6 S6 R6
          obtain ⟨cur7, hb7, hz7, _⟩ := S7.out
          have HB7 : Hid (w7.heap[R]? = some (.cells cur7 108 (0, 0))) := hb7
          have HZ7 : Hid (cur7.size = r.types.length * 6) := hz7
          clear hb7 hz7
          go_region_law (first
            | (refine step_copV (.tmp 54) (L2.out.raw.grew (by repeat (first | exact G7.out | refine Grew.drewN ?_ _ | refine Grew.drew ?_))) (by omega) rfl rfl rfl ?_
               intro Y2 w8 hY2 _ g8
               have gg8 : Grew w7 w8 := (by first | exact g8 | exact ((Grew.refl _).drew).trans g8 | exact ((Grew.refl _).drewN _).trans g8)
               have HB8 : Hid (w8.heap[R]? = some (.cells cur7 108 (0, 0))) := (gg8.turn []).other HB7.out (by simp)
               have G8 : Hid (Grew w w8) := G7.out.trans gg8
               have GG8 : Hid (Grew w7 w8) := gg8
               have u3 := cell_grew s3 gg8
               have u4 := cell_grew s4 gg8
               clear g8 gg8)
            | (refine step_copV (.tmp 60) (L3.out.raw.grew (by repeat (first | exact G8.out | refine Grew.drewN ?_ _ | refine Grew.drew ?_))) (by omega) rfl rfl rfl ?_
               intro Y3 w9 hY3 _ g9
               have gg9 : Grew w8 w9 := (by first | exact g9 | exact ((Grew.refl _).drew).trans g9 | exact ((Grew.refl _).drewN _).trans g9)
               have HB9 : Hid (w9.heap[R]? = some (.cells cur7 108 (0, 0))) := (gg9.turn []).other HB8.out (by simp)
               have G9 : Hid (Grew w7 w9) := GG8.out.trans gg9
               have p3 := cell_grew u3 gg9
               have p4 := cell_grew u4 gg9
               have f3 : w9.frozen? ⟨R, n * 6 + 3, none⟩ = false := free_of HB9.out _
               have f4 : w9.frozen? ⟨R, n * 6 + 4, none⟩ = false := free_of HB9.out _
               clear g9 gg9))
          all_goals
            have hw10 : ∃ W, W = (w9.setCell ⟨R, n * 6 + 2 + 1, none⟩ (.slice (some ⟨Y2, 0, none⟩) x.comp.params.length x.comp.params.length)).setCell ⟨R, n * 6 + 2 + 2, none⟩ (.slice (some ⟨Y3, 0, none⟩) x.comp.results.length x.comp.results.length) := ⟨_, rfl⟩
            obtain ⟨w10, hw10⟩ := hw10
            rw [← hw10]
            have G10 : Hid (Grew w w10) := by rw [hw10]; exact ((G7.out.trans G9.out).set (p := ⟨R, n * 6 + 2 + 1, none⟩) hRw _).set (p := ⟨R, n * 6 + 2 + 2, none⟩) hRw _
            have S10 : Hid (RestS w w10 R r.types (n + 1)) := by rw [hw10]; exact ((S7.out.grew G9.out).set (by omega) _).set (by omega) _
            have R10 : Hid (RestR w w10 O l (i + 1)) := by rw [hw10]; exact ((R7.out.grew G9.out).other (p := ⟨R, n * 6 + 2 + 1, none⟩) (Ne.symm hne) _).other (p := ⟨R, n * 6 + 2 + 2, none⟩) (Ne.symm hne) _
            have HB10 : Hid (w10.heap[R]? = some (.cells ((cur7.setIfInBounds (n * 6 + 2 + 1) (.slice (some ⟨Y2, 0, none⟩) x.comp.params.length x.comp.params.length)).setIfInBounds (n * 6 + 2 + 2) (.slice (some ⟨Y3, 0, none⟩) x.comp.results.length x.comp.results.length)) 108 (0, 0))) := by rw [hw10]; exact heap_set (heap_set HB9.out _ _) _ _
            have q5 : w10.cell? ⟨R, n * 6 + 2 + 3, none⟩ = some (.slice fva x.comp.fields.length fvc) := by
              rw [hw10, World.cell?_setCell_other _ _ _ _ (by simp), World.cell?_setCell_other _ _ _ _ (by simp)]
              exact cell_grew s5 G9.out
            have q0 : w10.cell? ⟨O, i * 2, none⟩ = some (.slice (some ⟨R, 0, none⟩) r.types.length r.types.length) := by
              rw [hw10, World.cell?_setCell_other _ _ _ _ (by simp [hne, Ne.symm hne]), World.cell?_setCell_other _ _ _ _ (by simp [hne, Ne.symm hne])]
              exact cell_grew c7 G9.out
            have C10 := copiedF_any (w := w10) (HSub.out.2.2.2.raw.grew G10.out) (by omega)
            clear hw10 p3 p4 f3 f4 HB9 G9 HB8 G8 GG8 u3 u4 s3 s4 s5 c7 G7 S7 R7 L2 L3 HB7 HZ7
            go_wp2_with fail
            refine C10.mono ?_
            rintro en w11 ⟨Y4, rfl, hY4, _, g11⟩
            have q5' := cell_grew q5 g11
            have q0' := cell_grew q0 g11
            have z11 : w11.frozen? ⟨R, n * 6 + 2 + 3, none⟩ = false := free_of ((g11.turn []).other HB10.out (by simp)) _
            have G11 : Hid (Grew w w11) := G10.out.trans g11
            have S11 : Hid (RestS w w11 R r.types (n + 1)) := S10.out.grew g11
            have R11 : Hid (RestR w w11 O l (i + 1)) := R10.out.grew g11
            clear g11 C10 q5 q0 HB10 G10 S10 R10
            go_wp2_with fail
            go_roundw
            case rel => exact ⟨n + 1, by go_num, by omega, S11.out.set (by omega) _, R11.out.other (p := ⟨R, n * 6 + 2 + 3, none⟩) (Ne.symm hne) _, G11.out.set (p := ⟨R, n * 6 + 2 + 3, none⟩) hRw _, by
              show World.cell? _ _ = _
              rw [World.cell?_setCell_other _ _ _ _ (by simp [hne, Ne.symm hne])]; exact q0'⟩
            case measure => simp [intOf]; omega
        · have e1 : decide ((n : Int) < (r.types.length : Int)) = false := by simp; omega
          go_wp2_with fail
          go_roundw
          case rel => exact ⟨i + 1, by go_num, by omega, HR5, HG5⟩
          case measure => simp [intOf]; omega
    · have d1 : decide ((i : Int) < (l.length : Int)) = false := by simp; omega
      go_wp2_with fail
      go_ret
      exact ⟨⟨_, rfl⟩, HG.out⟩
end Go.Proofs.YtnmbniojejckpaaGreatDoor
