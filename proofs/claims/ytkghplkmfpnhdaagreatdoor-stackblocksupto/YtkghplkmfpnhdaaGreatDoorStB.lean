/-
  The law StackBlocks walked; the statement itself is in the text SBlocks.
-/
import Derived.Test.YtkghplkmfpnhdaaGreatDoorStD
import Derived.Test.YtkghplkmfpnhdaaGreatDoorCbQ
import Derived.Test.YtkghplkmfpnhdaaGreatDoorBlM
namespace Go.Proofs.YtkghplkmfpnhdaaGreatDoor
open Go.RowKit
set_option linter.unusedVariables false
set_option linter.unusedSimpArgs false

theorem LV.empty (w : World) (a : Addr) : LV w (.slice (some a) 0 0) [] := ⟨some a, 0, rfl, Nat.le_refl _, by decide, (fun h => by cases h), Or.inl rfl⟩
theorem LU.grew {w w' : World} {v : Value} {l : List Int} (h : LU w v l) (g : Grew w w') : LU w' v l := Lst.grew (E := EU) (fun _ _ _ _ _ h g => cell_grew h g) h g
theorem infoE : (Tryz.prog.info? 30).map (fun i => (i.zero, i.size, i.bytes)) = some (some (.int .i64 0), 1, 8) := by kernel_rfl
def RowE (B : Nat) (w : World) (v : Value) (l : List Int) : Prop := w.ownsRow B 30 1 v l.length (l.flatMap ic1)
theorem RowE.nil (B : Nat) (w : World) : RowE B w NILS [] := World.ownsRow_nil _ _ _ _
theorem RowE.snoc {B : Nat} {w : World} {v : Value} {l : List Int} {a : Int} (h : w.ownsRow B 30 1 v (l.length + 1) (l.flatMap ic1 ++ ic1 a)) : RowE B w v (l ++ [a]) := by
  unfold RowE
  rw [List.length_append, List.flatMap_append]
  simpa using h
theorem RowE.lst {B : Nat} {w : World} {v : Value} {l : List Int} (h : RowE B w v l) : LI w v l := row_lst (f := ic1) (k := 1) (E := EI) (fun _ => rfl) h (fun b o x hh => hh 0 (by decide))
theorem getR_err (x : LO) : ∃ k : Value, (∃ n z h, k = .agg #[.int .i64 n, .bool z, .int .i64 h]) ∧ getR x = .tuple #[k, .int .i64 (erB x)] := by
  unfold getR erB
  cases x.set with
  | true => exact ⟨_, ⟨_, _, _, rfl⟩, rfl⟩
  | false => exact ⟨_, ⟨_, _, _, rfl⟩, rfl⟩
set_option maxRecDepth 100000 in
set_option maxHeartbeats 8000000 in
theorem stackBlocks_any {w : World} {tv pv lv rv : Value} {L : List RT} {P Q R : List VT} {ba ua : Option Addr} {bl bc ul uc : Nat} {lb : List VT} {lu : List Int} (hL : LR w tv L) (hP : LV w pv P) (hQ : LV w lv Q) (hR : LV w rv R) (hb0 : LV w (.slice ba bl bc) lb) (hu : LU w (.slice ua ul uc) lu) (hru : ∀ y ∈ lu, R32 y)
    (hb : (L.map muR).sum + P.length + Q.length + R.length + lb.length + lu.length ≤ 1048576) :
    Calls Tryz.prog 4 #[.agg #[tv, pv, lv, rv], .slice ba bl bc, .slice ua ul uc] w fun en w' => en = .returned (.bool true) ∧ Grew w w' := by
  have CB : Hid (∀ X, Grew w X → Calls Tryz.prog 6 #[.agg #[tv, pv, lv, rv]] X fun en w' => ∃ C lv' qv x p, en = .returned (.tuple #[.pointer (some ⟨C, 0, none⟩), .pointer p]) ∧ x.height = 0 ∧ x.fresh = 0 ∧ x.dead = false ∧ CK X.heap.size w' C lv' NILS NILS qv (locs P Q) [] [] [x] ∧ Grew X w') := fun X g => begin_any (hL.grew g) (hP.grew g) (hQ.grew g) (hR.grew g) (by have := sum_len (μ := muR) (fun a => by unfold muR; omega) L; omega) (sm_of (by omega)) (by omega) (by omega)
  have HB := Hid.mk' hb0
  have HU := Hid.mk' hu
  have HQ := Hid.mk' hQ
  have HRU := Hid.mk' hru
  obtain rfl := hb0.len
  obtain rfl := hu.len
  have CLB : Hid (∀ X, Grew w X → Calls Tryz.prog 11 #[.slice ba lb.length bc] X fun en w' => ∃ u, en = .returned u ∧ RowV X.heap.size w' u lb ∧ Grew X w') := fun X g => llist_any (hb0.grew g) (by omega)
  have b1 : lb.length ≤ 1048576 := by omega
  have b2 : lu.length ≤ 1048576 := by omega
  have b3 : P.length + Q.length ≤ 1048576 := by omega
  obtain ⟨ta, tc, hv, _⟩ := hL.one
  subst hv
  obtain ⟨pa, pc, hv, _⟩ := hP.one
  subst hv
  obtain ⟨qa, qc, hv, _⟩ := hQ.one
  subst hv
  obtain ⟨ra, rc, hv, _⟩ := hR.one
  subst hv
  clear hL hP hQ hR hb0 hu hb hru
  have hLL := locs_len P Q
  go_enter Tryz.func4, Tryz.ntmps4
  go_wp2_with fail
  obtain ⟨wa, hwa⟩ : ∃ wa, wa = w.alloc (.cells #[.slice ta L.length tc, .slice pa P.length pc, .slice qa Q.length qc, .slice ra R.length rc] 25) := ⟨_, rfl⟩
  have ga : Grew w wa := by rw [hwa]; exact (Grew.refl w).alloc _
  have N0 : Hid (wa.heap[w.heap.size]? = some (.cells #[.slice ta L.length tc, .slice pa P.length pc, .slice qa Q.length qc, .slice ra R.length rc] 25 (0, 0))) := by rw [hwa]; exact heap_alloc_last _ _
  rw [← hwa]
  clear hwa
  refine (CB.out _ ga).mono ?_
  rintro en w1 ⟨C, lv1, qv1, x, p1, rfl, hx1, hx2, hx3, K1, g1⟩
  have G1 := Hid.mk' g1
  have H1 : Hid (CK wa.heap.size w1 C lv1 NILS NILS qv1 (locs P Q) [] [] [x]) := K1
  have GA := Hid.mk' ga
  clear CB K1 g1 ga
  go_wp2_with fail
  refine (CLB.out _ (GA.out.trans G1.out)).mono ?_
  rintro en w2 ⟨u2, rfl, r2, g2⟩
  have G2 := Hid.mk' (G1.out.trans g2)
  have H2 := Hid.mk' (H1.out.grew g2)
  have C2 := pushesM H2.out (by simp) r2 b1
  obtain ⟨a2, c2, hu2⟩ := row_one r2
  subst hu2
  clear CLB g2 r2 H1 G1
  go_wp2_with fail
  refine C2.mono ?_
  rintro en w3 ⟨ov3, rfl, K3, B3⟩
  have G3 := Hid.mk' (KB.grew G2.out B3)
  have H3 := Hid.mk' K3
  have N3 := Hid.mk' ((G3.out.turn []).other N0.out (by simp))
  have e1 := cell_of N3.out 1
  have e2 := cell_of N3.out 2
  simp at e1 e2
  have hsum : IntKind.i64.wrap ((P.length : Int) + (Q.length : Int)) = ((P.length + Q.length : Nat) : Int) := by rw [IntKind.wrap_i64]; omega
  obtain ⟨M, hM⟩ : ∃ M, P.length + Q.length = M := ⟨_, rfl⟩
  rw [hM] at hsum
  clear C2 K3 B3 H2 G2
  go_wp2_with fail
  have hLM : (locs P Q).length = M := by rw [hLL, hM]
  have hM2 : M ≤ 1048576 := by omega
  go_loopw [10, 11] (fun v_ i_ w' => ∃ (i : Nat) (m : List Int), i_ = .int .i64 i ∧ i ≤ M ∧ Hid (m = ((locs P Q).take i).map erB) ∧ m.length ≤ i ∧ Hid (RowE w3.heap.size w' v_ m) ∧ Hid (Grew w3 w')) (fun _ i_ _ => M - (intOf i_).toNat)
  case atStart => exact ⟨0, [], rfl, Nat.zero_le _, rfl, by simp, RowE.nil _ _, Grew.refl _⟩
  case round =>
    obtain ⟨i, m, rfl, hi, HM, hml, RE, G⟩ := hrel
    obtain ⟨w4, hw4⟩ : ∃ w4, w4 = wr := ⟨_, rfl⟩
    rw [← hw4] at G RE ⊢
    clear hw4
    obtain ⟨va, vc, hva⟩ := row_one RE.out
    subst hva
    by_cases hlt : i < M
    · obtain ⟨y, hy⟩ : ∃ y, (locs P Q)[i]? = some y := ⟨_, List.getElem?_eq_getElem (by omega)⟩
      have d1 : decide ((i : Int) < (M : Int)) = true := by simp; omega
      have ew : IntKind.u32.wrap (i : Int) = (i : Int) := by rw [IntKind.wrap_u32]; omega
      have CG := getM_in (H3.out.grew G.out) hy (by omega)
      obtain ⟨kv, ⟨kn, kz, kh, hkv⟩, hgr⟩ := getR_err y
      subst hkv
      rw [hgr] at CG
      have HS : Hid (((locs P Q).take (i + 1)).map erB = m ++ [erB y]) := (by rw [HM.out, List.take_add_one, hy, List.map_append]; rfl : ((locs P Q).take (i + 1)).map erB = m ++ [erB y])
      generalize erB y = ey at *
      clear hy hgr
      go_wp2_with fail
      refine CG.mono ?_
      rintro en w5 ⟨rfl, g5⟩
      have g5' : Grew w4 (w5.alloc (.cells #[.int .i64 kn, .bool kz, .int .i64 kh] 44)) := g5.alloc _
      have R5 := Hid.mk' (row_grew RE.out g5')
      have G5 := Hid.mk' (G.out.trans g5')
      have hgs := G5.out.2
      clear CG g5 g5'
      go_wp2_with (at_builtin; refine wp_app1 (v := .slice va m.length vc) (n := m.length) (cs := m.flatMap ic1) (B := w3.heap.size) rfl _ _ 42 30 1 8 _ Tryz.underlying42 infoE rfl (by decide) (by decide) rfl w3.heap.size rfl (by first | rfl | (rw [alloc_size]; rfl)) R5.out hgs rfl (by simp [Value.oneCell']) (by omega) ?_; intro v6 w6 hO6 hT6 hG6)
      go_roundw
      case rel => exact ⟨i + 1, m ++ [ey], by go_num, by omega, HS.out.symm, by simp; omega, RowE.snoc (a := ey) hO6, hT6.grew' G5.out (Nat.le_refl _) (Nat.le_refl _)⟩
      case measure => simp [intOf]; omega
    · have d1 : decide ((i : Int) < (M : Int)) = false := by simp; omega
      have hin : (locs P Q).take i = locs P Q := List.take_of_length_le (by omega)
      have hMe : m = (locs P Q).map erB := by rw [HM.out, hin]
      have hmM : m.length = M := by rw [hMe, List.length_map, hLM]
      have HM2 := Hid.mk' hMe
      have H4 := Hid.mk' (H3.out.grew G.out)
      have G4 := Hid.mk' (G3.out.trans G.out)
      have hBw4 : wa.heap.size ≤ w4.heap.size := G4.out.2
      obtain ⟨g', c', hq⟩ := CK.frow (fs := []) H4.out
      subst hq
      have HP4 : CK wa.heap.size w4 C lv1 NILS ov3 (.slice (some ⟨g', 0, none⟩) (([] : List FV).length + 1) c') (locs P Q) [] lb ([] ++ [x]) := H4.out
      have C4 := enterM H4.out (by simp) (RowV.nil 0 w4) (RowV.nil 0 w4) (by simp) (by simp) (by simp) b1 (popsD HP4 (l := []) (Lst.nil _ _ _) (by simp))
      clear HP4
      clear HM hMe hin H3
      go_wp2_with fail
      refine C4.mono ?_
      rintro en w5 ⟨ov5, qv5, a5, b5, rfl, K5, na5, nb5, B5, T5⟩
      obtain ⟨ga5, _, hga5, _⟩ := na5
      obtain ⟨gb5, _, hgb5, _⟩ := nb5
      simp only [List.length_nil] at hga5 hgb5
      subst hga5 hgb5
      rw [List.append_nil] at K5
      have G5 := Hid.mk' (KB.grew G4.out B5)
      have H5 := Hid.mk' K5
      have RE5 := Hid.mk' (RowKT RE.out T5)
      clear C4 K5 B5 T5 H4 G4 G RE N3 e1 e2
      obtain ⟨F2, hF2⟩ : ∃ F2 : FV, F2 = ⟨2, .slice (some ⟨ga5, 0, none⟩) 0 0, .slice (some ⟨gb5, 0, none⟩) 0 0, lb.length, ([] : List Int).length, false⟩ := ⟨_, rfl⟩
      rw [← hF2] at H5
      have HF2 := Hid.mk' hF2
      clear hF2
      go_wp2_with fail
      go_loopw [14] (fun i_ w' => ∃ (j : Nat) (fv : Value) (lo : List LO) (fr : List Int), i_ = .int .i64 j ∧ j ≤ lu.length ∧ Hid (JL (locs P Q) lo fr) ∧ fr.length ≤ j ∧ Hid (CK wa.heap.size w' C lv1 fv ov5 qv5 lo fr lb ([x] ++ [F2])) ∧ Hid (RowE w3.heap.size w' (.slice va m.length vc) m) ∧ Hid (Grew wa w')) (fun i_ _ => lu.length - (intOf i_).toNat)
      case atStart => exact ⟨0, NILS, locs P Q, [], rfl, Nat.zero_le _, JL.start _, Nat.le_refl _, H5.out, RE5.out, G5.out⟩
      case round =>
        obtain ⟨j, fv, lo, fr, rfl, hj, HJ, hfl, H, RE, G⟩ := hrel
        obtain ⟨w6, hw6⟩ : ∃ w6, w6 = wr := ⟨_, rfl⟩
        rw [← hw6] at H RE G ⊢
        clear hw6 H5 RE5 G5
        have hlo : lo.length = M := by rw [HJ.out.1, hLM]
        by_cases hlt : j < lu.length
        · obtain ⟨y, hy⟩ : ∃ y, lu[j]? = some y := ⟨_, List.getElem?_eq_getElem hlt⟩
          have hy32 := HRU.out y (List.mem_of_getElem? hy)
          obtain ⟨n, rfl⟩ : ∃ n : Nat, y = n := ⟨y.toNat, by have := hy32.1; omega⟩
          have hn32 : n ≤ 4294967295 := by have := hy32.2; omega
          have d1 : decide ((j : Int) < (lu.length : Int)) = true := by simp; omega
          have d2 : decide (j < lu.length) = true := by simp; omega
          have i2 : (j : Int) < (lu.length : Int) := by omega
          have ew : IntKind.i64.wrap (n : Int) = (n : Int) := by rw [IntKind.wrap_i64]; omega
          have CU : Hid (∀ W, Grew w W → ∃ b o, ua = some ⟨b, o, none⟩ ∧ W.cell? ⟨b, o + j * 1, none⟩ = some (.int .u32 (n : Int))) := fun W g => by
            obtain ⟨b, o, ha, _, hE⟩ := (HU.out.grew g).get (by omega)
            exact ⟨b, o, ha, hE j _ hy⟩
          obtain ⟨b4, o4, ha, c4⟩ := CU.out w6 (GA.out.trans G.out)
          subst ha
          simp only [Nat.mul_one] at c4
          clear hy hy32
          by_cases hnm : n < M
          · have d3 : decide ((n : Int) ≥ (M : Int)) = false := by simp; omega
            obtain ⟨z, hz⟩ : ∃ z, lo[n]? = some z := ⟨_, List.getElem?_eq_getElem (by omega)⟩
            have CS := setM_in H.out hz (by omega) (by omega) G.out.2
            obtain ⟨HJ2, hz2⟩ := JL.step HJ.out hz hn32
            have hfl2 : (setL lo fr n z).2.length ≤ j + 1 := by
              unfold setL
              split
              · simp only; omega
              · simp only [List.length_append, List.length_singleton]; omega
            generalize (setL lo fr n z).1 = lo2 at *
            generalize (setL lo fr n z).2 = fr2 at *
            have HJ3 := Hid.mk' HJ2
            have HZ := Hid.mk' hz2
            obtain ⟨⟨zn, zz, zh⟩, zs⟩ := z
            simp only at CS HZ
            clear HJ2 hz hz2 HJ
            go_wp2_with fail
            refine CS.mono ?_
            rintro en w7 ⟨fv7, rfl, K7, B7, T7⟩
            have G7 := Hid.mk' (KB.grew G.out B7)
            have g8 : Grew w7 (w7.alloc (.cells #[.int .i64 zn, .bool zz, .int .i64 zh] 44)) := (Grew.refl _).alloc _
            have H8 := Hid.mk' (K7.grew g8)
            have R8 := Hid.mk' (row_grew (RowKT RE.out T7) g8)
            have G8 := Hid.mk' (G7.out.trans g8)
            obtain ⟨b8, o8, ha8, c8⟩ := CU.out _ (GA.out.trans G8.out)
            injection ha8 with ha8
            injection ha8 with e1 e2
            subst e1 e2
            simp only [Nat.mul_one] at c8
            have CG := getM_in H8.out HZ.out (by omega)
            unfold getR at CG
            simp only [if_true] at CG
            clear CS K7 B7 T7 g8 H RE G
            go_wp2_with fail
            refine CG.mono ?_
            rintro en w9 ⟨rfl, g9⟩
            have g10 : Grew (w7.alloc (.cells #[.int .i64 zn, .bool zz, .int .i64 zh] 44)) (w9.alloc (.cells #[.int .i64 zn, .bool zz, .int .i64 zh] 44)) := g9.alloc _
            have g11 : Grew (w9.alloc (.cells #[.int .i64 zn, .bool zz, .int .i64 zh] 44)) (w9.alloc (.cells #[.int .i64 zn, .bool zz, .int .i64 zh] 44)) := Grew.refl _
            obtain ⟨_, _, p0, p1', p2, _⟩ := fresh3g g10
            obtain ⟨_, _, q0, q1, q2, _⟩ := fresh3g g11
            have H10 := Hid.mk' (H8.out.grew g10)
            have R10 := Hid.mk' (row_grew R8.out g10)
            have G10 := Hid.mk' (G8.out.trans g10)
            have hneq := neqVT zn zh zz
            clear CG g9 g10 g11 H8 R8 G8 G7
            go_wp2_with fail
            go_roundw
            case rel => exact ⟨j + 1, fv7, lo2, fr2, by go_num, by omega, HJ3.out, hfl2, H10.out, R10.out, G10.out⟩
            case measure => simp [intOf]; omega
          · have d3 : decide ((n : Int) ≥ (M : Int)) = true := by simp; omega
            have CS := setM_out H.out (n := n) (by omega) (by omega)
            go_wp2_with fail
            refine CS.mono ?_
            rintro en w7 ⟨rfl, g7⟩
            have g8 : Grew w6 (w7.alloc (.cells #[.int .i64 0, .bool false, .int .i64 0] 44)) := g7.alloc _
            have c7 := cell_grew c4 g8
            have H7 := Hid.mk' (H.out.grew g8)
            have R7 := Hid.mk' (row_grew RE.out g8)
            have G7 := Hid.mk' (G.out.trans g8)
            clear CS g7 g8 H RE G
            go_wp2_with fail
            go_roundw
            case rel => exact ⟨j + 1, fv, lo, fr, by go_num, by omega, HJ.out, by omega, H7.out, R7.out, G7.out⟩
            case measure => simp [intOf]; omega
        · have d1 : decide ((j : Int) < (lu.length : Int)) = false := by simp; omega
          obtain ⟨g', c', hq⟩ := CK.frow (fs := [x]) H.out
          subst hq
          have H6 : Hid (CK wa.heap.size w6 C lv1 fv ov5 (.slice (some ⟨g', 0, none⟩) (([x] : List FV).length + 1) c') lo fr lb ([x] ++ [F2])) := H.out
          have CV := leaveM (lo' := locs P Q) (fr' := []) H6.out (li := []) (lu := []) (by rw [HF2.out]; exact LV.empty _ _) (by rw [HF2.out]; exact LV.empty _ _) (by simp) (by simp) (by rw [HF2.out]) (by simp) (fun W gg => by
            have := unset0 (H6.out.grew gg) (by omega) (fun n hn => by obtain ⟨p1, p2, p3, _⟩ := HJ.out.2.2 n hn; exact ⟨p1, by rw [HJ.out.1]; exact p2, p3⟩)
            rw [HJ.out.back] at this
            have hf0 : F2.fresh = 0 := by rw [HF2.out]; rfl
            rw [hf0]
            exact this)
          go_wp2_with fail
          refine CV.mono ?_
          rintro en w7 ⟨fv7, qv7, a7, b7, rfl, K7, na7, nb7, B7, T7⟩
          have G7 := Hid.mk' (KB.grew G.out B7)
          have H7 := Hid.mk' K7
          have R7 := Hid.mk' (RowKT RE.out T7)
          obtain ⟨ga7, _, hga7, _⟩ := na7
          obtain ⟨gb7, _, hgb7, _⟩ := nb7
          simp only [List.length_nil] at hga7 hgb7
          subst hga7 hgb7
          have CO := operandsM H7.out b1
          clear CV K7 B7 T7 H H6 RE G HJ
          go_wp2_with fail
          refine CO.mono ?_
          rintro en w8 ⟨g8, rfl, hg8, hb8, gr8⟩
          have G8 := Hid.mk' (G7.out.trans gr8)
          have H8 := Hid.mk' (H7.out.grew gr8)
          have R8 := Hid.mk' (row_grew R7.out gr8)
          have CM := same_any (NewV.lst ⟨g8, Nat.zero_le _, rfl, hb8⟩ (by omega)) (HB.out.grew (GA.out.trans G8.out)) b1
          clear CO hb8 gr8 G7 H7 R7
          go_wp2_with fail
          refine CM.mono ?_
          rintro en w9 ⟨rfl, gr9⟩
          have G9 := Hid.mk' (G8.out.trans gr9)
          have H9 := Hid.mk' (H8.out.grew gr9)
          have R9 := Hid.mk' (row_grew R8.out gr9)
          clear CM gr9 G8 H8 R8
          go_wp2_with fail
          go_loopw [23] (fun i_ w' => ∃ k : Nat, i_ = .int .i64 k ∧ k ≤ M ∧ Hid (Grew w9 w')) (fun i_ _ => M - (intOf i_).toNat)
          case atStart => exact ⟨0, rfl, Nat.zero_le _, Grew.refl _⟩
          case round =>
            obtain ⟨k, rfl, hk, GL⟩ := hrel
            obtain ⟨wb, hwb⟩ : ∃ wb, wb = wr := ⟨_, rfl⟩
            rw [← hwb] at GL ⊢
            clear hwb
            by_cases hlk : k < M
            · obtain ⟨y, hy⟩ : ∃ y, (locs P Q)[k]? = some y := ⟨_, List.getElem?_eq_getElem (by omega)⟩
              have d4 : decide ((k : Int) < (M : Int)) = true := by simp; omega
              have d5 : decide (k < M) = true := by simp; omega
              have i2 : (k : Int) < (M : Int) := by omega
              have ew : IntKind.u32.wrap (k : Int) = (k : Int) := by rw [IntKind.wrap_u32]; omega
              have CG := getM_in (H9.out.grew GL.out) hy (by omega)
              obtain ⟨kv, ⟨kn, kz, kh, hkv⟩, hgr⟩ := getR_err y
              subst hkv
              rw [hgr] at CG
              have hmk : m[k]? = some (erB y) := by rw [HM2.out, List.getElem?_map, hy]; rfl
              have CE : Hid (∀ W, Grew w9 W → ∃ b o, va = some ⟨b, o, none⟩ ∧ W.cell? ⟨b, o + k, none⟩ = some (.int .i64 (erB y))) := fun W g => by
                obtain ⟨b, o, ha, _, hE⟩ := (RowE.lst (row_grew R9.out g)).get (by omega)
                have := hE k _ hmk
                simp only [EI, Nat.mul_one] at this
                exact ⟨b, o, ha, this⟩
              clear hmk hgr
              by_cases hP : k < P.length
              · have hys := locs_left hy hP
                have hee : erB y = 0 := by unfold erB; rw [hys]; rfl
                rw [hee] at CG CE
                have d6 : decide ((k : Int) < (P.length : Int)) = true := by simp; omega
                clear hy hys hee
                go_wp2_with fail
                refine CG.mono ?_
                rintro en wc ⟨rfl, gc⟩
                have gd : Grew wb (wc.alloc (.cells #[.int .i64 kn, .bool kz, .int .i64 kh] 44)) := gc.alloc _
                have GD := Hid.mk' (GL.out.trans gd)
                have ND := Hid.mk' (((G9.out.trans GD.out).turn []).other N0.out (by simp))
                have e1 := cell_of ND.out 1
                simp at e1
                obtain ⟨b7, o7, ha, c7⟩ := CE.out _ GD.out
                subst ha
                clear CG gc gd ND
                go_wp2_with fail
                go_roundw
                case rel => exact ⟨k + 1, by go_num, by omega, GD.out⟩
                case measure => simp [intOf]; omega
              · obtain ⟨⟨qn, qz, qh⟩, hy2, hys⟩ := locs_right hy hP
                have d6 : decide ((k : Int) < (P.length : Int)) = false := by simp; omega
                have hsub : IntKind.i64.wrap ((k : Int) - (P.length : Int)) = ((k - P.length : Nat) : Int) := by rw [IntKind.wrap_i64]; omega
                have hkq : k - P.length < Q.length := by omega
                have CQ : Hid (∀ W, Grew w W → ∃ b o, qa = some ⟨b, o, none⟩ ∧ EV W b (o + (k - P.length) * 3) ⟨qn, qz, qh⟩) := fun W g => by
                  obtain ⟨b, o, ha, _, hE⟩ := (HQ.out.grew g).get (by omega)
                  exact ⟨b, o, ha, hE _ _ hy2⟩
                have CD := rdefault_any qn qh qz
                have hee : erB y = if defB ⟨qn, qz, qh⟩ then 0 else 134 := by unfold erB; rw [hys]
                obtain ⟨kk, hkk⟩ : ∃ kk, k - P.length = kk := ⟨_, rfl⟩
                rw [hkk] at CQ hsub hkq
                have d7 : decide (kk < Q.length) = true := by simp; omega
                have i3 : (kk : Int) < (Q.length : Int) := by omega
                rw [hee] at CG CE
                clear hy hys hee hy2
                generalize defB ⟨qn, qz, qh⟩ = bd at *
                cases bd with
                | true =>
                  rw [if_pos rfl] at CG CE
                  go_wp2_with fail
                  refine CG.mono ?_
                  rintro en wc ⟨rfl, gc⟩
                  have gd : Grew wb (wc.alloc (.cells #[.int .i64 kn, .bool kz, .int .i64 kh] 44)) := gc.alloc _
                  have GD := Hid.mk' (GL.out.trans gd)
                  have ND := Hid.mk' (((G9.out.trans GD.out).turn []).other N0.out (by simp))
                  have e1 := cell_of ND.out 1
                  have e2 := cell_of ND.out 2
                  simp at e1 e2
                  obtain ⟨b7, o7, ha, c7⟩ := CE.out _ GD.out
                  subst ha
                  obtain ⟨b8, o8, ha, q0, q1, q2⟩ := CQ.out _ (GA.out.trans (G9.out.trans GD.out))
                  subst ha
                  simp only at q0 q1 q2
                  clear CG gc gd ND
                  go_wp2_with fail
                  refine (CD _).mono ?_
                  rintro en we ⟨rfl, ge⟩
                  have c9 := cell_grew c7 ge
                  have GE := Hid.mk' (GD.out.trans ge)
                  clear CD ge c7 q0 q1 q2 e1 e2
                  go_wp2_with fail
                  go_roundw
                  case rel => exact ⟨k + 1, by go_num, by omega, GE.out⟩
                  case measure => simp [intOf]; omega
                | false =>
                  rw [if_neg (by decide)] at CG CE
                  go_wp2_with fail
                  refine CG.mono ?_
                  rintro en wc ⟨rfl, gc⟩
                  have gd : Grew wb (wc.alloc (.cells #[.int .i64 kn, .bool kz, .int .i64 kh] 44)) := gc.alloc _
                  have GD := Hid.mk' (GL.out.trans gd)
                  have ND := Hid.mk' (((G9.out.trans GD.out).turn []).other N0.out (by simp))
                  have e1 := cell_of ND.out 1
                  have e2 := cell_of ND.out 2
                  simp at e1 e2
                  obtain ⟨b7, o7, ha, c7⟩ := CE.out _ GD.out
                  subst ha
                  obtain ⟨b8, o8, ha, q0, q1, q2⟩ := CQ.out _ (GA.out.trans (G9.out.trans GD.out))
                  subst ha
                  simp only at q0 q1 q2
                  clear CG gc gd ND
                  go_wp2_with fail
                  refine (CD _).mono ?_
                  rintro en we ⟨rfl, ge⟩
                  have c9 := cell_grew c7 ge
                  have GE := Hid.mk' (GD.out.trans ge)
                  clear CD ge c7 q0 q1 q2 e1 e2
                  go_wp2_with fail
                  go_roundw
                  case rel => exact ⟨k + 1, by go_num, by omega, GE.out⟩
                  case measure => simp [intOf]; omega
            · have d4 : decide ((k : Int) < (M : Int)) = false := by simp; omega
              go_wp2_with fail
              go_ret
              exact ⟨rfl, GA.out.trans (G9.out.trans GL.out)⟩
end Go.Proofs.YtkghplkmfpnhdaaGreatDoor
