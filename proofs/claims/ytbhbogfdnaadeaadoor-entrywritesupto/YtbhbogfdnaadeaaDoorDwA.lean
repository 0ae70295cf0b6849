/-
  The document's PutRecType; no statement is proved here.
-/
import Derived.Test.YtbhbogfdnaadeaaDoorDw9
namespace Go.Proofs.YtbhbogfdnaadeaaDoor
open Go.RowKit
set_option linter.unusedVariables false
set_option linter.unusedSimpArgs false
set_option linter.constructorNameAsVariable false

def szT : List SB → Nat
  | [] => 0
  | x :: l => szS x + szT l
theorem szT_step : ∀ {ts : List SB} {i : Nat} {x : SB}, ts[i]? = some x → szT (ts.take (i + 1)) = szT (ts.take i) + szS x
  | [], i, x, h => by simp at h
  | y :: l, 0, x, h => by
    simp at h
    subst h
    simp [szT]
  | y :: l, i + 1, x, h => by
    simp only [List.getElem?_cons_succ] at h
    rw [List.take_succ_cons, List.take_succ_cons, szT, szT, szT_step h]
    omega
theorem szT_le : ∀ (ts : List SB) (i : Nat), szT (ts.take i) ≤ szT ts
  | [], i => by simp [szT]
  | y :: l, 0 => by simp [szT]
  | y :: l, i + 1 => by
    rw [List.take_succ_cons, szT, szT]
    have := szT_le l i
    omega
set_option maxRecDepth 100000 in
set_option maxHeartbeats 2000000 in
theorem drec_e (w : World) (ta : Option Addr) (tc : Nat) (ts : List SB) (ex : Bool) (hv : LS w (.slice ta ts.length tc) ts) (hk : ∀ x ∈ ts, okS x) (hz0 : ts.length = 0) (hN : 12 + szT ts ≤ 17592186041000) :
    Calls Tryd.prog 14 #[.agg #[.slice ta ts.length tc, .bool ex]] w (PAns w (recW ⟨ts, ex⟩)) := by
  have HV : Hid (LS w (.slice ta ts.length tc) ts) := hv
  have HK : Hid (∀ x ∈ ts, okS x) := hk
  obtain ⟨_, _, _, hflc, hfm⟩ := hv.one
  have hfx : ts.length ≤ 9223372036854775807 := by unfold maxLen at hfm; omega
  have L : thenW (thenW (thenW (thenW (.ok []) (.ok [78])) (needW (decide (ts.length ≤ 10000)) 2)) (.ok (PU ts.length))) (manyW subW (ts.drop 0)) = recW ⟨ts, ex⟩ := by
    rw [List.drop_zero, list_eq, recW, if_neg (by simp only; omega), thenW_l]
  obtain ⟨R, hR⟩ : ∃ R, R = recW ⟨ts, ex⟩ := ⟨_, rfl⟩
  rw [← hR] at L ⊢
  have HR : Hid (thenW (thenW (thenW (thenW (.ok []) (.ok [78])) (needW (decide (ts.length ≤ 10000)) 2)) (.ok (PU ts.length))) (manyW subW (ts.drop 0)) = R) := L
  clear hR L
  have dn : ((ts.length : Int) != 1) = true := by simp; omega
  have HZ : Hid (ts.length = 0) := hz0
  clear hz0
  clear hv hk hflc hfm
  have S0 : Hid (DW (w.heap.size + 1) (w.heap.size + 1 + 1) ((w.alloc (.cells #[.slice ta ts.length tc, .bool ex] 28)).alloc (.cells #[.slice none 0 0, .int .i64 0] 79)) (.ok []) 0) := by
    have := dw_new (w.alloc (.cells #[.slice ta ts.length tc, .bool ex] 28))
    rw [alloc_size] at this
    exact this
  have G0 : Hid (Grew w ((w.alloc (.cells #[.slice ta ts.length tc, .bool ex] 28)).alloc (.cells #[.slice none 0 0, .int .i64 0] 79))) := ((Grew.refl w).alloc _).alloc _
  have hbx : ((w.alloc (.cells #[.slice ta ts.length tc, .bool ex] 28)).alloc (.cells #[.slice none 0 0, .int .i64 0] 79)).heap[w.heap.size]? = some (.cells #[.slice ta ts.length tc, .bool ex] 28 (0, 0)) := heap_alloc (heap_alloc_last w _) _
  have hnP : w.heap.size ≠ w.heap.size + 1 := by omega
  go_enter Tryd.func14, Tryd.ntmps14
  have ho0 : ((w.alloc (.cells #[.slice ta ts.length tc, .bool ex] 28)).alloc (.cells #[.slice none 0 0, .int .i64 0] 79)).heap[w.heap.size + 1]? = some (dob (.slice none 0 0) 0) := by
    have := heap_alloc_last (w.alloc (.cells #[.slice ta ts.length tc, .bool ex] 28)) (.cells #[.slice none 0 0, .int .i64 0] 79)
    rw [alloc_size] at this
    exact this
  have HO0 : Hid (((w.alloc (.cells #[.slice ta ts.length tc, .bool ex] 28)).alloc (.cells #[.slice none 0 0, .int .i64 0] 79)).heap[w.heap.size + 1]? = some (dob (.slice none 0 0) 0)) := ho0
  clear ho0
  go_wp2_with (
    at_builtin
    refine wp_appG (w := (((w.alloc (.cells #[.slice ta ts.length tc, .bool ex] 28)).alloc (.cells #[.slice none 0 0, .int .i64 0] 79)).alloc (.cells #[.int .u8 78] 5))) (base := w.heap.size + 1 + 1) (v := .slice none 0 0) (l := []) (u := .slice (some ⟨w.heap.size + 1 + 1, 0, none⟩) 1 1) (r := [78]) rfl _ _ rfl rfl rfl (World.ownsRow_nil _ _ _ _) (by simp) (by have hrd := reads_new ((w.alloc (.cells #[.slice ta ts.length tc, .bool ex] 28)).alloc (.cells #[.slice none 0 0, .int .i64 0] 79)) 78 5; rw [alloc_size, alloc_size] at hrd; exact hrd) (by simp) ?_
    intro v1 x1 ho1 hg1
    obtain ⟨a1, cc1, hv1⟩ := row_one ho1
    simp only [List.nil_append, List.length_cons, List.length_nil, Nat.zero_add] at hv1
    subst hv1
    have A1 := dw_app (b := w.heap.size + 1) (B := w.heap.size + 1 + 1) (w := (((w.alloc (.cells #[.slice ta ts.length tc, .bool ex] 28)).alloc (.cells #[.slice none 0 0, .int .i64 0] 79)).alloc (.cells #[.int .u8 78] 5))) (st := .ok []) (N := 0) (l := []) (r := [78]) (heap_alloc HO0.out _) (World.ownsRow_nil _ _ _ _) (Nat.le_refl _) ⟨rfl, rfl⟩ (by omega) (by simp) ho1 hg1
    have q1 := cell_of A1.1 0
    have z1 := free_of A1.1 0
    simp at q1
    have HA1 : Hid (WT (w.heap.size + 1) (w.heap.size + 1 + 1) (((w.alloc (.cells #[.slice ta ts.length tc, .bool ex] 28)).alloc (.cells #[.slice none 0 0, .int .i64 0] 79)).alloc (.cells #[.int .u8 78] 5)) (x1.setCell ⟨w.heap.size + 1, 0, none⟩ (.slice a1 1 cc1)) ∧ DW (w.heap.size + 1) (w.heap.size + 1 + 1) (x1.setCell ⟨w.heap.size + 1, 0, none⟩ (.slice a1 1 cc1)) (thenW (.ok []) (.ok [78])) (0 + [(78 : Int)].length)) := A1.2
    have bxP1 : x1.heap[w.heap.size]? = some (.cells #[.slice ta ts.length tc, .bool ex] 28 (0, 0)) := (wt_grown (b := w.heap.size + 1) (B := w.heap.size + 1 + 1) (l := []) (World.ownsRow_nil _ _ _ _) hg1).other (heap_alloc hbx _) hnP (NoT.of (heap_alloc hbx _) (by decide))
    have gP01 := cell_of bxP1 0
    have gP11 := cell_of bxP1 1
    simp at gP01 gP11
    clear A1 hg1 ho1 hbx)
  have T1 : Hid (WT (w.heap.size + 1) (w.heap.size + 1 + 1) w (x1.setCell ⟨w.heap.size + 1, 0, none⟩ (.slice a1 1 cc1))) := ((WT.of_grew G0.out).trans (WT.of_grew ((Grew.refl _).alloc _))).trans HA1.out.1
  have S1 : Hid (DW (w.heap.size + 1) (w.heap.size + 1 + 1) (x1.setCell ⟨w.heap.size + 1, 0, none⟩ (.slice a1 1 cc1)) (thenW (.ok []) (.ok [78])) 1) := HA1.out.2
  clear HA1 S0 HO0
  have bxs := heap_other bxP1 (p := ⟨w.heap.size + 1, 0, none⟩) hnP (.slice a1 1 cc1)
  refine (dwMany_any S1.out ts.length 10000 hfx (by omega)).mono ?_
  rintro en w3 ⟨rfl, t3, s3⟩
  have T3 : Hid (WT (w.heap.size + 1) (w.heap.size + 1 + 1) w w3) := T1.out.trans t3
  have S3 : Hid (DW (w.heap.size + 1) (w.heap.size + 1 + 1) w3 (thenW (thenW (thenW (.ok []) (.ok [78])) (needW (decide (ts.length ≤ 10000)) 2)) (.ok (PU ts.length))) (12 + szT (ts.take 0))) := s3.mono (by omega)
  have BX3 : Hid (w3.heap[w.heap.size]? = some (.cells #[.slice ta ts.length tc, .bool ex] 28 (0, 0))) := t3.other bxs hnP (NoT.of bxs (by decide))
  clear t3 s3 T1 S1 bxs bxP1 q1 z1 gP01 gP11
  go_wp2_with fail
  go_loopw [5] (fun i_ wr => ∃ (i : Nat) (sti : Except Nat (List Int)), i_ = .int .i64 i ∧ i ≤ ts.length ∧ Hid (WT (w.heap.size + 1) (w.heap.size + 1 + 1) w wr) ∧ Hid (DW (w.heap.size + 1) (w.heap.size + 1 + 1) wr sti (12 + szT (ts.take i))) ∧ Hid (thenW sti (manyW subW (ts.drop i)) = R) ∧ Hid (wr.heap[w.heap.size]? = some (.cells #[.slice ta ts.length tc, .bool ex] 28 (0, 0)))) (fun i_ _ => ts.length - (intOf i_).toNat)
  case atStart => exact ⟨0, _, rfl, by omega, T3, S3, HR, BX3⟩
  case round =>
    obtain ⟨i, sti, rfl, hi, TR, SR, HE, BX⟩ := hrel
    have p0b := cell_of BX.out 0
    have p1b := cell_of BX.out 1
    simp at p0b p1b
    by_cases hlt : i < ts.length
    · exact absurd hlt (by have := HZ.out; omega)
    · have d3 : decide ((i : Int) < (ts.length : Int)) = false := by simp; omega
      have d4 : decide (i < ts.length) = false := by simpa using hlt
      have E : sti = R := by rw [← HE.out, many_last (by omega)]
      have s9 := SR.out
      rw [E] at s9
      have D := done_any s9 (TR.out.grew0 (Grew.refl w) (by omega) (by omega)) (by omega)
      clear HE E s9 SR HR
      go_wp2_with fail
      refine D.mono ?_
      intro en w9 ha
      cases R with
      | error e =>
        obtain ⟨rfl, g2⟩ := ha
        have G2 : Hid (Grew w w9) := g2
        clear g2 D
        go_wp2_with fail
        go_ret2
        exact ⟨rfl, G2.out⟩
      | ok m =>
        obtain ⟨rv, rfl, r2, g2⟩ := ha
        have F2 : Hid (w9.ownsRow w.heap.size 5 1 rv m.length (U8 m) ∧ Grew w w9) := ⟨r2, g2⟩
        obtain ⟨ra, rc, rfl⟩ := row_one r2
        clear r2 g2 D
        go_wp2_with fail
        go_ret2
        exact ⟨_, rfl, F2.out⟩
set_option maxRecDepth 100000 in
set_option maxHeartbeats 2000000 in
theorem drec_f (w : World) (bb off : Nat) (tc : Nat) (ts : List SB) (ex : Bool) (hv : LS w (.slice (some ⟨bb, off, none⟩) ts.length tc) ts) (hk : ∀ x ∈ ts, okS x) (h1 : ts.length ≠ 1) (hN : 12 + szT ts ≤ 17592186041000) :
    Calls Tryd.prog 14 #[.agg #[.slice (some ⟨bb, off, none⟩) ts.length tc, .bool ex]] w (PAns w (recW ⟨ts, ex⟩)) := by
  have HV : Hid (LS w (.slice (some ⟨bb, off, none⟩) ts.length tc) ts) := hv
  have HK : Hid (∀ x ∈ ts, okS x) := hk
  obtain ⟨_, _, _, hflc, hfm⟩ := hv.one
  have hfx : ts.length ≤ 9223372036854775807 := by unfold maxLen at hfm; omega
  have L : thenW (thenW (thenW (thenW (.ok []) (.ok [78])) (needW (decide (ts.length ≤ 10000)) 2)) (.ok (PU ts.length))) (manyW subW (ts.drop 0)) = recW ⟨ts, ex⟩ := by
    rw [List.drop_zero, list_eq, recW, if_neg (by simp only; omega), thenW_l]
  obtain ⟨R, hR⟩ : ∃ R, R = recW ⟨ts, ex⟩ := ⟨_, rfl⟩
  rw [← hR] at L ⊢
  have HR : Hid (thenW (thenW (thenW (thenW (.ok []) (.ok [78])) (needW (decide (ts.length ≤ 10000)) 2)) (.ok (PU ts.length))) (manyW subW (ts.drop 0)) = R) := L
  clear hR L
  have dn : ((ts.length : Int) != 1) = true := by simp; omega
  clear h1
  clear hv hk hflc hfm
  have S0 : Hid (DW (w.heap.size + 1) (w.heap.size + 1 + 1) ((w.alloc (.cells #[.slice (some ⟨bb, off, none⟩) ts.length tc, .bool ex] 28)).alloc (.cells #[.slice none 0 0, .int .i64 0] 79)) (.ok []) 0) := by
    have := dw_new (w.alloc (.cells #[.slice (some ⟨bb, off, none⟩) ts.length tc, .bool ex] 28))
    rw [alloc_size] at this
    exact this
  have G0 : Hid (Grew w ((w.alloc (.cells #[.slice (some ⟨bb, off, none⟩) ts.length tc, .bool ex] 28)).alloc (.cells #[.slice none 0 0, .int .i64 0] 79))) := ((Grew.refl w).alloc _).alloc _
  have hbx : ((w.alloc (.cells #[.slice (some ⟨bb, off, none⟩) ts.length tc, .bool ex] 28)).alloc (.cells #[.slice none 0 0, .int .i64 0] 79)).heap[w.heap.size]? = some (.cells #[.slice (some ⟨bb, off, none⟩) ts.length tc, .bool ex] 28 (0, 0)) := heap_alloc (heap_alloc_last w _) _
  have hnP : w.heap.size ≠ w.heap.size + 1 := by omega
  go_enter Tryd.func14, Tryd.ntmps14
  have ho0 : ((w.alloc (.cells #[.slice (some ⟨bb, off, none⟩) ts.length tc, .bool ex] 28)).alloc (.cells #[.slice none 0 0, .int .i64 0] 79)).heap[w.heap.size + 1]? = some (dob (.slice none 0 0) 0) := by
    have := heap_alloc_last (w.alloc (.cells #[.slice (some ⟨bb, off, none⟩) ts.length tc, .bool ex] 28)) (.cells #[.slice none 0 0, .int .i64 0] 79)
    rw [alloc_size] at this
    exact this
  have HO0 : Hid (((w.alloc (.cells #[.slice (some ⟨bb, off, none⟩) ts.length tc, .bool ex] 28)).alloc (.cells #[.slice none 0 0, .int .i64 0] 79)).heap[w.heap.size + 1]? = some (dob (.slice none 0 0) 0)) := ho0
  clear ho0
  go_wp2_with (
    at_builtin
    refine wp_appG (w := (((w.alloc (.cells #[.slice (some ⟨bb, off, none⟩) ts.length tc, .bool ex] 28)).alloc (.cells #[.slice none 0 0, .int .i64 0] 79)).alloc (.cells #[.int .u8 78] 5))) (base := w.heap.size + 1 + 1) (v := .slice none 0 0) (l := []) (u := .slice (some ⟨w.heap.size + 1 + 1, 0, none⟩) 1 1) (r := [78]) rfl _ _ rfl rfl rfl (World.ownsRow_nil _ _ _ _) (by simp) (by have hrd := reads_new ((w.alloc (.cells #[.slice (some ⟨bb, off, none⟩) ts.length tc, .bool ex] 28)).alloc (.cells #[.slice none 0 0, .int .i64 0] 79)) 78 5; rw [alloc_size, alloc_size] at hrd; exact hrd) (by simp) ?_
    intro v1 x1 ho1 hg1
    obtain ⟨a1, cc1, hv1⟩ := row_one ho1
    simp only [List.nil_append, List.length_cons, List.length_nil, Nat.zero_add] at hv1
    subst hv1
    have A1 := dw_app (b := w.heap.size + 1) (B := w.heap.size + 1 + 1) (w := (((w.alloc (.cells #[.slice (some ⟨bb, off, none⟩) ts.length tc, .bool ex] 28)).alloc (.cells #[.slice none 0 0, .int .i64 0] 79)).alloc (.cells #[.int .u8 78] 5))) (st := .ok []) (N := 0) (l := []) (r := [78]) (heap_alloc HO0.out _) (World.ownsRow_nil _ _ _ _) (Nat.le_refl _) ⟨rfl, rfl⟩ (by omega) (by simp) ho1 hg1
    have q1 := cell_of A1.1 0
    have z1 := free_of A1.1 0
    simp at q1
    have HA1 : Hid (WT (w.heap.size + 1) (w.heap.size + 1 + 1) (((w.alloc (.cells #[.slice (some ⟨bb, off, none⟩) ts.length tc, .bool ex] 28)).alloc (.cells #[.slice none 0 0, .int .i64 0] 79)).alloc (.cells #[.int .u8 78] 5)) (x1.setCell ⟨w.heap.size + 1, 0, none⟩ (.slice a1 1 cc1)) ∧ DW (w.heap.size + 1) (w.heap.size + 1 + 1) (x1.setCell ⟨w.heap.size + 1, 0, none⟩ (.slice a1 1 cc1)) (thenW (.ok []) (.ok [78])) (0 + [(78 : Int)].length)) := A1.2
    have bxP1 : x1.heap[w.heap.size]? = some (.cells #[.slice (some ⟨bb, off, none⟩) ts.length tc, .bool ex] 28 (0, 0)) := (wt_grown (b := w.heap.size + 1) (B := w.heap.size + 1 + 1) (l := []) (World.ownsRow_nil _ _ _ _) hg1).other (heap_alloc hbx _) hnP (NoT.of (heap_alloc hbx _) (by decide))
    have gP01 := cell_of bxP1 0
    have gP11 := cell_of bxP1 1
    simp at gP01 gP11
    clear A1 hg1 ho1 hbx)
  have T1 : Hid (WT (w.heap.size + 1) (w.heap.size + 1 + 1) w (x1.setCell ⟨w.heap.size + 1, 0, none⟩ (.slice a1 1 cc1))) := ((WT.of_grew G0.out).trans (WT.of_grew ((Grew.refl _).alloc _))).trans HA1.out.1
  have S1 : Hid (DW (w.heap.size + 1) (w.heap.size + 1 + 1) (x1.setCell ⟨w.heap.size + 1, 0, none⟩ (.slice a1 1 cc1)) (thenW (.ok []) (.ok [78])) 1) := HA1.out.2
  clear HA1 S0 HO0
  have bxs := heap_other bxP1 (p := ⟨w.heap.size + 1, 0, none⟩) hnP (.slice a1 1 cc1)
  refine (dwMany_any S1.out ts.length 10000 hfx (by omega)).mono ?_
  rintro en w3 ⟨rfl, t3, s3⟩
  have T3 : Hid (WT (w.heap.size + 1) (w.heap.size + 1 + 1) w w3) := T1.out.trans t3
  have S3 : Hid (DW (w.heap.size + 1) (w.heap.size + 1 + 1) w3 (thenW (thenW (thenW (.ok []) (.ok [78])) (needW (decide (ts.length ≤ 10000)) 2)) (.ok (PU ts.length))) (12 + szT (ts.take 0))) := s3.mono (by omega)
  have BX3 : Hid (w3.heap[w.heap.size]? = some (.cells #[.slice (some ⟨bb, off, none⟩) ts.length tc, .bool ex] 28 (0, 0))) := t3.other bxs hnP (NoT.of bxs (by decide))
  clear t3 s3 T1 S1 bxs bxP1 q1 z1 gP01 gP11
  go_wp2_with fail
  go_loopw [5] (fun i_ wr => ∃ (i : Nat) (sti : Except Nat (List Int)), i_ = .int .i64 i ∧ i ≤ ts.length ∧ Hid (WT (w.heap.size + 1) (w.heap.size + 1 + 1) w wr) ∧ Hid (DW (w.heap.size + 1) (w.heap.size + 1 + 1) wr sti (12 + szT (ts.take i))) ∧ Hid (thenW sti (manyW subW (ts.drop i)) = R) ∧ Hid (wr.heap[w.heap.size]? = some (.cells #[.slice (some ⟨bb, off, none⟩) ts.length tc, .bool ex] 28 (0, 0)))) (fun i_ _ => ts.length - (intOf i_).toNat)
  case atStart => exact ⟨0, _, rfl, by omega, T3, S3, HR, BX3⟩
  case round =>
    obtain ⟨i, sti, rfl, hi, TR, SR, HE, BX⟩ := hrel
    have p0b := cell_of BX.out 0
    have p1b := cell_of BX.out 1
    simp at p0b p1b
    by_cases hlt : i < ts.length
    · obtain ⟨x, hx⟩ : ∃ x, ts[i]? = some x := ⟨_, List.getElem?_eq_getElem hlt⟩
      have hxok := HK.out x (List.mem_of_getElem? hx)
      have d3 : decide ((i : Int) < (ts.length : Int)) = true := by simp; omega
      have d4 : decide (i < ts.length) = true := by simpa using hlt
      have GR : Grew w wr := TR.out.grew0 (Grew.refl w) (by omega) (by omega)
      obtain ⟨b3, o3, e3, _, hc3⟩ := HV.out.get (by omega)
      have e4 : b3 = bb ∧ o3 = off := by simp at e3; exact ⟨e3.1.symm, e3.2.symm⟩
      have hce := hc3 i x hx
      rw [e4.1, e4.2] at hce
      have HE2 : Hid (thenW (thenW sti (subW x)) (manyW subW (ts.drop (i + 1))) = R) := by show _ = _; rw [← HE.out, many_next hx]
      have hst := szT_step hx
      have hsl := szT_le ts (i + 1)
      obtain ⟨sv, pv, rv, fv, hsr, p0, p1, p2, p3, p4, p5⟩ := hce
      have p0 := cell_grew p0 GR
      have p1 := cell_grew p1 GR
      have p2 := cell_grew p2 GR
      have p3 := cell_grew p3 GR
      have p4 := cell_grew p4 GR
      have p5 := cell_grew p5 GR
      have C2 : Calls Tryd.prog 44 #[.pointer (some ⟨w.heap.size + 1, 0, none⟩), .agg #[.bool x.final_, sv, .int .i64 x.comp.kind, pv, rv, fv]] wr (DA (w.heap.size + 1) (w.heap.size + 1 + 1) wr (thenW sti (subW x)) (12 + szT (ts.take i) + szS x)) := dwSub_any (w0 := w) SR.out GR (by omega) x sv pv rv fv hsr hxok (by omega)
      have HS : Hid (szT (ts.take (i + 1)) = szT (ts.take i) + szS x) := hst
      obtain ⟨fin, ss, ⟨kd, ps, rs, fs⟩⟩ := x
      simp only at p0 p1 p2 p3 p4 p5 C2
      generalize subW ⟨fin, ss, ⟨kd, ps, rs, fs⟩⟩ = Z at *
      generalize szS ⟨fin, ss, ⟨kd, ps, rs, fs⟩⟩ = ZS at *
      clear hc3 hx GR HE hsr hxok e3 e4 hst
      go_wp2_with fail
      refine C2.mono ?_
      rintro en w2 ⟨rfl, t2, s2⟩
      have T2 : Hid (WT (w.heap.size + 1) (w.heap.size + 1 + 1) w w2) := TR.out.trans t2
      have S2 : Hid (DW (w.heap.size + 1) (w.heap.size + 1 + 1) w2 (thenW sti Z) (12 + szT (ts.take (i + 1)))) := s2.mono (by rw [HS.out]; omega)
      have BX2 : Hid (w2.heap[w.heap.size]? = some (.cells #[.slice (some ⟨bb, off, none⟩) ts.length tc, .bool ex] 28 (0, 0))) := t2.other BX.out hnP (NoT.of BX.out (by decide))
      clear BX p0b p1b t2 s2 C2 TR SR
      go_wp2_with fail
      go_roundw
      case rel => exact ⟨i + 1, _, by go_num, by omega, T2, S2, HE2, BX2⟩
      case measure => simp [intOf]; omega
    · have d3 : decide ((i : Int) < (ts.length : Int)) = false := by simp; omega
      have d4 : decide (i < ts.length) = false := by simpa using hlt
      have E : sti = R := by rw [← HE.out, many_last (by omega)]
      have s9 := SR.out
      rw [E] at s9
      have D := done_any s9 (TR.out.grew0 (Grew.refl w) (by omega) (by omega)) (by omega)
      clear HE E s9 SR HR
      go_wp2_with fail
      refine D.mono ?_
      intro en w9 ha
      cases R with
      | error e =>
        obtain ⟨rfl, g2⟩ := ha
        have G2 : Hid (Grew w w9) := g2
        clear g2 D
        go_wp2_with fail
        go_ret2
        exact ⟨rfl, G2.out⟩
      | ok m =>
        obtain ⟨rv, rfl, r2, g2⟩ := ha
        have F2 : Hid (w9.ownsRow w.heap.size 5 1 rv m.length (U8 m) ∧ Grew w w9) := ⟨r2, g2⟩
        obtain ⟨ra, rc, rfl⟩ := row_one r2
        clear r2 g2 D
        go_wp2_with fail
        go_ret2
        exact ⟨_, rfl, F2.out⟩
set_option maxRecDepth 100000 in
set_option maxHeartbeats 2000000 in
theorem drec_1 (w : World) (bb off : Nat) (tc : Nat) (ts : List SB) (ex : Bool) (hv : LS w (.slice (some ⟨bb, off, none⟩) ts.length tc) ts) (hk : ∀ x ∈ ts, okS x) (h1 : ts.length = 1) (hN : 12 + szT ts ≤ 17592186041000) :
    Calls Tryd.prog 14 #[.agg #[.slice (some ⟨bb, off, none⟩) ts.length tc, .bool ex]] w (PAns w (recW ⟨ts, ex⟩)) := by
  have HV : Hid (LS w (.slice (some ⟨bb, off, none⟩) ts.length tc) ts) := hv
  have HK : Hid (∀ x ∈ ts, okS x) := hk
  obtain ⟨_, _, _, hflc, hfm⟩ := hv.one
  have hfx : ts.length ≤ 9223372036854775807 := by unfold maxLen at hfm; omega
  have L : thenW (.ok []) (manyW subW (ts.drop 0)) = recW ⟨ts, ex⟩ := by
    obtain ⟨x, rfl⟩ := List.length_eq_one_iff.1 h1; rw [recW, if_pos (by simp), List.drop_zero, manyW, manyW, thenW_l, thenW_nil]; rfl
  obtain ⟨R, hR⟩ : ∃ R, R = recW ⟨ts, ex⟩ := ⟨_, rfl⟩
  rw [← hR] at L ⊢
  have HR : Hid (thenW (.ok []) (manyW subW (ts.drop 0)) = R) := L
  clear hR L
  have dn : ((ts.length : Int) != 1) = false := by rw [h1]; rfl
  clear h1
  clear hv hk hflc hfm
  have S0 : Hid (DW (w.heap.size + 1) (w.heap.size + 1 + 1) ((w.alloc (.cells #[.slice (some ⟨bb, off, none⟩) ts.length tc, .bool ex] 28)).alloc (.cells #[.slice none 0 0, .int .i64 0] 79)) (.ok []) 0) := by
    have := dw_new (w.alloc (.cells #[.slice (some ⟨bb, off, none⟩) ts.length tc, .bool ex] 28))
    rw [alloc_size] at this
    exact this
  have G0 : Hid (Grew w ((w.alloc (.cells #[.slice (some ⟨bb, off, none⟩) ts.length tc, .bool ex] 28)).alloc (.cells #[.slice none 0 0, .int .i64 0] 79))) := ((Grew.refl w).alloc _).alloc _
  have hbx : ((w.alloc (.cells #[.slice (some ⟨bb, off, none⟩) ts.length tc, .bool ex] 28)).alloc (.cells #[.slice none 0 0, .int .i64 0] 79)).heap[w.heap.size]? = some (.cells #[.slice (some ⟨bb, off, none⟩) ts.length tc, .bool ex] 28 (0, 0)) := heap_alloc (heap_alloc_last w _) _
  have hnP : w.heap.size ≠ w.heap.size + 1 := by omega
  go_enter Tryd.func14, Tryd.ntmps14
  go_wp2_with fail
  have T0 : Hid (WT (w.heap.size + 1) (w.heap.size + 1 + 1) w ((w.alloc (.cells #[.slice (some ⟨bb, off, none⟩) ts.length tc, .bool ex] 28)).alloc (.cells #[.slice none 0 0, .int .i64 0] 79))) := WT.of_grew G0.out
  have BX0 : Hid (((w.alloc (.cells #[.slice (some ⟨bb, off, none⟩) ts.length tc, .bool ex] 28)).alloc (.cells #[.slice none 0 0, .int .i64 0] 79)).heap[w.heap.size]? = some (.cells #[.slice (some ⟨bb, off, none⟩) ts.length tc, .bool ex] 28 (0, 0))) := hbx
  have S00 : Hid (DW (w.heap.size + 1) (w.heap.size + 1 + 1) ((w.alloc (.cells #[.slice (some ⟨bb, off, none⟩) ts.length tc, .bool ex] 28)).alloc (.cells #[.slice none 0 0, .int .i64 0] 79)) (.ok []) (12 + szT (ts.take 0))) := S0.out.mono (by omega)
  clear hbx S0
  go_loopw [5] (fun i_ wr => ∃ (i : Nat) (sti : Except Nat (List Int)), i_ = .int .i64 i ∧ i ≤ ts.length ∧ Hid (WT (w.heap.size + 1) (w.heap.size + 1 + 1) w wr) ∧ Hid (DW (w.heap.size + 1) (w.heap.size + 1 + 1) wr sti (12 + szT (ts.take i))) ∧ Hid (thenW sti (manyW subW (ts.drop i)) = R) ∧ Hid (wr.heap[w.heap.size]? = some (.cells #[.slice (some ⟨bb, off, none⟩) ts.length tc, .bool ex] 28 (0, 0)))) (fun i_ _ => ts.length - (intOf i_).toNat)
  case atStart => exact ⟨0, _, rfl, by omega, T0, S00, HR, BX0⟩
  case round =>
    obtain ⟨i, sti, rfl, hi, TR, SR, HE, BX⟩ := hrel
    have p0b := cell_of BX.out 0
    have p1b := cell_of BX.out 1
    simp at p0b p1b
    by_cases hlt : i < ts.length
    · obtain ⟨x, hx⟩ : ∃ x, ts[i]? = some x := ⟨_, List.getElem?_eq_getElem hlt⟩
      have hxok := HK.out x (List.mem_of_getElem? hx)
      have d3 : decide ((i : Int) < (ts.length : Int)) = true := by simp; omega
      have d4 : decide (i < ts.length) = true := by simpa using hlt
      have GR : Grew w wr := TR.out.grew0 (Grew.refl w) (by omega) (by omega)
      obtain ⟨b3, o3, e3, _, hc3⟩ := HV.out.get (by omega)
      have e4 : b3 = bb ∧ o3 = off := by simp at e3; exact ⟨e3.1.symm, e3.2.symm⟩
      have hce := hc3 i x hx
      rw [e4.1, e4.2] at hce
      have HE2 : Hid (thenW (thenW sti (subW x)) (manyW subW (ts.drop (i + 1))) = R) := by show _ = _; rw [← HE.out, many_next hx]
      have hst := szT_step hx
      have hsl := szT_le ts (i + 1)
      obtain ⟨sv, pv, rv, fv, hsr, p0, p1, p2, p3, p4, p5⟩ := hce
      have p0 := cell_grew p0 GR
      have p1 := cell_grew p1 GR
      have p2 := cell_grew p2 GR
      have p3 := cell_grew p3 GR
      have p4 := cell_grew p4 GR
      have p5 := cell_grew p5 GR
      have C2 : Calls Tryd.prog 44 #[.pointer (some ⟨w.heap.size + 1, 0, none⟩), .agg #[.bool x.final_, sv, .int .i64 x.comp.kind, pv, rv, fv]] wr (DA (w.heap.size + 1) (w.heap.size + 1 + 1) wr (thenW sti (subW x)) (12 + szT (ts.take i) + szS x)) := dwSub_any (w0 := w) SR.out GR (by omega) x sv pv rv fv hsr hxok (by omega)
      have HS : Hid (szT (ts.take (i + 1)) = szT (ts.take i) + szS x) := hst
      obtain ⟨fin, ss, ⟨kd, ps, rs, fs⟩⟩ := x
      simp only at p0 p1 p2 p3 p4 p5 C2
      generalize subW ⟨fin, ss, ⟨kd, ps, rs, fs⟩⟩ = Z at *
      generalize szS ⟨fin, ss, ⟨kd, ps, rs, fs⟩⟩ = ZS at *
      clear hc3 hx GR HE hsr hxok e3 e4 hst
      go_wp2_with fail
      refine C2.mono ?_
      rintro en w2 ⟨rfl, t2, s2⟩
      have T2 : Hid (WT (w.heap.size + 1) (w.heap.size + 1 + 1) w w2) := TR.out.trans t2
      have S2 : Hid (DW (w.heap.size + 1) (w.heap.size + 1 + 1) w2 (thenW sti Z) (12 + szT (ts.take (i + 1)))) := s2.mono (by rw [HS.out]; omega)
      have BX2 : Hid (w2.heap[w.heap.size]? = some (.cells #[.slice (some ⟨bb, off, none⟩) ts.length tc, .bool ex] 28 (0, 0))) := t2.other BX.out hnP (NoT.of BX.out (by decide))
      clear BX p0b p1b t2 s2 C2 TR SR
      go_wp2_with fail
      go_roundw
      case rel => exact ⟨i + 1, _, by go_num, by omega, T2, S2, HE2, BX2⟩
      case measure => simp [intOf]; omega
    · have d3 : decide ((i : Int) < (ts.length : Int)) = false := by simp; omega
      have d4 : decide (i < ts.length) = false := by simpa using hlt
      have E : sti = R := by rw [← HE.out, many_last (by omega)]
      have s9 := SR.out
      rw [E] at s9
      have D := done_any s9 (TR.out.grew0 (Grew.refl w) (by omega) (by omega)) (by omega)
      clear HE E s9 SR HR
      go_wp2_with fail
      refine D.mono ?_
      intro en w9 ha
      cases R with
      | error e =>
        obtain ⟨rfl, g2⟩ := ha
        have G2 : Hid (Grew w w9) := g2
        clear g2 D
        go_wp2_with fail
        go_ret2
        exact ⟨rfl, G2.out⟩
      | ok m =>
        obtain ⟨rv, rfl, r2, g2⟩ := ha
        have F2 : Hid (w9.ownsRow w.heap.size 5 1 rv m.length (U8 m) ∧ Grew w w9) := ⟨r2, g2⟩
        obtain ⟨ra, rc, rfl⟩ := row_one r2
        clear r2 g2 D
        go_wp2_with fail
        go_ret2
        exact ⟨_, rfl, F2.out⟩
theorem dPutRec_any (w : World) (tv : Value) (ts : List SB) (ex : Bool) (hv : LS w tv ts) (hk : ∀ x ∈ ts, okS x) (hN : 12 + szT ts ≤ 17592186041000) :
    Calls Tryd.prog 14 #[.agg #[tv, .bool ex]] w (PAns w (recW ⟨ts, ex⟩)) := by
  obtain ⟨ta, tc, rfl, _, _⟩ := hv.one
  rcases Nat.eq_zero_or_pos ts.length with hz0 | hz0
  · exact drec_e w ta tc ts ex hv hk hz0 hN
  · obtain ⟨bb, off, rfl, _, _⟩ := hv.get hz0
    by_cases h1 : ts.length = 1
    · exact drec_1 w bb off tc ts ex hv hk h1 hN
    · exact drec_f w bb off tc ts ex hv hk h1 hN
end Go.Proofs.YtbhbogfdnaadeaaDoor
