/-
  The document's writer: the walk of sub; no statement is proved here.
-/
import Derived.Test.YtbhbogfdnaadeaaDoorDw6
namespace Go.Proofs.YtbhbogfdnaadeaaDoor
open Go.RowKit
set_option linter.unusedVariables false
set_option linter.unusedSimpArgs false
set_option linter.constructorNameAsVariable false

def okS (x : SB) : Prop := (∀ n ∈ x.supers, -9223372036854775808 ≤ n ∧ n ≤ 9223372036854775807) ∧ okC x.comp
def szS (x : SB) : Nat := 20 + 11 * x.supers.length + szC x.comp
set_option maxRecDepth 100000 in
set_option maxHeartbeats 2000000 in
theorem dsb_ne {b B : Nat} {w w0 : World} {st : Except Nat (List Int)} {N : Nat} (h : DW b B w st N) (g0 : Grew w0 w) (hb0 : w0.heap.size ≤ b) (sa : Option Addr) (pa ra fa : Option Addr) (sc pc rc fc : Nat) (ss : List Int) (kd : Int) (ps rs : List VT) (fs : List FT) (hs : LI w0 (.slice sa ss.length sc) ss) (hc : CompR w0 ⟨kd, ps, rs, fs⟩ (.slice pa ps.length pc) (.slice ra rs.length rc) (.slice fa fs.length fc))
    (hk : okS ⟨false, ss, ⟨kd, ps, rs, fs⟩⟩) (hz0 : ss.length = 0) (hN : N + szS ⟨false, ss, ⟨kd, ps, rs, fs⟩⟩ ≤ 17592186042000) :
    Calls Tryd.prog 44 #[.pointer (some ⟨b, 0, none⟩), .agg #[.bool false, .slice sa ss.length sc, .int .i64 kd, .slice pa ps.length pc, .slice ra rs.length rc, .slice fa fs.length fc]] w (DA b B w (thenW st (subW ⟨false, ss, ⟨kd, ps, rs, fs⟩⟩)) (N + szS ⟨false, ss, ⟨kd, ps, rs, fs⟩⟩)) := by
  have HV : Hid (LI w0 (.slice sa ss.length sc) ss) := hs
  have HC : Hid (CompR w0 ⟨kd, ps, rs, fs⟩ (.slice pa ps.length pc) (.slice ra rs.length rc) (.slice fa fs.length fc)) := hc
  have HK : Hid (∀ n ∈ ss, -9223372036854775808 ≤ n ∧ n ≤ 9223372036854775807) := hk.1
  have HKC : Hid (okC ⟨kd, ps, rs, fs⟩) := hk.2
  obtain ⟨_, _, _, hflc, hfm⟩ := hs.one
  have hfx : ss.length ≤ 9223372036854775807 := by unfold maxLen at hfm; omega
  have L : thenW (thenW (thenW (thenW st (.ok [80])) (needW (decide (ss.length ≤ 1000)) 2)) (.ok (PU ss.length))) (manyW uidxW (ss.drop 0)) = thenW st (declW ⟨false, ss, ⟨kd, ps, rs, fs⟩⟩) := by
    rw [List.drop_zero, list_eq, declW, thenW_assoc]
    rfl
  obtain ⟨R, hR⟩ : ∃ R, R = thenW st (declW ⟨false, ss, ⟨kd, ps, rs, fs⟩⟩) := ⟨_, rfl⟩
  have EE : Hid (thenW R (compW ⟨kd, ps, rs, fs⟩) = thenW st (subW ⟨false, ss, ⟨kd, ps, rs, fs⟩⟩)) := by
    show _ = _
    rw [hR, subW, if_pos (Or.inl rfl), thenW_assoc]
  rw [← hR] at L
  have HR : Hid (thenW (thenW (thenW (thenW st (.ok [80])) (needW (decide (ss.length ≤ 1000)) 2)) (.ok (PU ss.length))) (manyW uidxW (ss.drop 0)) = R) := L
  clear hR L
  have HZ : Hid (ss.length = 0) := hz0
  clear hz0
  clear hs hc hk hflc hfm
  unfold szS at hN ⊢
  simp only at hN ⊢
  generalize hZ : szC ⟨kd, ps, rs, fs⟩ = ZC at *
  have HZC : Hid (szC ⟨kd, ps, rs, fs⟩ = ZC) := hZ
  clear hZ
  have S0 : Hid (DW b B (w.alloc (.cells #[.bool false, .slice sa ss.length sc, .int .i64 kd, .slice pa ps.length pc, .slice ra rs.length rc, .slice fa fs.length fc] 101)) st N) := h.grew ((Grew.refl w).alloc _)
  have T0 : Hid (WT b B w (w.alloc (.cells #[.bool false, .slice sa ss.length sc, .int .i64 kd, .slice pa ps.length pc, .slice ra rs.length rc, .slice fa fs.length fc] 101))) := WT.of_grew ((Grew.refl w).alloc _)
  have hbx : (w.alloc (.cells #[.bool false, .slice sa ss.length sc, .int .i64 kd, .slice pa ps.length pc, .slice ra rs.length rc, .slice fa fs.length fc] 101)).heap[w.heap.size]? = some (.cells #[.bool false, .slice sa ss.length sc, .int .i64 kd, .slice pa ps.length pc, .slice ra rs.length rc, .slice fa fs.length fc] 101 (0, 0)) := heap_alloc_last w _
  have hb : b < w.heap.size := h.blt
  have hblt : b < B := h.lt
  have hnP : w.heap.size ≠ b := by omega
  have G0 : Hid (Grew w0 w) := g0
  clear h g0
  go_enter Tryd.func44, Tryd.ntmps44
  obtain ⟨o0, e0, l0, h10, h20, h30, h40⟩ := S0.out.ex
  obtain ⟨oa0, oc0, rfl⟩ := row_one h20
  have c00 := cell_of h10 0
  simp at c00
  have R0 : Hid ((w.alloc (.cells #[.bool false, .slice sa ss.length sc, .int .i64 kd, .slice pa ps.length pc, .slice ra rs.length rc, .slice fa fs.length fc] 101)).ownsRow B 5 1 (.slice oa0 l0.length oc0) l0.length (U8 l0)) := h20
  have O0 : Hid ((w.alloc (.cells #[.bool false, .slice sa ss.length sc, .int .i64 kd, .slice pa ps.length pc, .slice ra rs.length rc, .slice fa fs.length fc] 101)).heap[b]? = some (dob (.slice oa0 l0.length oc0) e0)) := h10
  have E0 : Hid (StE (st) l0 e0) := h40
  have hlb0 : b < B := S0.out.lt
  have hBl0 : B ≤ (w.alloc (.cells #[.bool false, .slice sa ss.length sc, .int .i64 kd, .slice pa ps.length pc, .slice ra rs.length rc, .slice fa fs.length fc] 101)).heap.size := S0.out.le
  clear h10 h20 h40
  rw [alloc_size] at hBl0
  go_wp2_with (
    at_builtin
    refine wp_appG (w := ((w.alloc (.cells #[.bool false, .slice sa ss.length sc, .int .i64 kd, .slice pa ps.length pc, .slice ra rs.length rc, .slice fa fs.length fc] 101)).alloc (.cells #[.int .u8 80] 5))) (v := .slice oa0 l0.length oc0) (u := .slice (some ⟨w.heap.size + 1, 0, none⟩) 1 1) (r := [80]) rfl _ _ rfl rfl rfl (World.ownsRow.alloc R0.out _) (by simp; omega) (by have hrd := reads_new (w.alloc (.cells #[.bool false, .slice sa ss.length sc, .int .i64 kd, .slice pa ps.length pc, .slice ra rs.length rc, .slice fa fs.length fc] 101)) 80 5; rw [alloc_size] at hrd; exact hrd) (by simp; omega) ?_
    intro v1 x1 ho1 hg1
    obtain ⟨a1, cc1, hv1⟩ := row_one ho1
    rw [List.length_append] at hv1
    subst hv1
    have A1 := dw_app (b := b) (B := B) (w := ((w.alloc (.cells #[.bool false, .slice sa ss.length sc, .int .i64 kd, .slice pa ps.length pc, .slice ra rs.length rc, .slice fa fs.length fc] 101)).alloc (.cells #[.int .u8 80] 5))) (st := st) (N := N) (r := [80]) (heap_alloc O0.out _) (World.ownsRow.alloc R0.out _) h30 E0.out hlb0 (by simp; omega) ho1 hg1
    have q1 := cell_of A1.1 0
    have z1 := free_of A1.1 0
    simp at q1
    have HA1 : Hid (WT b B ((w.alloc (.cells #[.bool false, .slice sa ss.length sc, .int .i64 kd, .slice pa ps.length pc, .slice ra rs.length rc, .slice fa fs.length fc] 101)).alloc (.cells #[.int .u8 80] 5)) (x1.setCell ⟨b, 0, none⟩ (.slice a1 (l0.length + [(80 : Int)].length) cc1)) ∧ DW b B (x1.setCell ⟨b, 0, none⟩ (.slice a1 (l0.length + [(80 : Int)].length) cc1)) (thenW (st) (.ok [80])) (N + [(80 : Int)].length)) := A1.2
    have tt1 := A1.2.1
    have bxP1 : x1.heap[w.heap.size]? = some (.cells #[.bool false, .slice sa ss.length sc, .int .i64 kd, .slice pa ps.length pc, .slice ra rs.length rc, .slice fa fs.length fc] 101 (0, 0)) := (wt_grown (b := b) (World.ownsRow.alloc R0.out _) hg1).other (heap_alloc hbx _) hnP (NoT.of (heap_alloc hbx _) (by decide))
    have gP01 := cell_of bxP1 0
    have gP11 := cell_of bxP1 1
    have gP21 := cell_of bxP1 2
    have gP31 := cell_of bxP1 3
    have gP41 := cell_of bxP1 4
    have gP51 := cell_of bxP1 5
    simp at gP01 gP11 gP21 gP31 gP41 gP51
    clear A1 hg1 ho1 tt1 hbx)
  have T1 : Hid (WT b B w (x1.setCell ⟨b, 0, none⟩ (.slice a1 (l0.length + 1) cc1))) := (T0.out.trans (WT.of_grew ((Grew.refl _).alloc _))).trans HA1.out.1
  have S1 : Hid (DW b B (x1.setCell ⟨b, 0, none⟩ (.slice a1 (l0.length + 1) cc1)) (thenW (st) (.ok [80])) (N + 1)) := HA1.out.2
  clear HA1 T0 S0 c00 R0 O0 E0 hlb0 hBl0 h30
  have bxs := heap_other bxP1 (p := ⟨b, 0, none⟩) hnP (.slice a1 (l0.length + 1) cc1)
  refine (dwMany_any S1.out ss.length 1000 hfx (by omega)).mono ?_
  rintro en w3 ⟨rfl, t3, s3⟩
  have T3 : Hid (WT b B w w3) := T1.out.trans t3
  have S3 : Hid (DW b B w3 (thenW (thenW (thenW (st) (.ok [80])) (needW (decide (ss.length ≤ 1000)) 2)) (.ok (PU ss.length))) (N + 1 + 11)) := s3
  have BX3 : Hid (w3.heap[w.heap.size]? = some (.cells #[.bool false, .slice sa ss.length sc, .int .i64 kd, .slice pa ps.length pc, .slice ra rs.length rc, .slice fa fs.length fc] 101 (0, 0))) := t3.other bxs hnP (NoT.of bxs (by decide))
  clear t3 s3 T1 S1 bxs bxP1 q1 z1 gP01 gP11 gP21 gP31 gP41 gP51
  go_wp2_with fail
  go_loopw [5] (fun i_ wr => ∃ (i : Nat) (sti : Except Nat (List Int)), i_ = .int .i64 i ∧ i ≤ ss.length ∧ Hid (WT b B w wr) ∧ Hid (DW b B wr sti (N + 12 + 11 * i)) ∧ Hid (thenW sti (manyW uidxW (ss.drop i)) = R) ∧ Hid (wr.heap[w.heap.size]? = some (.cells #[.bool false, .slice sa ss.length sc, .int .i64 kd, .slice pa ps.length pc, .slice ra rs.length rc, .slice fa fs.length fc] 101 (0, 0)))) (fun i_ _ => ss.length - (intOf i_).toNat)
  case atStart => exact ⟨0, _, rfl, by omega, T3, S3, HR, BX3⟩
  case round =>
    obtain ⟨i, sti, rfl, hi, TR, SR, HE, BX⟩ := hrel
    have p0b := cell_of BX.out 0
    have p1b := cell_of BX.out 1
    have p2b := cell_of BX.out 2
    have p3b := cell_of BX.out 3
    have p4b := cell_of BX.out 4
    have p5b := cell_of BX.out 5
    simp at p0b p1b p2b p3b p4b p5b
    by_cases hlt : i < ss.length
    · exact absurd hlt (by have := HZ.out; omega)
    · have d3 : decide ((i : Int) < (ss.length : Int)) = false := by simp; omega
      have d4 : decide (i < ss.length) = false := by simpa using hlt
      have E : Hid (sti = R) := by show _ = _; rw [← HE.out, many_last (by omega)]
      clear HE
      go_wp2_with fail
      refine (dwComp_any (w0 := w0) SR.out (TR.out.grew0 G0.out hb0 (by omega)) hb0 ⟨kd, ps, rs, fs⟩ (.slice pa ps.length pc) (.slice ra rs.length rc) (.slice fa fs.length fc) HC.out HKC.out (by rw [HZC.out]; omega)).mono ?_
      rintro en w9 ⟨rfl, t9, s9⟩
      have T9 : Hid (WT b B w w9) := TR.out.trans t9
      go_wp2_with fail
      go_end0
      rw [HZC.out] at s9
      rw [E.out] at s9
      exact ⟨rfl, T9.out, by rw [← EE.out]; exact s9.mono (by have : i ≤ ss.length := hi; omega)⟩
set_option maxRecDepth 100000 in
set_option maxHeartbeats 2000000 in
theorem dsb_nf {b B : Nat} {w w0 : World} {st : Except Nat (List Int)} {N : Nat} (h : DW b B w st N) (g0 : Grew w0 w) (hb0 : w0.heap.size ≤ b) (bb off : Nat) (pa ra fa : Option Addr) (sc pc rc fc : Nat) (ss : List Int) (kd : Int) (ps rs : List VT) (fs : List FT) (hs : LI w0 (.slice (some ⟨bb, off, none⟩) ss.length sc) ss) (hc : CompR w0 ⟨kd, ps, rs, fs⟩ (.slice pa ps.length pc) (.slice ra rs.length rc) (.slice fa fs.length fc))
    (hk : okS ⟨false, ss, ⟨kd, ps, rs, fs⟩⟩) (hN : N + szS ⟨false, ss, ⟨kd, ps, rs, fs⟩⟩ ≤ 17592186042000) :
    Calls Tryd.prog 44 #[.pointer (some ⟨b, 0, none⟩), .agg #[.bool false, .slice (some ⟨bb, off, none⟩) ss.length sc, .int .i64 kd, .slice pa ps.length pc, .slice ra rs.length rc, .slice fa fs.length fc]] w (DA b B w (thenW st (subW ⟨false, ss, ⟨kd, ps, rs, fs⟩⟩)) (N + szS ⟨false, ss, ⟨kd, ps, rs, fs⟩⟩)) := by
  have HV : Hid (LI w0 (.slice (some ⟨bb, off, none⟩) ss.length sc) ss) := hs
  have HC : Hid (CompR w0 ⟨kd, ps, rs, fs⟩ (.slice pa ps.length pc) (.slice ra rs.length rc) (.slice fa fs.length fc)) := hc
  have HK : Hid (∀ n ∈ ss, -9223372036854775808 ≤ n ∧ n ≤ 9223372036854775807) := hk.1
  have HKC : Hid (okC ⟨kd, ps, rs, fs⟩) := hk.2
  obtain ⟨_, _, _, hflc, hfm⟩ := hs.one
  have hfx : ss.length ≤ 9223372036854775807 := by unfold maxLen at hfm; omega
  have L : thenW (thenW (thenW (thenW st (.ok [80])) (needW (decide (ss.length ≤ 1000)) 2)) (.ok (PU ss.length))) (manyW uidxW (ss.drop 0)) = thenW st (declW ⟨false, ss, ⟨kd, ps, rs, fs⟩⟩) := by
    rw [List.drop_zero, list_eq, declW, thenW_assoc]
    rfl
  obtain ⟨R, hR⟩ : ∃ R, R = thenW st (declW ⟨false, ss, ⟨kd, ps, rs, fs⟩⟩) := ⟨_, rfl⟩
  have EE : Hid (thenW R (compW ⟨kd, ps, rs, fs⟩) = thenW st (subW ⟨false, ss, ⟨kd, ps, rs, fs⟩⟩)) := by
    show _ = _
    rw [hR, subW, if_pos (Or.inl rfl), thenW_assoc]
  rw [← hR] at L
  have HR : Hid (thenW (thenW (thenW (thenW st (.ok [80])) (needW (decide (ss.length ≤ 1000)) 2)) (.ok (PU ss.length))) (manyW uidxW (ss.drop 0)) = R) := L
  clear hR L
  clear hs hc hk hflc hfm
  unfold szS at hN ⊢
  simp only at hN ⊢
  generalize hZ : szC ⟨kd, ps, rs, fs⟩ = ZC at *
  have HZC : Hid (szC ⟨kd, ps, rs, fs⟩ = ZC) := hZ
  clear hZ
  have S0 : Hid (DW b B (w.alloc (.cells #[.bool false, .slice (some ⟨bb, off, none⟩) ss.length sc, .int .i64 kd, .slice pa ps.length pc, .slice ra rs.length rc, .slice fa fs.length fc] 101)) st N) := h.grew ((Grew.refl w).alloc _)
  have T0 : Hid (WT b B w (w.alloc (.cells #[.bool false, .slice (some ⟨bb, off, none⟩) ss.length sc, .int .i64 kd, .slice pa ps.length pc, .slice ra rs.length rc, .slice fa fs.length fc] 101))) := WT.of_grew ((Grew.refl w).alloc _)
  have hbx : (w.alloc (.cells #[.bool false, .slice (some ⟨bb, off, none⟩) ss.length sc, .int .i64 kd, .slice pa ps.length pc, .slice ra rs.length rc, .slice fa fs.length fc] 101)).heap[w.heap.size]? = some (.cells #[.bool false, .slice (some ⟨bb, off, none⟩) ss.length sc, .int .i64 kd, .slice pa ps.length pc, .slice ra rs.length rc, .slice fa fs.length fc] 101 (0, 0)) := heap_alloc_last w _
  have hb : b < w.heap.size := h.blt
  have hblt : b < B := h.lt
  have hnP : w.heap.size ≠ b := by omega
  have G0 : Hid (Grew w0 w) := g0
  clear h g0
  go_enter Tryd.func44, Tryd.ntmps44
  obtain ⟨o0, e0, l0, h10, h20, h30, h40⟩ := S0.out.ex
  obtain ⟨oa0, oc0, rfl⟩ := row_one h20
  have c00 := cell_of h10 0
  simp at c00
  have R0 : Hid ((w.alloc (.cells #[.bool false, .slice (some ⟨bb, off, none⟩) ss.length sc, .int .i64 kd, .slice pa ps.length pc, .slice ra rs.length rc, .slice fa fs.length fc] 101)).ownsRow B 5 1 (.slice oa0 l0.length oc0) l0.length (U8 l0)) := h20
  have O0 : Hid ((w.alloc (.cells #[.bool false, .slice (some ⟨bb, off, none⟩) ss.length sc, .int .i64 kd, .slice pa ps.length pc, .slice ra rs.length rc, .slice fa fs.length fc] 101)).heap[b]? = some (dob (.slice oa0 l0.length oc0) e0)) := h10
  have E0 : Hid (StE (st) l0 e0) := h40
  have hlb0 : b < B := S0.out.lt
  have hBl0 : B ≤ (w.alloc (.cells #[.bool false, .slice (some ⟨bb, off, none⟩) ss.length sc, .int .i64 kd, .slice pa ps.length pc, .slice ra rs.length rc, .slice fa fs.length fc] 101)).heap.size := S0.out.le
  clear h10 h20 h40
  rw [alloc_size] at hBl0
  go_wp2_with (
    at_builtin
    refine wp_appG (w := ((w.alloc (.cells #[.bool false, .slice (some ⟨bb, off, none⟩) ss.length sc, .int .i64 kd, .slice pa ps.length pc, .slice ra rs.length rc, .slice fa fs.length fc] 101)).alloc (.cells #[.int .u8 80] 5))) (v := .slice oa0 l0.length oc0) (u := .slice (some ⟨w.heap.size + 1, 0, none⟩) 1 1) (r := [80]) rfl _ _ rfl rfl rfl (World.ownsRow.alloc R0.out _) (by simp; omega) (by have hrd := reads_new (w.alloc (.cells #[.bool false, .slice (some ⟨bb, off, none⟩) ss.length sc, .int .i64 kd, .slice pa ps.length pc, .slice ra rs.length rc, .slice fa fs.length fc] 101)) 80 5; rw [alloc_size] at hrd; exact hrd) (by simp; omega) ?_
    intro v1 x1 ho1 hg1
    obtain ⟨a1, cc1, hv1⟩ := row_one ho1
    rw [List.length_append] at hv1
    subst hv1
    have A1 := dw_app (b := b) (B := B) (w := ((w.alloc (.cells #[.bool false, .slice (some ⟨bb, off, none⟩) ss.length sc, .int .i64 kd, .slice pa ps.length pc, .slice ra rs.length rc, .slice fa fs.length fc] 101)).alloc (.cells #[.int .u8 80] 5))) (st := st) (N := N) (r := [80]) (heap_alloc O0.out _) (World.ownsRow.alloc R0.out _) h30 E0.out hlb0 (by simp; omega) ho1 hg1
    have q1 := cell_of A1.1 0
    have z1 := free_of A1.1 0
    simp at q1
    have HA1 : Hid (WT b B ((w.alloc (.cells #[.bool false, .slice (some ⟨bb, off, none⟩) ss.length sc, .int .i64 kd, .slice pa ps.length pc, .slice ra rs.length rc, .slice fa fs.length fc] 101)).alloc (.cells #[.int .u8 80] 5)) (x1.setCell ⟨b, 0, none⟩ (.slice a1 (l0.length + [(80 : Int)].length) cc1)) ∧ DW b B (x1.setCell ⟨b, 0, none⟩ (.slice a1 (l0.length + [(80 : Int)].length) cc1)) (thenW (st) (.ok [80])) (N + [(80 : Int)].length)) := A1.2
    have tt1 := A1.2.1
    have bxP1 : x1.heap[w.heap.size]? = some (.cells #[.bool false, .slice (some ⟨bb, off, none⟩) ss.length sc, .int .i64 kd, .slice pa ps.length pc, .slice ra rs.length rc, .slice fa fs.length fc] 101 (0, 0)) := (wt_grown (b := b) (World.ownsRow.alloc R0.out _) hg1).other (heap_alloc hbx _) hnP (NoT.of (heap_alloc hbx _) (by decide))
    have gP01 := cell_of bxP1 0
    have gP11 := cell_of bxP1 1
    have gP21 := cell_of bxP1 2
    have gP31 := cell_of bxP1 3
    have gP41 := cell_of bxP1 4
    have gP51 := cell_of bxP1 5
    simp at gP01 gP11 gP21 gP31 gP41 gP51
    clear A1 hg1 ho1 tt1 hbx)
  have T1 : Hid (WT b B w (x1.setCell ⟨b, 0, none⟩ (.slice a1 (l0.length + 1) cc1))) := (T0.out.trans (WT.of_grew ((Grew.refl _).alloc _))).trans HA1.out.1
  have S1 : Hid (DW b B (x1.setCell ⟨b, 0, none⟩ (.slice a1 (l0.length + 1) cc1)) (thenW (st) (.ok [80])) (N + 1)) := HA1.out.2
  clear HA1 T0 S0 c00 R0 O0 E0 hlb0 hBl0 h30
  have bxs := heap_other bxP1 (p := ⟨b, 0, none⟩) hnP (.slice a1 (l0.length + 1) cc1)
  refine (dwMany_any S1.out ss.length 1000 hfx (by omega)).mono ?_
  rintro en w3 ⟨rfl, t3, s3⟩
  have T3 : Hid (WT b B w w3) := T1.out.trans t3
  have S3 : Hid (DW b B w3 (thenW (thenW (thenW (st) (.ok [80])) (needW (decide (ss.length ≤ 1000)) 2)) (.ok (PU ss.length))) (N + 1 + 11)) := s3
  have BX3 : Hid (w3.heap[w.heap.size]? = some (.cells #[.bool false, .slice (some ⟨bb, off, none⟩) ss.length sc, .int .i64 kd, .slice pa ps.length pc, .slice ra rs.length rc, .slice fa fs.length fc] 101 (0, 0))) := t3.other bxs hnP (NoT.of bxs (by decide))
  clear t3 s3 T1 S1 bxs bxP1 q1 z1 gP01 gP11 gP21 gP31 gP41 gP51
  go_wp2_with fail
  go_loopw [5] (fun i_ wr => ∃ (i : Nat) (sti : Except Nat (List Int)), i_ = .int .i64 i ∧ i ≤ ss.length ∧ Hid (WT b B w wr) ∧ Hid (DW b B wr sti (N + 12 + 11 * i)) ∧ Hid (thenW sti (manyW uidxW (ss.drop i)) = R) ∧ Hid (wr.heap[w.heap.size]? = some (.cells #[.bool false, .slice (some ⟨bb, off, none⟩) ss.length sc, .int .i64 kd, .slice pa ps.length pc, .slice ra rs.length rc, .slice fa fs.length fc] 101 (0, 0)))) (fun i_ _ => ss.length - (intOf i_).toNat)
  case atStart => exact ⟨0, _, rfl, by omega, T3, S3, HR, BX3⟩
  case round =>
    obtain ⟨i, sti, rfl, hi, TR, SR, HE, BX⟩ := hrel
    have p0b := cell_of BX.out 0
    have p1b := cell_of BX.out 1
    have p2b := cell_of BX.out 2
    have p3b := cell_of BX.out 3
    have p4b := cell_of BX.out 4
    have p5b := cell_of BX.out 5
    simp at p0b p1b p2b p3b p4b p5b
    by_cases hlt : i < ss.length
    · obtain ⟨x, hx⟩ : ∃ x, ss[i]? = some x := ⟨_, List.getElem?_eq_getElem hlt⟩
      have hxok := HK.out x (List.mem_of_getElem? hx)
      have d3 : decide ((i : Int) < (ss.length : Int)) = true := by simp; omega
      have d4 : decide (i < ss.length) = true := by simpa using hlt
      have GR : Grew w0 wr := TR.out.grew0 G0.out hb0 (by omega)
      obtain ⟨bb', off', ea, _, hc⟩ := (HV.out.grew GR).get (by omega)
      have hce := hc i x hx
      have ea2 : bb' = bb ∧ off' = off := by simp at ea; exact ⟨ea.1.symm, ea.2.symm⟩
      rw [ea2.1, ea2.2] at hce
      clear ea ea2
      have HE2 : Hid (thenW (thenW sti (uidxW x)) (manyW uidxW (ss.drop (i + 1))) = R) := by show _ = _; rw [← HE.out, many_next hx]
      unfold EI at hce
      simp only [Nat.mul_one] at hce
      have C2 : ∀ (W : World), DW b B W sti (N + 12 + 11 * i) → Calls Tryd.prog 49 #[.pointer (some ⟨b, 0, none⟩), .int .i64 x] W (DA b B W (thenW sti (uidxW x)) (N + 12 + 11 * i + 11)) := fun W u => dwIndex_any u x hxok.1 hxok.2 (by omega)
      clear hxok
      generalize uidxW x = Z at *
      clear hc hx GR HE
      go_wp2_with fail
      refine (C2 _ SR.out).mono ?_
      rintro en w2 ⟨rfl, t2, s2⟩
      have T2 : Hid (WT b B w w2) := TR.out.trans t2
      have S2 : Hid (DW b B w2 (thenW sti Z) (N + 12 + 11 * i + 11)) := s2
      have BX2 : Hid (w2.heap[w.heap.size]? = some (.cells #[.bool false, .slice (some ⟨bb, off, none⟩) ss.length sc, .int .i64 kd, .slice pa ps.length pc, .slice ra rs.length rc, .slice fa fs.length fc] 101 (0, 0))) := t2.other BX.out hnP (NoT.of BX.out (by decide))
      clear BX p0b p1b p2b p3b p4b p5b
      clear t2 s2 C2 TR SR
      go_wp2_with fail
      go_roundw
      case rel => exact ⟨i + 1, _, by go_num, by omega, T2, S2.out.mono (by omega), HE2, BX2⟩
      case measure => simp [intOf]; omega
    · have d3 : decide ((i : Int) < (ss.length : Int)) = false := by simp; omega
      have d4 : decide (i < ss.length) = false := by simpa using hlt
      have E : Hid (sti = R) := by show _ = _; rw [← HE.out, many_last (by omega)]
      clear HE
      go_wp2_with fail
      refine (dwComp_any (w0 := w0) SR.out (TR.out.grew0 G0.out hb0 (by omega)) hb0 ⟨kd, ps, rs, fs⟩ (.slice pa ps.length pc) (.slice ra rs.length rc) (.slice fa fs.length fc) HC.out HKC.out (by rw [HZC.out]; omega)).mono ?_
      rintro en w9 ⟨rfl, t9, s9⟩
      have T9 : Hid (WT b B w w9) := TR.out.trans t9
      go_wp2_with fail
      go_end0
      rw [HZC.out] at s9
      rw [E.out] at s9
      exact ⟨rfl, T9.out, by rw [← EE.out]; exact s9.mono (by have : i ≤ ss.length := hi; omega)⟩
set_option maxRecDepth 100000 in
set_option maxHeartbeats 2000000 in
theorem dsb_ff {b B : Nat} {w w0 : World} {st : Except Nat (List Int)} {N : Nat} (h : DW b B w st N) (g0 : Grew w0 w) (hb0 : w0.heap.size ≤ b) (bb off : Nat) (pa ra fa : Option Addr) (sc pc rc fc : Nat) (ss : List Int) (kd : Int) (ps rs : List VT) (fs : List FT) (hs : LI w0 (.slice (some ⟨bb, off, none⟩) ss.length sc) ss) (hc : CompR w0 ⟨kd, ps, rs, fs⟩ (.slice pa ps.length pc) (.slice ra rs.length rc) (.slice fa fs.length fc))
    (hk : okS ⟨true, ss, ⟨kd, ps, rs, fs⟩⟩) (hz0 : 0 < ss.length) (hN : N + szS ⟨true, ss, ⟨kd, ps, rs, fs⟩⟩ ≤ 17592186042000) :
    Calls Tryd.prog 44 #[.pointer (some ⟨b, 0, none⟩), .agg #[.bool true, .slice (some ⟨bb, off, none⟩) ss.length sc, .int .i64 kd, .slice pa ps.length pc, .slice ra rs.length rc, .slice fa fs.length fc]] w (DA b B w (thenW st (subW ⟨true, ss, ⟨kd, ps, rs, fs⟩⟩)) (N + szS ⟨true, ss, ⟨kd, ps, rs, fs⟩⟩)) := by
  have HV : Hid (LI w0 (.slice (some ⟨bb, off, none⟩) ss.length sc) ss) := hs
  have HC : Hid (CompR w0 ⟨kd, ps, rs, fs⟩ (.slice pa ps.length pc) (.slice ra rs.length rc) (.slice fa fs.length fc)) := hc
  have HK : Hid (∀ n ∈ ss, -9223372036854775808 ≤ n ∧ n ≤ 9223372036854775807) := hk.1
  have HKC : Hid (okC ⟨kd, ps, rs, fs⟩) := hk.2
  obtain ⟨_, _, _, hflc, hfm⟩ := hs.one
  have hfx : ss.length ≤ 9223372036854775807 := by unfold maxLen at hfm; omega
  have L : thenW (thenW (thenW (thenW st (.ok [79])) (needW (decide (ss.length ≤ 1000)) 2)) (.ok (PU ss.length))) (manyW uidxW (ss.drop 0)) = thenW st (declW ⟨true, ss, ⟨kd, ps, rs, fs⟩⟩) := by
    rw [List.drop_zero, list_eq, declW, thenW_assoc]
    rfl
  obtain ⟨R, hR⟩ : ∃ R, R = thenW st (declW ⟨true, ss, ⟨kd, ps, rs, fs⟩⟩) := ⟨_, rfl⟩
  have EE : Hid (thenW R (compW ⟨kd, ps, rs, fs⟩) = thenW st (subW ⟨true, ss, ⟨kd, ps, rs, fs⟩⟩)) := by
    show _ = _
    rw [hR, subW, if_pos (Or.inr hz0), thenW_assoc]
  rw [← hR] at L
  have HR : Hid (thenW (thenW (thenW (thenW st (.ok [79])) (needW (decide (ss.length ≤ 1000)) 2)) (.ok (PU ss.length))) (manyW uidxW (ss.drop 0)) = R) := L
  clear hR L
  have dz : decide ((0 : Int) < (ss.length : Int)) = true := by simp; omega
  have dz2 : decide (0 < ss.length) = true := by simpa using hz0
  clear hs hc hk hflc hfm
  unfold szS at hN ⊢
  simp only at hN ⊢
  generalize hZ : szC ⟨kd, ps, rs, fs⟩ = ZC at *
  have HZC : Hid (szC ⟨kd, ps, rs, fs⟩ = ZC) := hZ
  clear hZ
  have S0 : Hid (DW b B (w.alloc (.cells #[.bool true, .slice (some ⟨bb, off, none⟩) ss.length sc, .int .i64 kd, .slice pa ps.length pc, .slice ra rs.length rc, .slice fa fs.length fc] 101)) st N) := h.grew ((Grew.refl w).alloc _)
  have T0 : Hid (WT b B w (w.alloc (.cells #[.bool true, .slice (some ⟨bb, off, none⟩) ss.length sc, .int .i64 kd, .slice pa ps.length pc, .slice ra rs.length rc, .slice fa fs.length fc] 101))) := WT.of_grew ((Grew.refl w).alloc _)
  have hbx : (w.alloc (.cells #[.bool true, .slice (some ⟨bb, off, none⟩) ss.length sc, .int .i64 kd, .slice pa ps.length pc, .slice ra rs.length rc, .slice fa fs.length fc] 101)).heap[w.heap.size]? = some (.cells #[.bool true, .slice (some ⟨bb, off, none⟩) ss.length sc, .int .i64 kd, .slice pa ps.length pc, .slice ra rs.length rc, .slice fa fs.length fc] 101 (0, 0)) := heap_alloc_last w _
  have hb : b < w.heap.size := h.blt
  have hblt : b < B := h.lt
  have hnP : w.heap.size ≠ b := by omega
  have G0 : Hid (Grew w0 w) := g0
  clear h g0
  go_enter Tryd.func44, Tryd.ntmps44
  obtain ⟨o0, e0, l0, h10, h20, h30, h40⟩ := S0.out.ex
  obtain ⟨oa0, oc0, rfl⟩ := row_one h20
  have c00 := cell_of h10 0
  simp at c00
  have R0 : Hid ((w.alloc (.cells #[.bool true, .slice (some ⟨bb, off, none⟩) ss.length sc, .int .i64 kd, .slice pa ps.length pc, .slice ra rs.length rc, .slice fa fs.length fc] 101)).ownsRow B 5 1 (.slice oa0 l0.length oc0) l0.length (U8 l0)) := h20
  have O0 : Hid ((w.alloc (.cells #[.bool true, .slice (some ⟨bb, off, none⟩) ss.length sc, .int .i64 kd, .slice pa ps.length pc, .slice ra rs.length rc, .slice fa fs.length fc] 101)).heap[b]? = some (dob (.slice oa0 l0.length oc0) e0)) := h10
  have E0 : Hid (StE (st) l0 e0) := h40
  have hlb0 : b < B := S0.out.lt
  have hBl0 : B ≤ (w.alloc (.cells #[.bool true, .slice (some ⟨bb, off, none⟩) ss.length sc, .int .i64 kd, .slice pa ps.length pc, .slice ra rs.length rc, .slice fa fs.length fc] 101)).heap.size := S0.out.le
  clear h10 h20 h40
  rw [alloc_size] at hBl0
  go_wp2_with (
    at_builtin
    refine wp_appG (w := ((w.alloc (.cells #[.bool true, .slice (some ⟨bb, off, none⟩) ss.length sc, .int .i64 kd, .slice pa ps.length pc, .slice ra rs.length rc, .slice fa fs.length fc] 101)).alloc (.cells #[.int .u8 79] 5))) (v := .slice oa0 l0.length oc0) (u := .slice (some ⟨w.heap.size + 1, 0, none⟩) 1 1) (r := [79]) rfl _ _ rfl rfl rfl (World.ownsRow.alloc R0.out _) (by simp; omega) (by have hrd := reads_new (w.alloc (.cells #[.bool true, .slice (some ⟨bb, off, none⟩) ss.length sc, .int .i64 kd, .slice pa ps.length pc, .slice ra rs.length rc, .slice fa fs.length fc] 101)) 79 5; rw [alloc_size] at hrd; exact hrd) (by simp; omega) ?_
    intro v1 x1 ho1 hg1
    obtain ⟨a1, cc1, hv1⟩ := row_one ho1
    rw [List.length_append] at hv1
    subst hv1
    have A1 := dw_app (b := b) (B := B) (w := ((w.alloc (.cells #[.bool true, .slice (some ⟨bb, off, none⟩) ss.length sc, .int .i64 kd, .slice pa ps.length pc, .slice ra rs.length rc, .slice fa fs.length fc] 101)).alloc (.cells #[.int .u8 79] 5))) (st := st) (N := N) (r := [79]) (heap_alloc O0.out _) (World.ownsRow.alloc R0.out _) h30 E0.out hlb0 (by simp; omega) ho1 hg1
    have q1 := cell_of A1.1 0
    have z1 := free_of A1.1 0
    simp at q1
    have HA1 : Hid (WT b B ((w.alloc (.cells #[.bool true, .slice (some ⟨bb, off, none⟩) ss.length sc, .int .i64 kd, .slice pa ps.length pc, .slice ra rs.length rc, .slice fa fs.length fc] 101)).alloc (.cells #[.int .u8 79] 5)) (x1.setCell ⟨b, 0, none⟩ (.slice a1 (l0.length + [(79 : Int)].length) cc1)) ∧ DW b B (x1.setCell ⟨b, 0, none⟩ (.slice a1 (l0.length + [(79 : Int)].length) cc1)) (thenW (st) (.ok [79])) (N + [(79 : Int)].length)) := A1.2
    have tt1 := A1.2.1
    have bxP1 : x1.heap[w.heap.size]? = some (.cells #[.bool true, .slice (some ⟨bb, off, none⟩) ss.length sc, .int .i64 kd, .slice pa ps.length pc, .slice ra rs.length rc, .slice fa fs.length fc] 101 (0, 0)) := (wt_grown (b := b) (World.ownsRow.alloc R0.out _) hg1).other (heap_alloc hbx _) hnP (NoT.of (heap_alloc hbx _) (by decide))
    have gP01 := cell_of bxP1 0
    have gP11 := cell_of bxP1 1
    have gP21 := cell_of bxP1 2
    have gP31 := cell_of bxP1 3
    have gP41 := cell_of bxP1 4
    have gP51 := cell_of bxP1 5
    simp at gP01 gP11 gP21 gP31 gP41 gP51
    clear A1 hg1 ho1 tt1 hbx)
  have T1 : Hid (WT b B w (x1.setCell ⟨b, 0, none⟩ (.slice a1 (l0.length + 1) cc1))) := (T0.out.trans (WT.of_grew ((Grew.refl _).alloc _))).trans HA1.out.1
  have S1 : Hid (DW b B (x1.setCell ⟨b, 0, none⟩ (.slice a1 (l0.length + 1) cc1)) (thenW (st) (.ok [79])) (N + 1)) := HA1.out.2
  clear HA1 T0 S0 c00 R0 O0 E0 hlb0 hBl0 h30
  have bxs := heap_other bxP1 (p := ⟨b, 0, none⟩) hnP (.slice a1 (l0.length + 1) cc1)
  refine (dwMany_any S1.out ss.length 1000 hfx (by omega)).mono ?_
  rintro en w3 ⟨rfl, t3, s3⟩
  have T3 : Hid (WT b B w w3) := T1.out.trans t3
  have S3 : Hid (DW b B w3 (thenW (thenW (thenW (st) (.ok [79])) (needW (decide (ss.length ≤ 1000)) 2)) (.ok (PU ss.length))) (N + 1 + 11)) := s3
  have BX3 : Hid (w3.heap[w.heap.size]? = some (.cells #[.bool true, .slice (some ⟨bb, off, none⟩) ss.length sc, .int .i64 kd, .slice pa ps.length pc, .slice ra rs.length rc, .slice fa fs.length fc] 101 (0, 0))) := t3.other bxs hnP (NoT.of bxs (by decide))
  clear t3 s3 T1 S1 bxs bxP1 q1 z1 gP01 gP11 gP21 gP31 gP41 gP51
  go_wp2_with fail
  go_loopw [5] (fun i_ wr => ∃ (i : Nat) (sti : Except Nat (List Int)), i_ = .int .i64 i ∧ i ≤ ss.length ∧ Hid (WT b B w wr) ∧ Hid (DW b B wr sti (N + 12 + 11 * i)) ∧ Hid (thenW sti (manyW uidxW (ss.drop i)) = R) ∧ Hid (wr.heap[w.heap.size]? = some (.cells #[.bool true, .slice (some ⟨bb, off, none⟩) ss.length sc, .int .i64 kd, .slice pa ps.length pc, .slice ra rs.length rc, .slice fa fs.length fc] 101 (0, 0)))) (fun i_ _ => ss.length - (intOf i_).toNat)
  case atStart => exact ⟨0, _, rfl, by omega, T3, S3, HR, BX3⟩
  case round =>
    obtain ⟨i, sti, rfl, hi, TR, SR, HE, BX⟩ := hrel
    have p0b := cell_of BX.out 0
    have p1b := cell_of BX.out 1
    have p2b := cell_of BX.out 2
    have p3b := cell_of BX.out 3
    have p4b := cell_of BX.out 4
    have p5b := cell_of BX.out 5
    simp at p0b p1b p2b p3b p4b p5b
    by_cases hlt : i < ss.length
    · obtain ⟨x, hx⟩ : ∃ x, ss[i]? = some x := ⟨_, List.getElem?_eq_getElem hlt⟩
      have hxok := HK.out x (List.mem_of_getElem? hx)
      have d3 : decide ((i : Int) < (ss.length : Int)) = true := by simp; omega
      have d4 : decide (i < ss.length) = true := by simpa using hlt
      have GR : Grew w0 wr := TR.out.grew0 G0.out hb0 (by omega)
      obtain ⟨bb', off', ea, _, hc⟩ := (HV.out.grew GR).get (by omega)
      have hce := hc i x hx
      have ea2 : bb' = bb ∧ off' = off := by simp at ea; exact ⟨ea.1.symm, ea.2.symm⟩
      rw [ea2.1, ea2.2] at hce
      clear ea ea2
      have HE2 : Hid (thenW (thenW sti (uidxW x)) (manyW uidxW (ss.drop (i + 1))) = R) := by show _ = _; rw [← HE.out, many_next hx]
      unfold EI at hce
      simp only [Nat.mul_one] at hce
      have C2 : ∀ (W : World), DW b B W sti (N + 12 + 11 * i) → Calls Tryd.prog 49 #[.pointer (some ⟨b, 0, none⟩), .int .i64 x] W (DA b B W (thenW sti (uidxW x)) (N + 12 + 11 * i + 11)) := fun W u => dwIndex_any u x hxok.1 hxok.2 (by omega)
      clear hxok
      generalize uidxW x = Z at *
      clear hc hx GR HE
      go_wp2_with fail
      refine (C2 _ SR.out).mono ?_
      rintro en w2 ⟨rfl, t2, s2⟩
      have T2 : Hid (WT b B w w2) := TR.out.trans t2
      have S2 : Hid (DW b B w2 (thenW sti Z) (N + 12 + 11 * i + 11)) := s2
      have BX2 : Hid (w2.heap[w.heap.size]? = some (.cells #[.bool true, .slice (some ⟨bb, off, none⟩) ss.length sc, .int .i64 kd, .slice pa ps.length pc, .slice ra rs.length rc, .slice fa fs.length fc] 101 (0, 0))) := t2.other BX.out hnP (NoT.of BX.out (by decide))
      clear BX p0b p1b p2b p3b p4b p5b
      clear t2 s2 C2 TR SR
      go_wp2_with fail
      go_roundw
      case rel => exact ⟨i + 1, _, by go_num, by omega, T2, S2.out.mono (by omega), HE2, BX2⟩
      case measure => simp [intOf]; omega
    · have d3 : decide ((i : Int) < (ss.length : Int)) = false := by simp; omega
      have d4 : decide (i < ss.length) = false := by simpa using hlt
      have E : Hid (sti = R) := by show _ = _; rw [← HE.out, many_last (by omega)]
      clear HE
      go_wp2_with fail
      refine (dwComp_any (w0 := w0) SR.out (TR.out.grew0 G0.out hb0 (by omega)) hb0 ⟨kd, ps, rs, fs⟩ (.slice pa ps.length pc) (.slice ra rs.length rc) (.slice fa fs.length fc) HC.out HKC.out (by rw [HZC.out]; omega)).mono ?_
      rintro en w9 ⟨rfl, t9, s9⟩
      have T9 : Hid (WT b B w w9) := TR.out.trans t9
      go_wp2_with fail
      go_end0
      rw [HZC.out] at s9
      rw [E.out] at s9
      exact ⟨rfl, T9.out, by rw [← EE.out]; exact s9.mono (by have : i ≤ ss.length := hi; omega)⟩
set_option maxRecDepth 100000 in
set_option maxHeartbeats 2000000 in
theorem dsb_fe {b B : Nat} {w w0 : World} {st : Except Nat (List Int)} {N : Nat} (h : DW b B w st N) (g0 : Grew w0 w) (hb0 : w0.heap.size ≤ b) (sa : Option Addr) (pa ra fa : Option Addr) (sc pc rc fc : Nat) (ss : List Int) (kd : Int) (ps rs : List VT) (fs : List FT) (hs : LI w0 (.slice sa ss.length sc) ss) (hc : CompR w0 ⟨kd, ps, rs, fs⟩ (.slice pa ps.length pc) (.slice ra rs.length rc) (.slice fa fs.length fc))
    (hk : okS ⟨true, ss, ⟨kd, ps, rs, fs⟩⟩) (hz0 : ss.length = 0) (hN : N + szS ⟨true, ss, ⟨kd, ps, rs, fs⟩⟩ ≤ 17592186042000) :
    Calls Tryd.prog 44 #[.pointer (some ⟨b, 0, none⟩), .agg #[.bool true, .slice sa ss.length sc, .int .i64 kd, .slice pa ps.length pc, .slice ra rs.length rc, .slice fa fs.length fc]] w (DA b B w (thenW st (subW ⟨true, ss, ⟨kd, ps, rs, fs⟩⟩)) (N + szS ⟨true, ss, ⟨kd, ps, rs, fs⟩⟩)) := by
  have HV : Hid (LI w0 (.slice sa ss.length sc) ss) := hs
  have HC : Hid (CompR w0 ⟨kd, ps, rs, fs⟩ (.slice pa ps.length pc) (.slice ra rs.length rc) (.slice fa fs.length fc)) := hc
  have HK : Hid (∀ n ∈ ss, -9223372036854775808 ≤ n ∧ n ≤ 9223372036854775807) := hk.1
  have HKC : Hid (okC ⟨kd, ps, rs, fs⟩) := hk.2
  obtain ⟨_, _, _, hflc, hfm⟩ := hs.one
  have hfx : ss.length ≤ 9223372036854775807 := by unfold maxLen at hfm; omega
  have EE : Hid (thenW st (compW ⟨kd, ps, rs, fs⟩) = thenW st (subW ⟨true, ss, ⟨kd, ps, rs, fs⟩⟩)) := by
    show _ = _
    rw [subW, if_neg (by simp; exact List.eq_nil_of_length_eq_zero hz0)]
  have dz : decide ((0 : Int) < (ss.length : Int)) = false := by simp; exact List.eq_nil_of_length_eq_zero hz0
  have dz2 : decide (0 < ss.length) = false := by simp; exact List.eq_nil_of_length_eq_zero hz0
  clear hz0
  clear hs hc hk hflc hfm
  unfold szS at hN ⊢
  simp only at hN ⊢
  generalize hZ : szC ⟨kd, ps, rs, fs⟩ = ZC at *
  have HZC : Hid (szC ⟨kd, ps, rs, fs⟩ = ZC) := hZ
  clear hZ
  have S0 : Hid (DW b B (w.alloc (.cells #[.bool true, .slice sa ss.length sc, .int .i64 kd, .slice pa ps.length pc, .slice ra rs.length rc, .slice fa fs.length fc] 101)) st N) := h.grew ((Grew.refl w).alloc _)
  have T0 : Hid (WT b B w (w.alloc (.cells #[.bool true, .slice sa ss.length sc, .int .i64 kd, .slice pa ps.length pc, .slice ra rs.length rc, .slice fa fs.length fc] 101))) := WT.of_grew ((Grew.refl w).alloc _)
  have hbx : (w.alloc (.cells #[.bool true, .slice sa ss.length sc, .int .i64 kd, .slice pa ps.length pc, .slice ra rs.length rc, .slice fa fs.length fc] 101)).heap[w.heap.size]? = some (.cells #[.bool true, .slice sa ss.length sc, .int .i64 kd, .slice pa ps.length pc, .slice ra rs.length rc, .slice fa fs.length fc] 101 (0, 0)) := heap_alloc_last w _
  have hb : b < w.heap.size := h.blt
  have hblt : b < B := h.lt
  have hnP : w.heap.size ≠ b := by omega
  have G0 : Hid (Grew w0 w) := g0
  clear h g0
  go_enter Tryd.func44, Tryd.ntmps44
  go_wp2_with fail
  refine (dwComp_any (w0 := w0) S0.out (T0.out.grew0 G0.out hb0 (by omega)) hb0 ⟨kd, ps, rs, fs⟩ (.slice pa ps.length pc) (.slice ra rs.length rc) (.slice fa fs.length fc) HC.out HKC.out (by rw [HZC.out]; omega)).mono ?_
  rintro en w9 ⟨rfl, t9, s9⟩
  have T9 : Hid (WT b B w w9) := T0.out.trans t9
  go_wp2_with fail
  go_end0
  rw [HZC.out] at s9
  exact ⟨rfl, T9.out, by rw [← EE.out]; exact s9.mono (by omega)⟩
theorem dwSub_any {b B : Nat} {w w0 : World} {st : Except Nat (List Int)} {N : Nat} (h : DW b B w st N) (g0 : Grew w0 w) (hb0 : w0.heap.size ≤ b) (x : SB) (sv pv rv fv : Value) (hx : SubR w0 x sv pv rv fv) (hk : okS x) (hN : N + szS x ≤ 17592186042000) :
    Calls Tryd.prog 44 #[.pointer (some ⟨b, 0, none⟩), .agg #[.bool x.final_, sv, .int .i64 x.comp.kind, pv, rv, fv]] w (DA b B w (thenW st (subW x)) (N + szS x)) := by
  obtain ⟨fin, ss, ⟨kd, ps, rs, fs⟩⟩ := x
  obtain ⟨hs, hp, hr, hf⟩ := hx
  have hc : CompR w0 ⟨kd, ps, rs, fs⟩ pv rv fv := ⟨hp, hr, hf⟩
  obtain ⟨sa, sc, rfl, _, _⟩ := hs.one
  obtain ⟨pa, pc, rfl, _, _⟩ := hp.one
  obtain ⟨ra, rc, rfl, _, _⟩ := hr.one
  obtain ⟨fa, fc, rfl, _, _⟩ := hf.one
  cases fin with
  | false =>
    rcases Nat.eq_zero_or_pos ss.length with hz0 | hz0
    · exact dsb_ne h g0 hb0 sa pa ra fa sc pc rc fc ss kd ps rs fs hs hc hk hz0 hN
    · obtain ⟨bb, off, rfl, _, _⟩ := hs.get hz0
      exact dsb_nf h g0 hb0 bb off pa ra fa sc pc rc fc ss kd ps rs fs hs hc hk hN
  | true =>
    rcases Nat.eq_zero_or_pos ss.length with hz0 | hz0
    · exact dsb_fe h g0 hb0 sa pa ra fa sc pc rc fc ss kd ps rs fs hs hc hk hz0 hN
    · obtain ⟨bb, off, rfl, _, _⟩ := hs.get hz0
      exact dsb_ff h g0 hb0 bb off pa ra fa sc pc rc fc ss kd ps rs fs hs hc hk hz0 hN
end Go.Proofs.YtbhbogfdnaadeaaDoor
