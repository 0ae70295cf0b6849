/-
  The document's writer: the walks of vals and comp; no statement is proved here.
-/
import Derived.Test.YtbhbogfdnaadeaaDoorDw5
import Derived.Test.YtbhbogfdnaadeaaDoorWr5
namespace Go.Proofs.YtbhbogfdnaadeaaDoor
open Go.RowKit
set_option linter.unusedVariables false
set_option linter.unusedSimpArgs false
set_option linter.constructorNameAsVariable false

theorem list_eq {α : Type} (st : Except Nat (List Int)) (lim : Nat) (wr : α → Except Nat (List Int)) (xs : List α) :
    thenW (thenW (thenW st (needW (decide (xs.length ≤ lim)) 2)) (.ok (PU xs.length))) (manyW wr xs) = thenW st (listW lim wr xs) := by
  unfold listW
  by_cases h : xs.length ≤ lim
  · rw [decide_eq_true h, if_neg (by omega), thenW_yes, thenW_assoc]
  · rw [decide_eq_false h, if_pos (by omega), thenW_no, thenW_err]
theorem many_next {α : Type} {wr : α → Except Nat (List Int)} {xs : List α} {i : Nat} {x : α} (hx : xs[i]? = some x) (st : Except Nat (List Int)) : thenW st (manyW wr (xs.drop i)) = thenW (thenW st (wr x)) (manyW wr (xs.drop (i + 1))) := by
  have hd : xs.drop i = x :: xs.drop (i + 1) := by
    obtain ⟨h, e⟩ := List.getElem?_eq_some_iff.1 hx
    rw [← e]; exact List.drop_eq_getElem_cons h
  rw [hd, manyW, thenW_assoc]
theorem many_last {α : Type} {wr : α → Except Nat (List Int)} {xs : List α} {i : Nat} (hi : xs.length ≤ i) (st : Except Nat (List Int)) : thenW st (manyW wr (xs.drop i)) = st := by
  rw [List.drop_eq_nil_of_le hi, manyW, thenW_nil]
set_option maxRecDepth 100000 in
set_option maxHeartbeats 2000000 in
theorem dwVals_any {b B : Nat} {w w0 : World} {st : Except Nat (List Int)} {N : Nat} (h : DW b B w st N) (g0 : Grew w0 w) (hb0 : w0.heap.size ≤ b) (v : Value) (xs : List VT) (hv : LV w0 v xs) (hok : ∀ x ∈ xs, okV x) (hN : N + 12 * xs.length ≤ 17592186044000) :
    Calls Tryd.prog 107 #[.pointer (some ⟨b, 0, none⟩), v] w (DA b B w (thenW st (listW 1000 valW xs)) (N + 11 + 12 * xs.length)) := by
  have S0 : Hid (DW b B w st N) := h
  have hblt := h.lt
  have hb : b < w.heap.size := h.blt
  have G0 : Hid (Grew w0 w) := g0
  have HV : Hid (LV w0 v xs) := hv
  have HK : Hid (∀ x ∈ xs, okV x) := hok
  obtain ⟨a, cap, rfl, hlc, hm⟩ := hv.one
  have hxm : xs.length ≤ 9223372036854775807 := by unfold maxLen at hm; omega
  clear h g0 hv hok
  have L := list_eq st 1000 valW xs
  obtain ⟨R, hR⟩ : ∃ R, R = thenW st (listW 1000 valW xs) := ⟨_, rfl⟩
  rw [← hR] at L ⊢
  have HR : Hid (thenW (thenW (thenW st (needW (decide (xs.length ≤ 1000)) 2)) (.ok (PU xs.length))) (manyW valW (xs.drop 0)) = R) := L
  clear hR L
  go_enter Tryd.func107, Tryd.ntmps107
  go_wp2_with fail
  refine (dwMany_any S0.out xs.length 1000 hxm (by omega)).mono ?_
  rintro en w1 ⟨rfl, t1, s1⟩
  have T1 : Hid (WT b B w w1) := t1
  have S1 : Hid (DW b B w1 (thenW (thenW st (needW (decide (xs.length ≤ 1000)) 2)) (.ok (PU xs.length))) (N + 11)) := s1
  clear t1 s1 S0
  go_wp2_with fail
  go_loopw [4] (fun i_ wr => ∃ (i : Nat) (sti : Except Nat (List Int)), i_ = .int .i64 i ∧ i ≤ xs.length ∧ Hid (WT b B w wr) ∧ Hid (DW b B wr sti (N + 11 + 12 * i)) ∧ Hid (thenW sti (manyW valW (xs.drop i)) = R)) (fun i_ _ => xs.length - (intOf i_).toNat)
  case atStart => exact ⟨0, _, rfl, by omega, T1, S1, HR⟩
  case round =>
    obtain ⟨i, sti, rfl, hi, TR, SR, HE⟩ := hrel
    by_cases hlt : i < xs.length
    · obtain ⟨x, hx⟩ : ∃ x, xs[i]? = some x := ⟨_, List.getElem?_eq_getElem hlt⟩
      have hxok := HK.out x (List.mem_of_getElem? hx)
      have d3 : decide ((i : Int) < (xs.length : Int)) = true := by simp; omega
      have d4 : decide (i < xs.length) = true := by simpa using hlt
      have GR : Grew w0 wr := TR.out.grew0 G0.out hb0 (by omega)
      obtain ⟨bb, off, ea, _, hc⟩ := (HV.out.grew GR).get (by omega)
      have hce := hc i x hx
      subst ea
      skip
      skip
      have HE2 : Hid (thenW (thenW sti (valW x)) (manyW valW (xs.drop (i + 1))) = R) := by show _ = _; rw [← HE.out, many_next hx]
      obtain ⟨vn, vb, vh⟩ := x
      obtain ⟨p0, p1, p2⟩ := hce
      simp only at p0 p1 p2
      have C2 : ∀ (W : World), DW b B W sti (N + 11 + 12 * i) → Calls Tryd.prog 36 #[.pointer (some ⟨b, 0, none⟩), .agg #[.int .i64 vn, .bool vb, .int .i64 vh], .bool false] W (DA b B W (thenW sti (valW ⟨vn, vb, vh⟩)) (N + 11 + 12 * i + 12)) := fun W u => dwVal_any u ⟨vn, vb, vh⟩ false hxok (by omega)
      generalize valW ⟨vn, vb, vh⟩ = Z at *
      clear hc hx GR HE
      go_wp2_with fail
      refine (C2 _ SR.out).mono ?_
      rintro en w2 ⟨rfl, t2, s2⟩
      have T2 : Hid (WT b B w w2) := TR.out.trans t2
      have S2 : Hid (DW b B w2 (thenW sti Z) (N + 11 + 12 * i + 12)) := s2
      clear t2 s2 C2 TR SR
      go_wp2_with fail
      go_roundw
      case rel => exact ⟨i + 1, _, by go_num, by omega, T2, S2.out.mono (by omega), HE2⟩
      case measure => simp [intOf]; omega
    · have d3 : decide ((i : Int) < (xs.length : Int)) = false := by simp; omega
      have d4 : decide (i < xs.length) = false := by simpa using hlt
      have E : Hid (sti = R) := by show _ = _; rw [← HE.out, many_last (by omega)]
      clear HE
      go_wp2_with fail
      go_end0
      exact ⟨rfl, TR.out, by rw [← E.out]; exact SR.out.mono (by have : i ≤ xs.length := hi; omega)⟩
def okC (c : CT) : Prop := (∀ x ∈ c.params, okV x) ∧ (∀ x ∈ c.results, okV x) ∧ (∀ x ∈ c.fields, okV x.ty)
def szC (c : CT) : Nat := 40 + 12 * c.params.length + 12 * c.results.length + 13 * c.fields.length
set_option maxRecDepth 100000 in
set_option maxHeartbeats 2000000 in
theorem dc1_yes {b B : Nat} {w w0 : World} {st : Except Nat (List Int)} {N : Nat} (h : DW b B w st N) (g0 : Grew w0 w) (hb0 : w0.heap.size ≤ b) (pa ra fa : Option Addr) (pc rc fc : Nat) (ps rs : List VT) (fs : List FT) (hp : LV w0 (.slice pa ps.length pc) ps) (hr : LV w0 (.slice ra rs.length rc) rs) (hf : LF w0 (.slice fa fs.length fc) fs)
    (hk : okC ⟨1, ps, rs, fs⟩) (hzfs : fs = []) (hN : N + szC ⟨1, ps, rs, fs⟩ ≤ 17592186043000) :
    Calls Tryd.prog 79 #[.pointer (some ⟨b, 0, none⟩), .agg #[.int .i64 1, .slice pa ps.length pc, .slice ra rs.length rc, .slice fa fs.length fc]] w (DA b B w (thenW st (compW ⟨1, ps, rs, fs⟩)) (N + szC ⟨1, ps, rs, fs⟩)) := by
  have HP : Hid (LV w0 (.slice pa ps.length pc) ps) := hp
  have HRS : Hid (LV w0 (.slice ra rs.length rc) rs) := hr
  have HK : Hid (okC ⟨1, ps, rs, fs⟩) := hk
  have E : Hid (thenW (thenW (thenW (thenW st (needW true 4)) (.ok [96])) (listW 1000 valW ps)) (listW 1000 valW rs) = thenW st (compW ⟨1, ps, rs, fs⟩)) := by
    show _ = _
    rw [thenW_yes, compW, if_pos (by simp [wholeC, hzfs]), if_pos rfl, thenW_assoc, thenW_assoc]
  have dzfs : ((fs.length : Int) == 0) = true := by rw [hzfs]; rfl
  clear hzfs
  clear hp hr hf hk
  unfold szC at hN ⊢
  simp only at hN ⊢
  have S0 : Hid (DW b B (w.alloc (.cells #[.int .i64 1, .slice pa ps.length pc, .slice ra rs.length rc, .slice fa fs.length fc] 99)) st N) := h.grew ((Grew.refl w).alloc _)
  have T0 : Hid (WT b B w (w.alloc (.cells #[.int .i64 1, .slice pa ps.length pc, .slice ra rs.length rc, .slice fa fs.length fc] 99))) := WT.of_grew ((Grew.refl w).alloc _)
  have hbx : (w.alloc (.cells #[.int .i64 1, .slice pa ps.length pc, .slice ra rs.length rc, .slice fa fs.length fc] 99)).heap[w.heap.size]? = some (.cells #[.int .i64 1, .slice pa ps.length pc, .slice ra rs.length rc, .slice fa fs.length fc] 99 (0, 0)) := heap_alloc_last w _
  have hb : b < w.heap.size := h.blt
  have hblt : b < B := h.lt
  have hnP : w.heap.size ≠ b := by omega
  have G0 : Hid (Grew w0 w) := g0
  clear h g0
  go_enter Tryd.func79, Tryd.ntmps79
  go_wp2_with fail
  refine (must_any S0.out true 4 (by decide)).mono ?_
  rintro en w1 ⟨rfl, t1, s1⟩
  have T1 : Hid (WT b B w w1) := T0.out.trans t1
  have S1 : Hid (DW b B w1 (thenW st (needW true 4)) N) := s1
  have bxP1 : w1.heap[w.heap.size]? = some (.cells #[.int .i64 1, .slice pa ps.length pc, .slice ra rs.length rc, .slice fa fs.length fc] 99 (0, 0)) := t1.other hbx hnP (NoT.of hbx (by decide))
  have fP0 := cell_of bxP1 0
  have fP1 := cell_of bxP1 1
  have fP2 := cell_of bxP1 2
  have fP3 := cell_of bxP1 3
  simp at fP0 fP1 fP2 fP3
  clear t1 s1 T0 S0 hbx
  obtain ⟨o1, e1, l1, h11, h21, h31, h41⟩ := S1.out.ex
  obtain ⟨oa1, oc1, rfl⟩ := row_one h21
  have c01 := cell_of h11 0
  simp at c01
  have R1 : Hid (w1.ownsRow B 5 1 (.slice oa1 l1.length oc1) l1.length (U8 l1)) := h21
  have O1 : Hid (w1.heap[b]? = some (dob (.slice oa1 l1.length oc1) e1)) := h11
  have E1 : Hid (StE (thenW st (needW true 4)) l1 e1) := h41
  have hlb1 : b < B := S1.out.lt
  have hBl1 : B ≤ w1.heap.size := S1.out.le
  clear h11 h21 h41
  go_wp2_with (
    at_builtin
    refine wp_appG (w := (w1.alloc (.cells #[.int .u8 96] 5))) (v := .slice oa1 l1.length oc1) (u := .slice (some ⟨w1.heap.size, 0, none⟩) 1 1) (r := [96]) rfl _ _ rfl rfl rfl (World.ownsRow.alloc R1.out _) (by simp; omega) (reads_new _ _ _) (by simp; omega) ?_
    intro v2 x2 ho2 hg2
    obtain ⟨a2, cc2, hv2⟩ := row_one ho2
    rw [List.length_append] at hv2
    subst hv2
    have A2 := dw_app (b := b) (B := B) (w := (w1.alloc (.cells #[.int .u8 96] 5))) (st := thenW st (needW true 4)) (N := N) (r := [96]) (heap_alloc O1.out _) (World.ownsRow.alloc R1.out _) h31 E1.out hlb1 (by simp; omega) ho2 hg2
    have q2 := cell_of A2.1 0
    have z2 := free_of A2.1 0
    simp at q2
    have HA2 : Hid (WT b B (w1.alloc (.cells #[.int .u8 96] 5)) (x2.setCell ⟨b, 0, none⟩ (.slice a2 (l1.length + [(96 : Int)].length) cc2)) ∧ DW b B (x2.setCell ⟨b, 0, none⟩ (.slice a2 (l1.length + [(96 : Int)].length) cc2)) (thenW (thenW st (needW true 4)) (.ok [96])) (N + [(96 : Int)].length)) := A2.2
    have tt2 := A2.2.1
    have bxP2 : x2.heap[w.heap.size]? = some (.cells #[.int .i64 1, .slice pa ps.length pc, .slice ra rs.length rc, .slice fa fs.length fc] 99 (0, 0)) := (wt_grown (b := b) (World.ownsRow.alloc R1.out _) hg2).other (heap_alloc bxP1 _) hnP (NoT.of (heap_alloc bxP1 _) (by decide))
    have gP02 := cell_of bxP2 0
    have gP12 := cell_of bxP2 1
    have gP22 := cell_of bxP2 2
    have gP32 := cell_of bxP2 3
    simp at gP02 gP12 gP22 gP32
    clear A2 hg2 ho2 tt2 bxP1)
  have T2 : Hid (WT b B w (x2.setCell ⟨b, 0, none⟩ (.slice a2 (l1.length + 1) cc2))) := (T1.out.trans (WT.of_grew ((Grew.refl _).alloc _))).trans HA2.out.1
  have S2 : Hid (DW b B (x2.setCell ⟨b, 0, none⟩ (.slice a2 (l1.length + 1) cc2)) (thenW (thenW st (needW true 4)) (.ok [96])) (N + 1)) := HA2.out.2
  clear HA2 T1 S1 c01 R1 O1 E1 hlb1 hBl1 h31
  have bxs := heap_other bxP2 (p := ⟨b, 0, none⟩) hnP (.slice a2 (l1.length + 1) cc2)
  refine (dwVals_any (w0 := w0) S2.out (T2.out.grew0 G0.out hb0 (by omega)) hb0 (.slice pa ps.length pc) ps HP.out HK.out.1 (by omega)).mono ?_
  rintro en w3 ⟨rfl, t3, s3⟩
  have T3 : Hid (WT b B w w3) := T2.out.trans t3
  have S3 : Hid (DW b B w3 (thenW (thenW (thenW st (needW true 4)) (.ok [96])) (listW 1000 valW ps)) (N + 1 + 11 + 12 * ps.length)) := s3
  have bx3 : w3.heap[w.heap.size]? = some (.cells #[.int .i64 1, .slice pa ps.length pc, .slice ra rs.length rc, .slice fa fs.length fc] 99 (0, 0)) := t3.other bxs hnP (NoT.of bxs (by decide))
  have h30 := cell_of bx3 0
  have h31 := cell_of bx3 1
  have h32 := cell_of bx3 2
  have h33 := cell_of bx3 3
  simp at h30 h31 h32 h33
  clear t3 s3 T2 S2 bxs bxP2 q2 z2 gP02 gP12 gP22 gP32
  go_wp2_with fail
  refine (dwVals_any (w0 := w0) S3.out (T3.out.grew0 G0.out hb0 (by omega)) hb0 (.slice ra rs.length rc) rs HRS.out HK.out.2.1 (by omega)).mono ?_
  rintro en w4 ⟨rfl, t4, s4⟩
  have T4 : Hid (WT b B w w4) := T3.out.trans t4
  go_wp2_with fail
  go_end0
  exact ⟨rfl, T4.out, by rw [← E.out]; exact s4.mono (by omega)⟩
set_option maxRecDepth 100000 in
set_option maxHeartbeats 2000000 in
theorem dc1_no {b B : Nat} {w w0 : World} {st : Except Nat (List Int)} {N : Nat} (h : DW b B w st N) (g0 : Grew w0 w) (hb0 : w0.heap.size ≤ b) (pa ra fa : Option Addr) (pc rc fc : Nat) (ps rs : List VT) (fs : List FT) (hp : LV w0 (.slice pa ps.length pc) ps) (hr : LV w0 (.slice ra rs.length rc) rs) (hf : LF w0 (.slice fa fs.length fc) fs)
    (hk : okC ⟨1, ps, rs, fs⟩) (hzfs : fs ≠ []) (hN : N + szC ⟨1, ps, rs, fs⟩ ≤ 17592186043000) :
    Calls Tryd.prog 79 #[.pointer (some ⟨b, 0, none⟩), .agg #[.int .i64 1, .slice pa ps.length pc, .slice ra rs.length rc, .slice fa fs.length fc]] w (DA b B w (thenW st (compW ⟨1, ps, rs, fs⟩)) (N + szC ⟨1, ps, rs, fs⟩)) := by
  have HP : Hid (LV w0 (.slice pa ps.length pc) ps) := hp
  have HRS : Hid (LV w0 (.slice ra rs.length rc) rs) := hr
  have HK : Hid (okC ⟨1, ps, rs, fs⟩) := hk
  have E : Hid (thenW (thenW (thenW (thenW st (needW false 4)) (.ok [96])) (listW 1000 valW ps)) (listW 1000 valW rs) = thenW st (compW ⟨1, ps, rs, fs⟩)) := by
    show _ = _
    rw [thenW_no, thenW_err, thenW_err, compW, if_neg (by simp [wholeC, hzfs])]
  have hlfs : fs.length ≠ 0 := fun hh => hzfs (List.eq_nil_of_length_eq_zero hh)
  have dzfs : ((fs.length : Int) == 0) = false := by simp; exact hzfs
  clear hzfs hlfs
  clear hp hr hf hk
  unfold szC at hN ⊢
  simp only at hN ⊢
  have S0 : Hid (DW b B (w.alloc (.cells #[.int .i64 1, .slice pa ps.length pc, .slice ra rs.length rc, .slice fa fs.length fc] 99)) st N) := h.grew ((Grew.refl w).alloc _)
  have T0 : Hid (WT b B w (w.alloc (.cells #[.int .i64 1, .slice pa ps.length pc, .slice ra rs.length rc, .slice fa fs.length fc] 99))) := WT.of_grew ((Grew.refl w).alloc _)
  have hbx : (w.alloc (.cells #[.int .i64 1, .slice pa ps.length pc, .slice ra rs.length rc, .slice fa fs.length fc] 99)).heap[w.heap.size]? = some (.cells #[.int .i64 1, .slice pa ps.length pc, .slice ra rs.length rc, .slice fa fs.length fc] 99 (0, 0)) := heap_alloc_last w _
  have hb : b < w.heap.size := h.blt
  have hblt : b < B := h.lt
  have hnP : w.heap.size ≠ b := by omega
  have G0 : Hid (Grew w0 w) := g0
  clear h g0
  go_enter Tryd.func79, Tryd.ntmps79
  go_wp2_with fail
  refine (must_any S0.out false 4 (by decide)).mono ?_
  rintro en w1 ⟨rfl, t1, s1⟩
  have T1 : Hid (WT b B w w1) := T0.out.trans t1
  have S1 : Hid (DW b B w1 (thenW st (needW false 4)) N) := s1
  have bxP1 : w1.heap[w.heap.size]? = some (.cells #[.int .i64 1, .slice pa ps.length pc, .slice ra rs.length rc, .slice fa fs.length fc] 99 (0, 0)) := t1.other hbx hnP (NoT.of hbx (by decide))
  have fP0 := cell_of bxP1 0
  have fP1 := cell_of bxP1 1
  have fP2 := cell_of bxP1 2
  have fP3 := cell_of bxP1 3
  simp at fP0 fP1 fP2 fP3
  clear t1 s1 T0 S0 hbx
  obtain ⟨o1, e1, l1, h11, h21, h31, h41⟩ := S1.out.ex
  obtain ⟨oa1, oc1, rfl⟩ := row_one h21
  have c01 := cell_of h11 0
  simp at c01
  have R1 : Hid (w1.ownsRow B 5 1 (.slice oa1 l1.length oc1) l1.length (U8 l1)) := h21
  have O1 : Hid (w1.heap[b]? = some (dob (.slice oa1 l1.length oc1) e1)) := h11
  have E1 : Hid (StE (thenW st (needW false 4)) l1 e1) := h41
  have hlb1 : b < B := S1.out.lt
  have hBl1 : B ≤ w1.heap.size := S1.out.le
  clear h11 h21 h41
  go_wp2_with (
    at_builtin
    refine wp_appG (w := (w1.alloc (.cells #[.int .u8 96] 5))) (v := .slice oa1 l1.length oc1) (u := .slice (some ⟨w1.heap.size, 0, none⟩) 1 1) (r := [96]) rfl _ _ rfl rfl rfl (World.ownsRow.alloc R1.out _) (by simp; omega) (reads_new _ _ _) (by simp; omega) ?_
    intro v2 x2 ho2 hg2
    obtain ⟨a2, cc2, hv2⟩ := row_one ho2
    rw [List.length_append] at hv2
    subst hv2
    have A2 := dw_app (b := b) (B := B) (w := (w1.alloc (.cells #[.int .u8 96] 5))) (st := thenW st (needW false 4)) (N := N) (r := [96]) (heap_alloc O1.out _) (World.ownsRow.alloc R1.out _) h31 E1.out hlb1 (by simp; omega) ho2 hg2
    have q2 := cell_of A2.1 0
    have z2 := free_of A2.1 0
    simp at q2
    have HA2 : Hid (WT b B (w1.alloc (.cells #[.int .u8 96] 5)) (x2.setCell ⟨b, 0, none⟩ (.slice a2 (l1.length + [(96 : Int)].length) cc2)) ∧ DW b B (x2.setCell ⟨b, 0, none⟩ (.slice a2 (l1.length + [(96 : Int)].length) cc2)) (thenW (thenW st (needW false 4)) (.ok [96])) (N + [(96 : Int)].length)) := A2.2
    have tt2 := A2.2.1
    have bxP2 : x2.heap[w.heap.size]? = some (.cells #[.int .i64 1, .slice pa ps.length pc, .slice ra rs.length rc, .slice fa fs.length fc] 99 (0, 0)) := (wt_grown (b := b) (World.ownsRow.alloc R1.out _) hg2).other (heap_alloc bxP1 _) hnP (NoT.of (heap_alloc bxP1 _) (by decide))
    have gP02 := cell_of bxP2 0
    have gP12 := cell_of bxP2 1
    have gP22 := cell_of bxP2 2
    have gP32 := cell_of bxP2 3
    simp at gP02 gP12 gP22 gP32
    clear A2 hg2 ho2 tt2 bxP1)
  have T2 : Hid (WT b B w (x2.setCell ⟨b, 0, none⟩ (.slice a2 (l1.length + 1) cc2))) := (T1.out.trans (WT.of_grew ((Grew.refl _).alloc _))).trans HA2.out.1
  have S2 : Hid (DW b B (x2.setCell ⟨b, 0, none⟩ (.slice a2 (l1.length + 1) cc2)) (thenW (thenW st (needW false 4)) (.ok [96])) (N + 1)) := HA2.out.2
  clear HA2 T1 S1 c01 R1 O1 E1 hlb1 hBl1 h31
  have bxs := heap_other bxP2 (p := ⟨b, 0, none⟩) hnP (.slice a2 (l1.length + 1) cc2)
  refine (dwVals_any (w0 := w0) S2.out (T2.out.grew0 G0.out hb0 (by omega)) hb0 (.slice pa ps.length pc) ps HP.out HK.out.1 (by omega)).mono ?_
  rintro en w3 ⟨rfl, t3, s3⟩
  have T3 : Hid (WT b B w w3) := T2.out.trans t3
  have S3 : Hid (DW b B w3 (thenW (thenW (thenW st (needW false 4)) (.ok [96])) (listW 1000 valW ps)) (N + 1 + 11 + 12 * ps.length)) := s3
  have bx3 : w3.heap[w.heap.size]? = some (.cells #[.int .i64 1, .slice pa ps.length pc, .slice ra rs.length rc, .slice fa fs.length fc] 99 (0, 0)) := t3.other bxs hnP (NoT.of bxs (by decide))
  have h30 := cell_of bx3 0
  have h31 := cell_of bx3 1
  have h32 := cell_of bx3 2
  have h33 := cell_of bx3 3
  simp at h30 h31 h32 h33
  clear t3 s3 T2 S2 bxs bxP2 q2 z2 gP02 gP12 gP22 gP32
  go_wp2_with fail
  refine (dwVals_any (w0 := w0) S3.out (T3.out.grew0 G0.out hb0 (by omega)) hb0 (.slice ra rs.length rc) rs HRS.out HK.out.2.1 (by omega)).mono ?_
  rintro en w4 ⟨rfl, t4, s4⟩
  have T4 : Hid (WT b B w w4) := T3.out.trans t4
  go_wp2_with fail
  go_end0
  exact ⟨rfl, T4.out, by rw [← E.out]; exact s4.mono (by omega)⟩
set_option maxRecDepth 100000 in
set_option maxHeartbeats 2000000 in
theorem dc2_yes_e {b B : Nat} {w w0 : World} {st : Except Nat (List Int)} {N : Nat} (h : DW b B w st N) (g0 : Grew w0 w) (hb0 : w0.heap.size ≤ b) (pa ra fa : Option Addr) (pc rc fc : Nat) (ps rs : List VT) (fs : List FT) (hp : LV w0 (.slice pa ps.length pc) ps) (hr : LV w0 (.slice ra rs.length rc) rs) (hf : LF w0 (.slice fa fs.length fc) fs)
    (hk : okC ⟨2, ps, rs, fs⟩) (hz0 : fs.length = 0) (hzps : ps = []) (hzrs : rs = []) (hN : N + szC ⟨2, ps, rs, fs⟩ ≤ 17592186043000) :
    Calls Tryd.prog 79 #[.pointer (some ⟨b, 0, none⟩), .agg #[.int .i64 2, .slice pa ps.length pc, .slice ra rs.length rc, .slice fa fs.length fc]] w (DA b B w (thenW st (compW ⟨2, ps, rs, fs⟩)) (N + szC ⟨2, ps, rs, fs⟩)) := by
  have HV : Hid (LF w0 (.slice fa fs.length fc) fs) := hf
  have HK : Hid (∀ x ∈ fs, okV x.ty) := hk.2.2
  obtain ⟨_, _, _, hflc, hfm⟩ := hf.one
  have hfx : fs.length ≤ 9223372036854775807 := by unfold maxLen at hfm; omega
  have HZ : Hid (fs.length = 0) := hz0
  clear hz0
  have L : thenW (thenW (thenW (thenW (thenW st (needW true 4)) (.ok [95])) (needW (decide (fs.length ≤ 10000)) 2)) (.ok (PU fs.length))) (manyW fieldW (fs.drop 0)) = thenW st (compW ⟨2, ps, rs, fs⟩) := by
    rw [thenW_yes, List.drop_zero, list_eq, compW, if_pos (by simp [wholeC, hzps, hzrs]), if_neg (by simp), if_pos rfl, thenW_assoc]
  obtain ⟨R, hR⟩ : ∃ R, R = thenW st (compW ⟨2, ps, rs, fs⟩) := ⟨_, rfl⟩
  rw [← hR] at L ⊢
  have HR : Hid (thenW (thenW (thenW (thenW (thenW st (needW true 4)) (.ok [95])) (needW (decide (fs.length ≤ 10000)) 2)) (.ok (PU fs.length))) (manyW fieldW (fs.drop 0)) = R) := L
  clear hR L
  have dzps : ((ps.length : Int) == 0) = true := by rw [hzps]; rfl
  clear hzps
  have dzrs : ((rs.length : Int) == 0) = true := by rw [hzrs]; rfl
  clear hzrs
  clear hp hr hf hk hflc hfm
  unfold szC at hN ⊢
  simp only at hN ⊢
  have S0 : Hid (DW b B (w.alloc (.cells #[.int .i64 2, .slice pa ps.length pc, .slice ra rs.length rc, .slice fa fs.length fc] 99)) st N) := h.grew ((Grew.refl w).alloc _)
  have T0 : Hid (WT b B w (w.alloc (.cells #[.int .i64 2, .slice pa ps.length pc, .slice ra rs.length rc, .slice fa fs.length fc] 99))) := WT.of_grew ((Grew.refl w).alloc _)
  have hbx : (w.alloc (.cells #[.int .i64 2, .slice pa ps.length pc, .slice ra rs.length rc, .slice fa fs.length fc] 99)).heap[w.heap.size]? = some (.cells #[.int .i64 2, .slice pa ps.length pc, .slice ra rs.length rc, .slice fa fs.length fc] 99 (0, 0)) := heap_alloc_last w _
  have hb : b < w.heap.size := h.blt
  have hblt : b < B := h.lt
  have hnP : w.heap.size ≠ b := by omega
  have G0 : Hid (Grew w0 w) := g0
  clear h g0
  go_enter Tryd.func79, Tryd.ntmps79
  go_wp2_with fail
  refine (must_any S0.out true 4 (by decide)).mono ?_
  rintro en w1 ⟨rfl, t1, s1⟩
  have T1 : Hid (WT b B w w1) := T0.out.trans t1
  have S1 : Hid (DW b B w1 (thenW st (needW true 4)) N) := s1
  have bxP1 : w1.heap[w.heap.size]? = some (.cells #[.int .i64 2, .slice pa ps.length pc, .slice ra rs.length rc, .slice fa fs.length fc] 99 (0, 0)) := t1.other hbx hnP (NoT.of hbx (by decide))
  have fP0 := cell_of bxP1 0
  have fP1 := cell_of bxP1 1
  have fP2 := cell_of bxP1 2
  have fP3 := cell_of bxP1 3
  simp at fP0 fP1 fP2 fP3
  clear t1 s1 T0 S0 hbx
  obtain ⟨o1, e1, l1, h11, h21, h31, h41⟩ := S1.out.ex
  obtain ⟨oa1, oc1, rfl⟩ := row_one h21
  have c01 := cell_of h11 0
  simp at c01
  have R1 : Hid (w1.ownsRow B 5 1 (.slice oa1 l1.length oc1) l1.length (U8 l1)) := h21
  have O1 : Hid (w1.heap[b]? = some (dob (.slice oa1 l1.length oc1) e1)) := h11
  have E1 : Hid (StE (thenW st (needW true 4)) l1 e1) := h41
  have hlb1 : b < B := S1.out.lt
  have hBl1 : B ≤ w1.heap.size := S1.out.le
  clear h11 h21 h41
  go_wp2_with (
    at_builtin
    refine wp_appG (w := (w1.alloc (.cells #[.int .u8 95] 5))) (v := .slice oa1 l1.length oc1) (u := .slice (some ⟨w1.heap.size, 0, none⟩) 1 1) (r := [95]) rfl _ _ rfl rfl rfl (World.ownsRow.alloc R1.out _) (by simp; omega) (reads_new _ _ _) (by simp; omega) ?_
    intro v2 x2 ho2 hg2
    obtain ⟨a2, cc2, hv2⟩ := row_one ho2
    rw [List.length_append] at hv2
    subst hv2
    have A2 := dw_app (b := b) (B := B) (w := (w1.alloc (.cells #[.int .u8 95] 5))) (st := thenW st (needW true 4)) (N := N) (r := [95]) (heap_alloc O1.out _) (World.ownsRow.alloc R1.out _) h31 E1.out hlb1 (by simp; omega) ho2 hg2
    have q2 := cell_of A2.1 0
    have z2 := free_of A2.1 0
    simp at q2
    have HA2 : Hid (WT b B (w1.alloc (.cells #[.int .u8 95] 5)) (x2.setCell ⟨b, 0, none⟩ (.slice a2 (l1.length + [(95 : Int)].length) cc2)) ∧ DW b B (x2.setCell ⟨b, 0, none⟩ (.slice a2 (l1.length + [(95 : Int)].length) cc2)) (thenW (thenW st (needW true 4)) (.ok [95])) (N + [(95 : Int)].length)) := A2.2
    have tt2 := A2.2.1
    have bxP2 : x2.heap[w.heap.size]? = some (.cells #[.int .i64 2, .slice pa ps.length pc, .slice ra rs.length rc, .slice fa fs.length fc] 99 (0, 0)) := (wt_grown (b := b) (World.ownsRow.alloc R1.out _) hg2).other (heap_alloc bxP1 _) hnP (NoT.of (heap_alloc bxP1 _) (by decide))
    have gP02 := cell_of bxP2 0
    have gP12 := cell_of bxP2 1
    have gP22 := cell_of bxP2 2
    have gP32 := cell_of bxP2 3
    simp at gP02 gP12 gP22 gP32
    clear A2 hg2 ho2 tt2 bxP1)
  have T2 : Hid (WT b B w (x2.setCell ⟨b, 0, none⟩ (.slice a2 (l1.length + 1) cc2))) := (T1.out.trans (WT.of_grew ((Grew.refl _).alloc _))).trans HA2.out.1
  have S2 : Hid (DW b B (x2.setCell ⟨b, 0, none⟩ (.slice a2 (l1.length + 1) cc2)) (thenW (thenW st (needW true 4)) (.ok [95])) (N + 1)) := HA2.out.2
  clear HA2 T1 S1 c01 R1 O1 E1 hlb1 hBl1 h31
  have bxs := heap_other bxP2 (p := ⟨b, 0, none⟩) hnP (.slice a2 (l1.length + 1) cc2)
  refine (dwMany_any S2.out fs.length 10000 hfx (by omega)).mono ?_
  rintro en w3 ⟨rfl, t3, s3⟩
  have T3 : Hid (WT b B w w3) := T2.out.trans t3
  have S3 : Hid (DW b B w3 (thenW (thenW (thenW (thenW st (needW true 4)) (.ok [95])) (needW (decide (fs.length ≤ 10000)) 2)) (.ok (PU fs.length))) (N + 1 + 11)) := s3
  have BX3 : Hid (w3.heap[w.heap.size]? = some (.cells #[.int .i64 2, .slice pa ps.length pc, .slice ra rs.length rc, .slice fa fs.length fc] 99 (0, 0))) := t3.other bxs hnP (NoT.of bxs (by decide))
  clear t3 s3 T2 S2 bxs bxP2 q2 z2 gP02 gP12 gP22 gP32
  go_wp2_with fail
  have S3 : Hid (DW b B w3 _ (N + 12 + 13 * 0)) := S3
  go_loopw [4] (fun i_ wr => ∃ (i : Nat) (sti : Except Nat (List Int)), i_ = .int .i64 i ∧ i ≤ fs.length ∧ Hid (WT b B w wr) ∧ Hid (DW b B wr sti (N + 12 + 13 * i)) ∧ Hid (thenW sti (manyW fieldW (fs.drop i)) = R) ∧ Hid (wr.heap[w.heap.size]? = some (.cells #[.int .i64 2, .slice pa ps.length pc, .slice ra rs.length rc, .slice fa fs.length fc] 99 (0, 0)))) (fun i_ _ => fs.length - (intOf i_).toNat)
  case atStart => exact ⟨0, _, rfl, by omega, T3, S3, HR, BX3⟩
  case round =>
    obtain ⟨i, sti, rfl, hi, TR, SR, HE, BX⟩ := hrel
    have p0b := cell_of BX.out 0
    have p1b := cell_of BX.out 1
    have p2b := cell_of BX.out 2
    have p3b := cell_of BX.out 3
    simp at p0b p1b p2b p3b
    by_cases hlt : i < fs.length
    · exact absurd hlt (by have := HZ.out; omega)
    · have d3 : decide ((i : Int) < (fs.length : Int)) = false := by simp; omega
      have d4 : decide (i < fs.length) = false := by simpa using hlt
      have E : Hid (sti = R) := by show _ = _; rw [← HE.out, many_last (by omega)]
      clear HE
      go_wp2_with fail
      go_end0
      exact ⟨rfl, TR.out, by rw [← E.out]; exact SR.out.mono (by have : i ≤ fs.length := hi; omega)⟩
set_option maxRecDepth 100000 in
set_option maxHeartbeats 2000000 in
theorem dc2_yes_f {b B : Nat} {w w0 : World} {st : Except Nat (List Int)} {N : Nat} (h : DW b B w st N) (g0 : Grew w0 w) (hb0 : w0.heap.size ≤ b) (pa ra : Option Addr) (bb off : Nat) (pc rc fc : Nat) (ps rs : List VT) (fs : List FT) (hp : LV w0 (.slice pa ps.length pc) ps) (hr : LV w0 (.slice ra rs.length rc) rs) (hf : LF w0 (.slice (some ⟨bb, off, none⟩) fs.length fc) fs)
    (hk : okC ⟨2, ps, rs, fs⟩) (hzps : ps = []) (hzrs : rs = []) (hN : N + szC ⟨2, ps, rs, fs⟩ ≤ 17592186043000) :
    Calls Tryd.prog 79 #[.pointer (some ⟨b, 0, none⟩), .agg #[.int .i64 2, .slice pa ps.length pc, .slice ra rs.length rc, .slice (some ⟨bb, off, none⟩) fs.length fc]] w (DA b B w (thenW st (compW ⟨2, ps, rs, fs⟩)) (N + szC ⟨2, ps, rs, fs⟩)) := by
  have HV : Hid (LF w0 (.slice (some ⟨bb, off, none⟩) fs.length fc) fs) := hf
  have HK : Hid (∀ x ∈ fs, okV x.ty) := hk.2.2
  obtain ⟨_, _, _, hflc, hfm⟩ := hf.one
  have hfx : fs.length ≤ 9223372036854775807 := by unfold maxLen at hfm; omega
  have L : thenW (thenW (thenW (thenW (thenW st (needW true 4)) (.ok [95])) (needW (decide (fs.length ≤ 10000)) 2)) (.ok (PU fs.length))) (manyW fieldW (fs.drop 0)) = thenW st (compW ⟨2, ps, rs, fs⟩) := by
    rw [thenW_yes, List.drop_zero, list_eq, compW, if_pos (by simp [wholeC, hzps, hzrs]), if_neg (by simp), if_pos rfl, thenW_assoc]
  obtain ⟨R, hR⟩ : ∃ R, R = thenW st (compW ⟨2, ps, rs, fs⟩) := ⟨_, rfl⟩
  rw [← hR] at L ⊢
  have HR : Hid (thenW (thenW (thenW (thenW (thenW st (needW true 4)) (.ok [95])) (needW (decide (fs.length ≤ 10000)) 2)) (.ok (PU fs.length))) (manyW fieldW (fs.drop 0)) = R) := L
  clear hR L
  have dzps : ((ps.length : Int) == 0) = true := by rw [hzps]; rfl
  clear hzps
  have dzrs : ((rs.length : Int) == 0) = true := by rw [hzrs]; rfl
  clear hzrs
  clear hp hr hf hk hflc hfm
  unfold szC at hN ⊢
  simp only at hN ⊢
  have S0 : Hid (DW b B (w.alloc (.cells #[.int .i64 2, .slice pa ps.length pc, .slice ra rs.length rc, .slice (some ⟨bb, off, none⟩) fs.length fc] 99)) st N) := h.grew ((Grew.refl w).alloc _)
  have T0 : Hid (WT b B w (w.alloc (.cells #[.int .i64 2, .slice pa ps.length pc, .slice ra rs.length rc, .slice (some ⟨bb, off, none⟩) fs.length fc] 99))) := WT.of_grew ((Grew.refl w).alloc _)
  have hbx : (w.alloc (.cells #[.int .i64 2, .slice pa ps.length pc, .slice ra rs.length rc, .slice (some ⟨bb, off, none⟩) fs.length fc] 99)).heap[w.heap.size]? = some (.cells #[.int .i64 2, .slice pa ps.length pc, .slice ra rs.length rc, .slice (some ⟨bb, off, none⟩) fs.length fc] 99 (0, 0)) := heap_alloc_last w _
  have hb : b < w.heap.size := h.blt
  have hblt : b < B := h.lt
  have hnP : w.heap.size ≠ b := by omega
  have G0 : Hid (Grew w0 w) := g0
  clear h g0
  go_enter Tryd.func79, Tryd.ntmps79
  go_wp2_with fail
  refine (must_any S0.out true 4 (by decide)).mono ?_
  rintro en w1 ⟨rfl, t1, s1⟩
  have T1 : Hid (WT b B w w1) := T0.out.trans t1
  have S1 : Hid (DW b B w1 (thenW st (needW true 4)) N) := s1
  have bxP1 : w1.heap[w.heap.size]? = some (.cells #[.int .i64 2, .slice pa ps.length pc, .slice ra rs.length rc, .slice (some ⟨bb, off, none⟩) fs.length fc] 99 (0, 0)) := t1.other hbx hnP (NoT.of hbx (by decide))
  have fP0 := cell_of bxP1 0
  have fP1 := cell_of bxP1 1
  have fP2 := cell_of bxP1 2
  have fP3 := cell_of bxP1 3
  simp at fP0 fP1 fP2 fP3
  clear t1 s1 T0 S0 hbx
  obtain ⟨o1, e1, l1, h11, h21, h31, h41⟩ := S1.out.ex
  obtain ⟨oa1, oc1, rfl⟩ := row_one h21
  have c01 := cell_of h11 0
  simp at c01
  have R1 : Hid (w1.ownsRow B 5 1 (.slice oa1 l1.length oc1) l1.length (U8 l1)) := h21
  have O1 : Hid (w1.heap[b]? = some (dob (.slice oa1 l1.length oc1) e1)) := h11
  have E1 : Hid (StE (thenW st (needW true 4)) l1 e1) := h41
  have hlb1 : b < B := S1.out.lt
  have hBl1 : B ≤ w1.heap.size := S1.out.le
  clear h11 h21 h41
  go_wp2_with (
    at_builtin
    refine wp_appG (w := (w1.alloc (.cells #[.int .u8 95] 5))) (v := .slice oa1 l1.length oc1) (u := .slice (some ⟨w1.heap.size, 0, none⟩) 1 1) (r := [95]) rfl _ _ rfl rfl rfl (World.ownsRow.alloc R1.out _) (by simp; omega) (reads_new _ _ _) (by simp; omega) ?_
    intro v2 x2 ho2 hg2
    obtain ⟨a2, cc2, hv2⟩ := row_one ho2
    rw [List.length_append] at hv2
    subst hv2
    have A2 := dw_app (b := b) (B := B) (w := (w1.alloc (.cells #[.int .u8 95] 5))) (st := thenW st (needW true 4)) (N := N) (r := [95]) (heap_alloc O1.out _) (World.ownsRow.alloc R1.out _) h31 E1.out hlb1 (by simp; omega) ho2 hg2
    have q2 := cell_of A2.1 0
    have z2 := free_of A2.1 0
    simp at q2
    have HA2 : Hid (WT b B (w1.alloc (.cells #[.int .u8 95] 5)) (x2.setCell ⟨b, 0, none⟩ (.slice a2 (l1.length + [(95 : Int)].length) cc2)) ∧ DW b B (x2.setCell ⟨b, 0, none⟩ (.slice a2 (l1.length + [(95 : Int)].length) cc2)) (thenW (thenW st (needW true 4)) (.ok [95])) (N + [(95 : Int)].length)) := A2.2
    have tt2 := A2.2.1
    have bxP2 : x2.heap[w.heap.size]? = some (.cells #[.int .i64 2, .slice pa ps.length pc, .slice ra rs.length rc, .slice (some ⟨bb, off, none⟩) fs.length fc] 99 (0, 0)) := (wt_grown (b := b) (World.ownsRow.alloc R1.out _) hg2).other (heap_alloc bxP1 _) hnP (NoT.of (heap_alloc bxP1 _) (by decide))
    have gP02 := cell_of bxP2 0
    have gP12 := cell_of bxP2 1
    have gP22 := cell_of bxP2 2
    have gP32 := cell_of bxP2 3
    simp at gP02 gP12 gP22 gP32
    clear A2 hg2 ho2 tt2 bxP1)
  have T2 : Hid (WT b B w (x2.setCell ⟨b, 0, none⟩ (.slice a2 (l1.length + 1) cc2))) := (T1.out.trans (WT.of_grew ((Grew.refl _).alloc _))).trans HA2.out.1
  have S2 : Hid (DW b B (x2.setCell ⟨b, 0, none⟩ (.slice a2 (l1.length + 1) cc2)) (thenW (thenW st (needW true 4)) (.ok [95])) (N + 1)) := HA2.out.2
  clear HA2 T1 S1 c01 R1 O1 E1 hlb1 hBl1 h31
  have bxs := heap_other bxP2 (p := ⟨b, 0, none⟩) hnP (.slice a2 (l1.length + 1) cc2)
  refine (dwMany_any S2.out fs.length 10000 hfx (by omega)).mono ?_
  rintro en w3 ⟨rfl, t3, s3⟩
  have T3 : Hid (WT b B w w3) := T2.out.trans t3
  have S3 : Hid (DW b B w3 (thenW (thenW (thenW (thenW st (needW true 4)) (.ok [95])) (needW (decide (fs.length ≤ 10000)) 2)) (.ok (PU fs.length))) (N + 1 + 11)) := s3
  have BX3 : Hid (w3.heap[w.heap.size]? = some (.cells #[.int .i64 2, .slice pa ps.length pc, .slice ra rs.length rc, .slice (some ⟨bb, off, none⟩) fs.length fc] 99 (0, 0))) := t3.other bxs hnP (NoT.of bxs (by decide))
  clear t3 s3 T2 S2 bxs bxP2 q2 z2 gP02 gP12 gP22 gP32
  go_wp2_with fail
  have S3 : Hid (DW b B w3 _ (N + 12 + 13 * 0)) := S3
  go_loopw [4] (fun i_ wr => ∃ (i : Nat) (sti : Except Nat (List Int)), i_ = .int .i64 i ∧ i ≤ fs.length ∧ Hid (WT b B w wr) ∧ Hid (DW b B wr sti (N + 12 + 13 * i)) ∧ Hid (thenW sti (manyW fieldW (fs.drop i)) = R) ∧ Hid (wr.heap[w.heap.size]? = some (.cells #[.int .i64 2, .slice pa ps.length pc, .slice ra rs.length rc, .slice (some ⟨bb, off, none⟩) fs.length fc] 99 (0, 0)))) (fun i_ _ => fs.length - (intOf i_).toNat)
  case atStart => exact ⟨0, _, rfl, by omega, T3, S3, HR, BX3⟩
  case round =>
    obtain ⟨i, sti, rfl, hi, TR, SR, HE, BX⟩ := hrel
    have p0b := cell_of BX.out 0
    have p1b := cell_of BX.out 1
    have p2b := cell_of BX.out 2
    have p3b := cell_of BX.out 3
    simp at p0b p1b p2b p3b
    by_cases hlt : i < fs.length
    · obtain ⟨x, hx⟩ : ∃ x, fs[i]? = some x := ⟨_, List.getElem?_eq_getElem hlt⟩
      have hxok := HK.out x (List.mem_of_getElem? hx)
      have d3 : decide ((i : Int) < (fs.length : Int)) = true := by simp; omega
      have d4 : decide (i < fs.length) = true := by simpa using hlt
      have GR : Grew w0 wr := TR.out.grew0 G0.out hb0 (by omega)
      obtain ⟨bb', off', ea, _, hc⟩ := (HV.out.grew GR).get (by omega)
      have hce := hc i x hx
      have ea2 : bb' = bb ∧ off' = off := by simp at ea; exact ⟨ea.1.symm, ea.2.symm⟩
      rw [ea2.1, ea2.2] at hce
      clear ea ea2
      have HE2 : Hid (thenW (thenW sti (fieldW x)) (manyW fieldW (fs.drop (i + 1))) = R) := by show _ = _; rw [← HE.out, many_next hx]
      obtain ⟨⟨vn, vb, vh⟩, vm⟩ := x
      obtain ⟨⟨p0, p1, p2⟩, p3⟩ := hce
      simp only at p0 p1 p2 p3
      have C2 : ∀ (W : World), DW b B W sti (N + 12 + 13 * i) → Calls Tryd.prog 108 #[.pointer (some ⟨b, 0, none⟩), .agg #[.int .i64 vn, .bool vb, .int .i64 vh, .bool vm]] W (DA b B W (thenW sti (fieldW ⟨⟨vn, vb, vh⟩, vm⟩)) (N + 12 + 13 * i + 13)) := fun W u => dwField_any u ⟨⟨vn, vb, vh⟩, vm⟩ hxok (by omega)
      generalize fieldW ⟨⟨vn, vb, vh⟩, vm⟩ = Z at *
      clear hc hx GR HE
      go_wp2_with fail
      refine (C2 _ SR.out).mono ?_
      rintro en w2 ⟨rfl, t2, s2⟩
      have T2 : Hid (WT b B w w2) := TR.out.trans t2
      have S2 : Hid (DW b B w2 (thenW sti Z) (N + 12 + 13 * i + 13)) := s2
      have BX2 : Hid (w2.heap[w.heap.size]? = some (.cells #[.int .i64 2, .slice pa ps.length pc, .slice ra rs.length rc, .slice (some ⟨bb, off, none⟩) fs.length fc] 99 (0, 0))) := t2.other BX.out hnP (NoT.of BX.out (by decide))
      clear BX p0b p1b p2b p3b
      clear t2 s2 C2 TR SR
      go_wp2_with fail
      go_roundw
      case rel => exact ⟨i + 1, _, by go_num, by omega, T2, S2.out.mono (by omega), HE2, BX2⟩
      case measure => simp [intOf]; omega
    · have d3 : decide ((i : Int) < (fs.length : Int)) = false := by simp; omega
      have d4 : decide (i < fs.length) = false := by simpa using hlt
      have E : Hid (sti = R) := by show _ = _; rw [← HE.out, many_last (by omega)]
      clear HE
      go_wp2_with fail
      go_end0
      exact ⟨rfl, TR.out, by rw [← E.out]; exact SR.out.mono (by have : i ≤ fs.length := hi; omega)⟩
set_option maxRecDepth 100000 in
set_option maxHeartbeats 2000000 in
theorem dc2_noP_e {b B : Nat} {w w0 : World} {st : Except Nat (List Int)} {N : Nat} (h : DW b B w st N) (g0 : Grew w0 w) (hb0 : w0.heap.size ≤ b) (pa ra fa : Option Addr) (pc rc fc : Nat) (ps rs : List VT) (fs : List FT) (hp : LV w0 (.slice pa ps.length pc) ps) (hr : LV w0 (.slice ra rs.length rc) rs) (hf : LF w0 (.slice fa fs.length fc) fs)
    (hk : okC ⟨2, ps, rs, fs⟩) (hz0 : fs.length = 0) (hzps : ps ≠ []) (hN : N + szC ⟨2, ps, rs, fs⟩ ≤ 17592186043000) :
    Calls Tryd.prog 79 #[.pointer (some ⟨b, 0, none⟩), .agg #[.int .i64 2, .slice pa ps.length pc, .slice ra rs.length rc, .slice fa fs.length fc]] w (DA b B w (thenW st (compW ⟨2, ps, rs, fs⟩)) (N + szC ⟨2, ps, rs, fs⟩)) := by
  have HV : Hid (LF w0 (.slice fa fs.length fc) fs) := hf
  have HK : Hid (∀ x ∈ fs, okV x.ty) := hk.2.2
  obtain ⟨_, _, _, hflc, hfm⟩ := hf.one
  have hfx : fs.length ≤ 9223372036854775807 := by unfold maxLen at hfm; omega
  have HZ : Hid (fs.length = 0) := hz0
  clear hz0
  have L : thenW (thenW (thenW (thenW (thenW st (needW false 4)) (.ok [95])) (needW (decide (fs.length ≤ 10000)) 2)) (.ok (PU fs.length))) (manyW fieldW (fs.drop 0)) = thenW st (compW ⟨2, ps, rs, fs⟩) := by
    rw [thenW_no, List.drop_zero, list_eq, thenW_err, compW, if_neg (by simp [wholeC, hzps])]
  obtain ⟨R, hR⟩ : ∃ R, R = thenW st (compW ⟨2, ps, rs, fs⟩) := ⟨_, rfl⟩
  rw [← hR] at L ⊢
  have HR : Hid (thenW (thenW (thenW (thenW (thenW st (needW false 4)) (.ok [95])) (needW (decide (fs.length ≤ 10000)) 2)) (.ok (PU fs.length))) (manyW fieldW (fs.drop 0)) = R) := L
  clear hR L
  have hlps : ps.length ≠ 0 := fun hh => hzps (List.eq_nil_of_length_eq_zero hh)
  have dzps : ((ps.length : Int) == 0) = false := by simp; exact hzps
  clear hzps hlps
  clear hp hr hf hk hflc hfm
  unfold szC at hN ⊢
  simp only at hN ⊢
  have S0 : Hid (DW b B (w.alloc (.cells #[.int .i64 2, .slice pa ps.length pc, .slice ra rs.length rc, .slice fa fs.length fc] 99)) st N) := h.grew ((Grew.refl w).alloc _)
  have T0 : Hid (WT b B w (w.alloc (.cells #[.int .i64 2, .slice pa ps.length pc, .slice ra rs.length rc, .slice fa fs.length fc] 99))) := WT.of_grew ((Grew.refl w).alloc _)
  have hbx : (w.alloc (.cells #[.int .i64 2, .slice pa ps.length pc, .slice ra rs.length rc, .slice fa fs.length fc] 99)).heap[w.heap.size]? = some (.cells #[.int .i64 2, .slice pa ps.length pc, .slice ra rs.length rc, .slice fa fs.length fc] 99 (0, 0)) := heap_alloc_last w _
  have hb : b < w.heap.size := h.blt
  have hblt : b < B := h.lt
  have hnP : w.heap.size ≠ b := by omega
  have G0 : Hid (Grew w0 w) := g0
  clear h g0
  go_enter Tryd.func79, Tryd.ntmps79
  go_wp2_with fail
  refine (must_any S0.out false 4 (by decide)).mono ?_
  rintro en w1 ⟨rfl, t1, s1⟩
  have T1 : Hid (WT b B w w1) := T0.out.trans t1
  have S1 : Hid (DW b B w1 (thenW st (needW false 4)) N) := s1
  have bxP1 : w1.heap[w.heap.size]? = some (.cells #[.int .i64 2, .slice pa ps.length pc, .slice ra rs.length rc, .slice fa fs.length fc] 99 (0, 0)) := t1.other hbx hnP (NoT.of hbx (by decide))
  have fP0 := cell_of bxP1 0
  have fP1 := cell_of bxP1 1
  have fP2 := cell_of bxP1 2
  have fP3 := cell_of bxP1 3
  simp at fP0 fP1 fP2 fP3
  clear t1 s1 T0 S0 hbx
  obtain ⟨o1, e1, l1, h11, h21, h31, h41⟩ := S1.out.ex
  obtain ⟨oa1, oc1, rfl⟩ := row_one h21
  have c01 := cell_of h11 0
  simp at c01
  have R1 : Hid (w1.ownsRow B 5 1 (.slice oa1 l1.length oc1) l1.length (U8 l1)) := h21
  have O1 : Hid (w1.heap[b]? = some (dob (.slice oa1 l1.length oc1) e1)) := h11
  have E1 : Hid (StE (thenW st (needW false 4)) l1 e1) := h41
  have hlb1 : b < B := S1.out.lt
  have hBl1 : B ≤ w1.heap.size := S1.out.le
  clear h11 h21 h41
  go_wp2_with (
    at_builtin
    refine wp_appG (w := (w1.alloc (.cells #[.int .u8 95] 5))) (v := .slice oa1 l1.length oc1) (u := .slice (some ⟨w1.heap.size, 0, none⟩) 1 1) (r := [95]) rfl _ _ rfl rfl rfl (World.ownsRow.alloc R1.out _) (by simp; omega) (reads_new _ _ _) (by simp; omega) ?_
    intro v2 x2 ho2 hg2
    obtain ⟨a2, cc2, hv2⟩ := row_one ho2
    rw [List.length_append] at hv2
    subst hv2
    have A2 := dw_app (b := b) (B := B) (w := (w1.alloc (.cells #[.int .u8 95] 5))) (st := thenW st (needW false 4)) (N := N) (r := [95]) (heap_alloc O1.out _) (World.ownsRow.alloc R1.out _) h31 E1.out hlb1 (by simp; omega) ho2 hg2
    have q2 := cell_of A2.1 0
    have z2 := free_of A2.1 0
    simp at q2
    have HA2 : Hid (WT b B (w1.alloc (.cells #[.int .u8 95] 5)) (x2.setCell ⟨b, 0, none⟩ (.slice a2 (l1.length + [(95 : Int)].length) cc2)) ∧ DW b B (x2.setCell ⟨b, 0, none⟩ (.slice a2 (l1.length + [(95 : Int)].length) cc2)) (thenW (thenW st (needW false 4)) (.ok [95])) (N + [(95 : Int)].length)) := A2.2
    have tt2 := A2.2.1
    have bxP2 : x2.heap[w.heap.size]? = some (.cells #[.int .i64 2, .slice pa ps.length pc, .slice ra rs.length rc, .slice fa fs.length fc] 99 (0, 0)) := (wt_grown (b := b) (World.ownsRow.alloc R1.out _) hg2).other (heap_alloc bxP1 _) hnP (NoT.of (heap_alloc bxP1 _) (by decide))
    have gP02 := cell_of bxP2 0
    have gP12 := cell_of bxP2 1
    have gP22 := cell_of bxP2 2
    have gP32 := cell_of bxP2 3
    simp at gP02 gP12 gP22 gP32
    clear A2 hg2 ho2 tt2 bxP1)
  have T2 : Hid (WT b B w (x2.setCell ⟨b, 0, none⟩ (.slice a2 (l1.length + 1) cc2))) := (T1.out.trans (WT.of_grew ((Grew.refl _).alloc _))).trans HA2.out.1
  have S2 : Hid (DW b B (x2.setCell ⟨b, 0, none⟩ (.slice a2 (l1.length + 1) cc2)) (thenW (thenW st (needW false 4)) (.ok [95])) (N + 1)) := HA2.out.2
  clear HA2 T1 S1 c01 R1 O1 E1 hlb1 hBl1 h31
  have bxs := heap_other bxP2 (p := ⟨b, 0, none⟩) hnP (.slice a2 (l1.length + 1) cc2)
  refine (dwMany_any S2.out fs.length 10000 hfx (by omega)).mono ?_
  rintro en w3 ⟨rfl, t3, s3⟩
  have T3 : Hid (WT b B w w3) := T2.out.trans t3
  have S3 : Hid (DW b B w3 (thenW (thenW (thenW (thenW st (needW false 4)) (.ok [95])) (needW (decide (fs.length ≤ 10000)) 2)) (.ok (PU fs.length))) (N + 1 + 11)) := s3
  have BX3 : Hid (w3.heap[w.heap.size]? = some (.cells #[.int .i64 2, .slice pa ps.length pc, .slice ra rs.length rc, .slice fa fs.length fc] 99 (0, 0))) := t3.other bxs hnP (NoT.of bxs (by decide))
  clear t3 s3 T2 S2 bxs bxP2 q2 z2 gP02 gP12 gP22 gP32
  go_wp2_with fail
  have S3 : Hid (DW b B w3 _ (N + 12 + 13 * 0)) := S3
  go_loopw [4] (fun i_ wr => ∃ (i : Nat) (sti : Except Nat (List Int)), i_ = .int .i64 i ∧ i ≤ fs.length ∧ Hid (WT b B w wr) ∧ Hid (DW b B wr sti (N + 12 + 13 * i)) ∧ Hid (thenW sti (manyW fieldW (fs.drop i)) = R) ∧ Hid (wr.heap[w.heap.size]? = some (.cells #[.int .i64 2, .slice pa ps.length pc, .slice ra rs.length rc, .slice fa fs.length fc] 99 (0, 0)))) (fun i_ _ => fs.length - (intOf i_).toNat)
  case atStart => exact ⟨0, _, rfl, by omega, T3, S3, HR, BX3⟩
  case round =>
    obtain ⟨i, sti, rfl, hi, TR, SR, HE, BX⟩ := hrel
    have p0b := cell_of BX.out 0
    have p1b := cell_of BX.out 1
    have p2b := cell_of BX.out 2
    have p3b := cell_of BX.out 3
    simp at p0b p1b p2b p3b
    by_cases hlt : i < fs.length
    · exact absurd hlt (by have := HZ.out; omega)
    · have d3 : decide ((i : Int) < (fs.length : Int)) = false := by simp; omega
      have d4 : decide (i < fs.length) = false := by simpa using hlt
      have E : Hid (sti = R) := by show _ = _; rw [← HE.out, many_last (by omega)]
      clear HE
      go_wp2_with fail
      go_end0
      exact ⟨rfl, TR.out, by rw [← E.out]; exact SR.out.mono (by have : i ≤ fs.length := hi; omega)⟩
set_option maxRecDepth 100000 in
set_option maxHeartbeats 2000000 in
theorem dc2_noP_f {b B : Nat} {w w0 : World} {st : Except Nat (List Int)} {N : Nat} (h : DW b B w st N) (g0 : Grew w0 w) (hb0 : w0.heap.size ≤ b) (pa ra : Option Addr) (bb off : Nat) (pc rc fc : Nat) (ps rs : List VT) (fs : List FT) (hp : LV w0 (.slice pa ps.length pc) ps) (hr : LV w0 (.slice ra rs.length rc) rs) (hf : LF w0 (.slice (some ⟨bb, off, none⟩) fs.length fc) fs)
    (hk : okC ⟨2, ps, rs, fs⟩) (hzps : ps ≠ []) (hN : N + szC ⟨2, ps, rs, fs⟩ ≤ 17592186043000) :
    Calls Tryd.prog 79 #[.pointer (some ⟨b, 0, none⟩), .agg #[.int .i64 2, .slice pa ps.length pc, .slice ra rs.length rc, .slice (some ⟨bb, off, none⟩) fs.length fc]] w (DA b B w (thenW st (compW ⟨2, ps, rs, fs⟩)) (N + szC ⟨2, ps, rs, fs⟩)) := by
  have HV : Hid (LF w0 (.slice (some ⟨bb, off, none⟩) fs.length fc) fs) := hf
  have HK : Hid (∀ x ∈ fs, okV x.ty) := hk.2.2
  obtain ⟨_, _, _, hflc, hfm⟩ := hf.one
  have hfx : fs.length ≤ 9223372036854775807 := by unfold maxLen at hfm; omega
  have L : thenW (thenW (thenW (thenW (thenW st (needW false 4)) (.ok [95])) (needW (decide (fs.length ≤ 10000)) 2)) (.ok (PU fs.length))) (manyW fieldW (fs.drop 0)) = thenW st (compW ⟨2, ps, rs, fs⟩) := by
    rw [thenW_no, List.drop_zero, list_eq, thenW_err, compW, if_neg (by simp [wholeC, hzps])]
  obtain ⟨R, hR⟩ : ∃ R, R = thenW st (compW ⟨2, ps, rs, fs⟩) := ⟨_, rfl⟩
  rw [← hR] at L ⊢
  have HR : Hid (thenW (thenW (thenW (thenW (thenW st (needW false 4)) (.ok [95])) (needW (decide (fs.length ≤ 10000)) 2)) (.ok (PU fs.length))) (manyW fieldW (fs.drop 0)) = R) := L
  clear hR L
  have hlps : ps.length ≠ 0 := fun hh => hzps (List.eq_nil_of_length_eq_zero hh)
  have dzps : ((ps.length : Int) == 0) = false := by simp; exact hzps
  clear hzps hlps
  clear hp hr hf hk hflc hfm
  unfold szC at hN ⊢
  simp only at hN ⊢
  have S0 : Hid (DW b B (w.alloc (.cells #[.int .i64 2, .slice pa ps.length pc, .slice ra rs.length rc, .slice (some ⟨bb, off, none⟩) fs.length fc] 99)) st N) := h.grew ((Grew.refl w).alloc _)
  have T0 : Hid (WT b B w (w.alloc (.cells #[.int .i64 2, .slice pa ps.length pc, .slice ra rs.length rc, .slice (some ⟨bb, off, none⟩) fs.length fc] 99))) := WT.of_grew ((Grew.refl w).alloc _)
  have hbx : (w.alloc (.cells #[.int .i64 2, .slice pa ps.length pc, .slice ra rs.length rc, .slice (some ⟨bb, off, none⟩) fs.length fc] 99)).heap[w.heap.size]? = some (.cells #[.int .i64 2, .slice pa ps.length pc, .slice ra rs.length rc, .slice (some ⟨bb, off, none⟩) fs.length fc] 99 (0, 0)) := heap_alloc_last w _
  have hb : b < w.heap.size := h.blt
  have hblt : b < B := h.lt
  have hnP : w.heap.size ≠ b := by omega
  have G0 : Hid (Grew w0 w) := g0
  clear h g0
  go_enter Tryd.func79, Tryd.ntmps79
  go_wp2_with fail
  refine (must_any S0.out false 4 (by decide)).mono ?_
  rintro en w1 ⟨rfl, t1, s1⟩
  have T1 : Hid (WT b B w w1) := T0.out.trans t1
  have S1 : Hid (DW b B w1 (thenW st (needW false 4)) N) := s1
  have bxP1 : w1.heap[w.heap.size]? = some (.cells #[.int .i64 2, .slice pa ps.length pc, .slice ra rs.length rc, .slice (some ⟨bb, off, none⟩) fs.length fc] 99 (0, 0)) := t1.other hbx hnP (NoT.of hbx (by decide))
  have fP0 := cell_of bxP1 0
  have fP1 := cell_of bxP1 1
  have fP2 := cell_of bxP1 2
  have fP3 := cell_of bxP1 3
  simp at fP0 fP1 fP2 fP3
  clear t1 s1 T0 S0 hbx
  obtain ⟨o1, e1, l1, h11, h21, h31, h41⟩ := S1.out.ex
  obtain ⟨oa1, oc1, rfl⟩ := row_one h21
  have c01 := cell_of h11 0
  simp at c01
  have R1 : Hid (w1.ownsRow B 5 1 (.slice oa1 l1.length oc1) l1.length (U8 l1)) := h21
  have O1 : Hid (w1.heap[b]? = some (dob (.slice oa1 l1.length oc1) e1)) := h11
  have E1 : Hid (StE (thenW st (needW false 4)) l1 e1) := h41
  have hlb1 : b < B := S1.out.lt
  have hBl1 : B ≤ w1.heap.size := S1.out.le
  clear h11 h21 h41
  go_wp2_with (
    at_builtin
    refine wp_appG (w := (w1.alloc (.cells #[.int .u8 95] 5))) (v := .slice oa1 l1.length oc1) (u := .slice (some ⟨w1.heap.size, 0, none⟩) 1 1) (r := [95]) rfl _ _ rfl rfl rfl (World.ownsRow.alloc R1.out _) (by simp; omega) (reads_new _ _ _) (by simp; omega) ?_
    intro v2 x2 ho2 hg2
    obtain ⟨a2, cc2, hv2⟩ := row_one ho2
    rw [List.length_append] at hv2
    subst hv2
    have A2 := dw_app (b := b) (B := B) (w := (w1.alloc (.cells #[.int .u8 95] 5))) (st := thenW st (needW false 4)) (N := N) (r := [95]) (heap_alloc O1.out _) (World.ownsRow.alloc R1.out _) h31 E1.out hlb1 (by simp; omega) ho2 hg2
    have q2 := cell_of A2.1 0
    have z2 := free_of A2.1 0
    simp at q2
    have HA2 : Hid (WT b B (w1.alloc (.cells #[.int .u8 95] 5)) (x2.setCell ⟨b, 0, none⟩ (.slice a2 (l1.length + [(95 : Int)].length) cc2)) ∧ DW b B (x2.setCell ⟨b, 0, none⟩ (.slice a2 (l1.length + [(95 : Int)].length) cc2)) (thenW (thenW st (needW false 4)) (.ok [95])) (N + [(95 : Int)].length)) := A2.2
    have tt2 := A2.2.1
    have bxP2 : x2.heap[w.heap.size]? = some (.cells #[.int .i64 2, .slice pa ps.length pc, .slice ra rs.length rc, .slice (some ⟨bb, off, none⟩) fs.length fc] 99 (0, 0)) := (wt_grown (b := b) (World.ownsRow.alloc R1.out _) hg2).other (heap_alloc bxP1 _) hnP (NoT.of (heap_alloc bxP1 _) (by decide))
    have gP02 := cell_of bxP2 0
    have gP12 := cell_of bxP2 1
    have gP22 := cell_of bxP2 2
    have gP32 := cell_of bxP2 3
    simp at gP02 gP12 gP22 gP32
    clear A2 hg2 ho2 tt2 bxP1)
  have T2 : Hid (WT b B w (x2.setCell ⟨b, 0, none⟩ (.slice a2 (l1.length + 1) cc2))) := (T1.out.trans (WT.of_grew ((Grew.refl _).alloc _))).trans HA2.out.1
  have S2 : Hid (DW b B (x2.setCell ⟨b, 0, none⟩ (.slice a2 (l1.length + 1) cc2)) (thenW (thenW st (needW false 4)) (.ok [95])) (N + 1)) := HA2.out.2
  clear HA2 T1 S1 c01 R1 O1 E1 hlb1 hBl1 h31
  have bxs := heap_other bxP2 (p := ⟨b, 0, none⟩) hnP (.slice a2 (l1.length + 1) cc2)
  refine (dwMany_any S2.out fs.length 10000 hfx (by omega)).mono ?_
  rintro en w3 ⟨rfl, t3, s3⟩
  have T3 : Hid (WT b B w w3) := T2.out.trans t3
  have S3 : Hid (DW b B w3 (thenW (thenW (thenW (thenW st (needW false 4)) (.ok [95])) (needW (decide (fs.length ≤ 10000)) 2)) (.ok (PU fs.length))) (N + 1 + 11)) := s3
  have BX3 : Hid (w3.heap[w.heap.size]? = some (.cells #[.int .i64 2, .slice pa ps.length pc, .slice ra rs.length rc, .slice (some ⟨bb, off, none⟩) fs.length fc] 99 (0, 0))) := t3.other bxs hnP (NoT.of bxs (by decide))
  clear t3 s3 T2 S2 bxs bxP2 q2 z2 gP02 gP12 gP22 gP32
  go_wp2_with fail
  have S3 : Hid (DW b B w3 _ (N + 12 + 13 * 0)) := S3
  go_loopw [4] (fun i_ wr => ∃ (i : Nat) (sti : Except Nat (List Int)), i_ = .int .i64 i ∧ i ≤ fs.length ∧ Hid (WT b B w wr) ∧ Hid (DW b B wr sti (N + 12 + 13 * i)) ∧ Hid (thenW sti (manyW fieldW (fs.drop i)) = R) ∧ Hid (wr.heap[w.heap.size]? = some (.cells #[.int .i64 2, .slice pa ps.length pc, .slice ra rs.length rc, .slice (some ⟨bb, off, none⟩) fs.length fc] 99 (0, 0)))) (fun i_ _ => fs.length - (intOf i_).toNat)
  case atStart => exact ⟨0, _, rfl, by omega, T3, S3, HR, BX3⟩
  case round =>
    obtain ⟨i, sti, rfl, hi, TR, SR, HE, BX⟩ := hrel
    have p0b := cell_of BX.out 0
    have p1b := cell_of BX.out 1
    have p2b := cell_of BX.out 2
    have p3b := cell_of BX.out 3
    simp at p0b p1b p2b p3b
    by_cases hlt : i < fs.length
    · obtain ⟨x, hx⟩ : ∃ x, fs[i]? = some x := ⟨_, List.getElem?_eq_getElem hlt⟩
      have hxok := HK.out x (List.mem_of_getElem? hx)
      have d3 : decide ((i : Int) < (fs.length : Int)) = true := by simp; omega
      have d4 : decide (i < fs.length) = true := by simpa using hlt
      have GR : Grew w0 wr := TR.out.grew0 G0.out hb0 (by omega)
      obtain ⟨bb', off', ea, _, hc⟩ := (HV.out.grew GR).get (by omega)
      have hce := hc i x hx
      have ea2 : bb' = bb ∧ off' = off := by simp at ea; exact ⟨ea.1.symm, ea.2.symm⟩
      rw [ea2.1, ea2.2] at hce
      clear ea ea2
      have HE2 : Hid (thenW (thenW sti (fieldW x)) (manyW fieldW (fs.drop (i + 1))) = R) := by show _ = _; rw [← HE.out, many_next hx]
      obtain ⟨⟨vn, vb, vh⟩, vm⟩ := x
      obtain ⟨⟨p0, p1, p2⟩, p3⟩ := hce
      simp only at p0 p1 p2 p3
      have C2 : ∀ (W : World), DW b B W sti (N + 12 + 13 * i) → Calls Tryd.prog 108 #[.pointer (some ⟨b, 0, none⟩), .agg #[.int .i64 vn, .bool vb, .int .i64 vh, .bool vm]] W (DA b B W (thenW sti (fieldW ⟨⟨vn, vb, vh⟩, vm⟩)) (N + 12 + 13 * i + 13)) := fun W u => dwField_any u ⟨⟨vn, vb, vh⟩, vm⟩ hxok (by omega)
      generalize fieldW ⟨⟨vn, vb, vh⟩, vm⟩ = Z at *
      clear hc hx GR HE
      go_wp2_with fail
      refine (C2 _ SR.out).mono ?_
      rintro en w2 ⟨rfl, t2, s2⟩
      have T2 : Hid (WT b B w w2) := TR.out.trans t2
      have S2 : Hid (DW b B w2 (thenW sti Z) (N + 12 + 13 * i + 13)) := s2
      have BX2 : Hid (w2.heap[w.heap.size]? = some (.cells #[.int .i64 2, .slice pa ps.length pc, .slice ra rs.length rc, .slice (some ⟨bb, off, none⟩) fs.length fc] 99 (0, 0))) := t2.other BX.out hnP (NoT.of BX.out (by decide))
      clear BX p0b p1b p2b p3b
      clear t2 s2 C2 TR SR
      go_wp2_with fail
      go_roundw
      case rel => exact ⟨i + 1, _, by go_num, by omega, T2, S2.out.mono (by omega), HE2, BX2⟩
      case measure => simp [intOf]; omega
    · have d3 : decide ((i : Int) < (fs.length : Int)) = false := by simp; omega
      have d4 : decide (i < fs.length) = false := by simpa using hlt
      have E : Hid (sti = R) := by show _ = _; rw [← HE.out, many_last (by omega)]
      clear HE
      go_wp2_with fail
      go_end0
      exact ⟨rfl, TR.out, by rw [← E.out]; exact SR.out.mono (by have : i ≤ fs.length := hi; omega)⟩
set_option maxRecDepth 100000 in
set_option maxHeartbeats 2000000 in
theorem dc2_noR_e {b B : Nat} {w w0 : World} {st : Except Nat (List Int)} {N : Nat} (h : DW b B w st N) (g0 : Grew w0 w) (hb0 : w0.heap.size ≤ b) (pa ra fa : Option Addr) (pc rc fc : Nat) (ps rs : List VT) (fs : List FT) (hp : LV w0 (.slice pa ps.length pc) ps) (hr : LV w0 (.slice ra rs.length rc) rs) (hf : LF w0 (.slice fa fs.length fc) fs)
    (hk : okC ⟨2, ps, rs, fs⟩) (hz0 : fs.length = 0) (hzps : ps = []) (hzrs : rs ≠ []) (hN : N + szC ⟨2, ps, rs, fs⟩ ≤ 17592186043000) :
    Calls Tryd.prog 79 #[.pointer (some ⟨b, 0, none⟩), .agg #[.int .i64 2, .slice pa ps.length pc, .slice ra rs.length rc, .slice fa fs.length fc]] w (DA b B w (thenW st (compW ⟨2, ps, rs, fs⟩)) (N + szC ⟨2, ps, rs, fs⟩)) := by
  have HV : Hid (LF w0 (.slice fa fs.length fc) fs) := hf
  have HK : Hid (∀ x ∈ fs, okV x.ty) := hk.2.2
  obtain ⟨_, _, _, hflc, hfm⟩ := hf.one
  have hfx : fs.length ≤ 9223372036854775807 := by unfold maxLen at hfm; omega
  have HZ : Hid (fs.length = 0) := hz0
  clear hz0
  have L : thenW (thenW (thenW (thenW (thenW st (needW false 4)) (.ok [95])) (needW (decide (fs.length ≤ 10000)) 2)) (.ok (PU fs.length))) (manyW fieldW (fs.drop 0)) = thenW st (compW ⟨2, ps, rs, fs⟩) := by
    rw [thenW_no, List.drop_zero, list_eq, thenW_err, compW, if_neg (by simp [wholeC, hzrs])]
  obtain ⟨R, hR⟩ : ∃ R, R = thenW st (compW ⟨2, ps, rs, fs⟩) := ⟨_, rfl⟩
  rw [← hR] at L ⊢
  have HR : Hid (thenW (thenW (thenW (thenW (thenW st (needW false 4)) (.ok [95])) (needW (decide (fs.length ≤ 10000)) 2)) (.ok (PU fs.length))) (manyW fieldW (fs.drop 0)) = R) := L
  clear hR L
  have dzps : ((ps.length : Int) == 0) = true := by rw [hzps]; rfl
  clear hzps
  have hlrs : rs.length ≠ 0 := fun hh => hzrs (List.eq_nil_of_length_eq_zero hh)
  have dzrs : ((rs.length : Int) == 0) = false := by simp; exact hzrs
  clear hzrs hlrs
  clear hp hr hf hk hflc hfm
  unfold szC at hN ⊢
  simp only at hN ⊢
  have S0 : Hid (DW b B (w.alloc (.cells #[.int .i64 2, .slice pa ps.length pc, .slice ra rs.length rc, .slice fa fs.length fc] 99)) st N) := h.grew ((Grew.refl w).alloc _)
  have T0 : Hid (WT b B w (w.alloc (.cells #[.int .i64 2, .slice pa ps.length pc, .slice ra rs.length rc, .slice fa fs.length fc] 99))) := WT.of_grew ((Grew.refl w).alloc _)
  have hbx : (w.alloc (.cells #[.int .i64 2, .slice pa ps.length pc, .slice ra rs.length rc, .slice fa fs.length fc] 99)).heap[w.heap.size]? = some (.cells #[.int .i64 2, .slice pa ps.length pc, .slice ra rs.length rc, .slice fa fs.length fc] 99 (0, 0)) := heap_alloc_last w _
  have hb : b < w.heap.size := h.blt
  have hblt : b < B := h.lt
  have hnP : w.heap.size ≠ b := by omega
  have G0 : Hid (Grew w0 w) := g0
  clear h g0
  go_enter Tryd.func79, Tryd.ntmps79
  go_wp2_with fail
  refine (must_any S0.out false 4 (by decide)).mono ?_
  rintro en w1 ⟨rfl, t1, s1⟩
  have T1 : Hid (WT b B w w1) := T0.out.trans t1
  have S1 : Hid (DW b B w1 (thenW st (needW false 4)) N) := s1
  have bxP1 : w1.heap[w.heap.size]? = some (.cells #[.int .i64 2, .slice pa ps.length pc, .slice ra rs.length rc, .slice fa fs.length fc] 99 (0, 0)) := t1.other hbx hnP (NoT.of hbx (by decide))
  have fP0 := cell_of bxP1 0
  have fP1 := cell_of bxP1 1
  have fP2 := cell_of bxP1 2
  have fP3 := cell_of bxP1 3
  simp at fP0 fP1 fP2 fP3
  clear t1 s1 T0 S0 hbx
  obtain ⟨o1, e1, l1, h11, h21, h31, h41⟩ := S1.out.ex
  obtain ⟨oa1, oc1, rfl⟩ := row_one h21
  have c01 := cell_of h11 0
  simp at c01
  have R1 : Hid (w1.ownsRow B 5 1 (.slice oa1 l1.length oc1) l1.length (U8 l1)) := h21
  have O1 : Hid (w1.heap[b]? = some (dob (.slice oa1 l1.length oc1) e1)) := h11
  have E1 : Hid (StE (thenW st (needW false 4)) l1 e1) := h41
  have hlb1 : b < B := S1.out.lt
  have hBl1 : B ≤ w1.heap.size := S1.out.le
  clear h11 h21 h41
  go_wp2_with (
    at_builtin
    refine wp_appG (w := (w1.alloc (.cells #[.int .u8 95] 5))) (v := .slice oa1 l1.length oc1) (u := .slice (some ⟨w1.heap.size, 0, none⟩) 1 1) (r := [95]) rfl _ _ rfl rfl rfl (World.ownsRow.alloc R1.out _) (by simp; omega) (reads_new _ _ _) (by simp; omega) ?_
    intro v2 x2 ho2 hg2
    obtain ⟨a2, cc2, hv2⟩ := row_one ho2
    rw [List.length_append] at hv2
    subst hv2
    have A2 := dw_app (b := b) (B := B) (w := (w1.alloc (.cells #[.int .u8 95] 5))) (st := thenW st (needW false 4)) (N := N) (r := [95]) (heap_alloc O1.out _) (World.ownsRow.alloc R1.out _) h31 E1.out hlb1 (by simp; omega) ho2 hg2
    have q2 := cell_of A2.1 0
    have z2 := free_of A2.1 0
    simp at q2
    have HA2 : Hid (WT b B (w1.alloc (.cells #[.int .u8 95] 5)) (x2.setCell ⟨b, 0, none⟩ (.slice a2 (l1.length + [(95 : Int)].length) cc2)) ∧ DW b B (x2.setCell ⟨b, 0, none⟩ (.slice a2 (l1.length + [(95 : Int)].length) cc2)) (thenW (thenW st (needW false 4)) (.ok [95])) (N + [(95 : Int)].length)) := A2.2
    have tt2 := A2.2.1
    have bxP2 : x2.heap[w.heap.size]? = some (.cells #[.int .i64 2, .slice pa ps.length pc, .slice ra rs.length rc, .slice fa fs.length fc] 99 (0, 0)) := (wt_grown (b := b) (World.ownsRow.alloc R1.out _) hg2).other (heap_alloc bxP1 _) hnP (NoT.of (heap_alloc bxP1 _) (by decide))
    have gP02 := cell_of bxP2 0
    have gP12 := cell_of bxP2 1
    have gP22 := cell_of bxP2 2
    have gP32 := cell_of bxP2 3
    simp at gP02 gP12 gP22 gP32
    clear A2 hg2 ho2 tt2 bxP1)
  have T2 : Hid (WT b B w (x2.setCell ⟨b, 0, none⟩ (.slice a2 (l1.length + 1) cc2))) := (T1.out.trans (WT.of_grew ((Grew.refl _).alloc _))).trans HA2.out.1
  have S2 : Hid (DW b B (x2.setCell ⟨b, 0, none⟩ (.slice a2 (l1.length + 1) cc2)) (thenW (thenW st (needW false 4)) (.ok [95])) (N + 1)) := HA2.out.2
  clear HA2 T1 S1 c01 R1 O1 E1 hlb1 hBl1 h31
  have bxs := heap_other bxP2 (p := ⟨b, 0, none⟩) hnP (.slice a2 (l1.length + 1) cc2)
  refine (dwMany_any S2.out fs.length 10000 hfx (by omega)).mono ?_
  rintro en w3 ⟨rfl, t3, s3⟩
  have T3 : Hid (WT b B w w3) := T2.out.trans t3
  have S3 : Hid (DW b B w3 (thenW (thenW (thenW (thenW st (needW false 4)) (.ok [95])) (needW (decide (fs.length ≤ 10000)) 2)) (.ok (PU fs.length))) (N + 1 + 11)) := s3
  have BX3 : Hid (w3.heap[w.heap.size]? = some (.cells #[.int .i64 2, .slice pa ps.length pc, .slice ra rs.length rc, .slice fa fs.length fc] 99 (0, 0))) := t3.other bxs hnP (NoT.of bxs (by decide))
  clear t3 s3 T2 S2 bxs bxP2 q2 z2 gP02 gP12 gP22 gP32
  go_wp2_with fail
  have S3 : Hid (DW b B w3 _ (N + 12 + 13 * 0)) := S3
  go_loopw [4] (fun i_ wr => ∃ (i : Nat) (sti : Except Nat (List Int)), i_ = .int .i64 i ∧ i ≤ fs.length ∧ Hid (WT b B w wr) ∧ Hid (DW b B wr sti (N + 12 + 13 * i)) ∧ Hid (thenW sti (manyW fieldW (fs.drop i)) = R) ∧ Hid (wr.heap[w.heap.size]? = some (.cells #[.int .i64 2, .slice pa ps.length pc, .slice ra rs.length rc, .slice fa fs.length fc] 99 (0, 0)))) (fun i_ _ => fs.length - (intOf i_).toNat)
  case atStart => exact ⟨0, _, rfl, by omega, T3, S3, HR, BX3⟩
  case round =>
    obtain ⟨i, sti, rfl, hi, TR, SR, HE, BX⟩ := hrel
    have p0b := cell_of BX.out 0
    have p1b := cell_of BX.out 1
    have p2b := cell_of BX.out 2
    have p3b := cell_of BX.out 3
    simp at p0b p1b p2b p3b
    by_cases hlt : i < fs.length
    · exact absurd hlt (by have := HZ.out; omega)
    · have d3 : decide ((i : Int) < (fs.length : Int)) = false := by simp; omega
      have d4 : decide (i < fs.length) = false := by simpa using hlt
      have E : Hid (sti = R) := by show _ = _; rw [← HE.out, many_last (by omega)]
      clear HE
      go_wp2_with fail
      go_end0
      exact ⟨rfl, TR.out, by rw [← E.out]; exact SR.out.mono (by have : i ≤ fs.length := hi; omega)⟩
set_option maxRecDepth 100000 in
set_option maxHeartbeats 2000000 in
theorem dc2_noR_f {b B : Nat} {w w0 : World} {st : Except Nat (List Int)} {N : Nat} (h : DW b B w st N) (g0 : Grew w0 w) (hb0 : w0.heap.size ≤ b) (pa ra : Option Addr) (bb off : Nat) (pc rc fc : Nat) (ps rs : List VT) (fs : List FT) (hp : LV w0 (.slice pa ps.length pc) ps) (hr : LV w0 (.slice ra rs.length rc) rs) (hf : LF w0 (.slice (some ⟨bb, off, none⟩) fs.length fc) fs)
    (hk : okC ⟨2, ps, rs, fs⟩) (hzps : ps = []) (hzrs : rs ≠ []) (hN : N + szC ⟨2, ps, rs, fs⟩ ≤ 17592186043000) :
    Calls Tryd.prog 79 #[.pointer (some ⟨b, 0, none⟩), .agg #[.int .i64 2, .slice pa ps.length pc, .slice ra rs.length rc, .slice (some ⟨bb, off, none⟩) fs.length fc]] w (DA b B w (thenW st (compW ⟨2, ps, rs, fs⟩)) (N + szC ⟨2, ps, rs, fs⟩)) := by
  have HV : Hid (LF w0 (.slice (some ⟨bb, off, none⟩) fs.length fc) fs) := hf
  have HK : Hid (∀ x ∈ fs, okV x.ty) := hk.2.2
  obtain ⟨_, _, _, hflc, hfm⟩ := hf.one
  have hfx : fs.length ≤ 9223372036854775807 := by unfold maxLen at hfm; omega
  have L : thenW (thenW (thenW (thenW (thenW st (needW false 4)) (.ok [95])) (needW (decide (fs.length ≤ 10000)) 2)) (.ok (PU fs.length))) (manyW fieldW (fs.drop 0)) = thenW st (compW ⟨2, ps, rs, fs⟩) := by
    rw [thenW_no, List.drop_zero, list_eq, thenW_err, compW, if_neg (by simp [wholeC, hzrs])]
  obtain ⟨R, hR⟩ : ∃ R, R = thenW st (compW ⟨2, ps, rs, fs⟩) := ⟨_, rfl⟩
  rw [← hR] at L ⊢
  have HR : Hid (thenW (thenW (thenW (thenW (thenW st (needW false 4)) (.ok [95])) (needW (decide (fs.length ≤ 10000)) 2)) (.ok (PU fs.length))) (manyW fieldW (fs.drop 0)) = R) := L
  clear hR L
  have dzps : ((ps.length : Int) == 0) = true := by rw [hzps]; rfl
  clear hzps
  have hlrs : rs.length ≠ 0 := fun hh => hzrs (List.eq_nil_of_length_eq_zero hh)
  have dzrs : ((rs.length : Int) == 0) = false := by simp; exact hzrs
  clear hzrs hlrs
  clear hp hr hf hk hflc hfm
  unfold szC at hN ⊢
  simp only at hN ⊢
  have S0 : Hid (DW b B (w.alloc (.cells #[.int .i64 2, .slice pa ps.length pc, .slice ra rs.length rc, .slice (some ⟨bb, off, none⟩) fs.length fc] 99)) st N) := h.grew ((Grew.refl w).alloc _)
  have T0 : Hid (WT b B w (w.alloc (.cells #[.int .i64 2, .slice pa ps.length pc, .slice ra rs.length rc, .slice (some ⟨bb, off, none⟩) fs.length fc] 99))) := WT.of_grew ((Grew.refl w).alloc _)
  have hbx : (w.alloc (.cells #[.int .i64 2, .slice pa ps.length pc, .slice ra rs.length rc, .slice (some ⟨bb, off, none⟩) fs.length fc] 99)).heap[w.heap.size]? = some (.cells #[.int .i64 2, .slice pa ps.length pc, .slice ra rs.length rc, .slice (some ⟨bb, off, none⟩) fs.length fc] 99 (0, 0)) := heap_alloc_last w _
  have hb : b < w.heap.size := h.blt
  have hblt : b < B := h.lt
  have hnP : w.heap.size ≠ b := by omega
  have G0 : Hid (Grew w0 w) := g0
  clear h g0
  go_enter Tryd.func79, Tryd.ntmps79
  go_wp2_with fail
  refine (must_any S0.out false 4 (by decide)).mono ?_
  rintro en w1 ⟨rfl, t1, s1⟩
  have T1 : Hid (WT b B w w1) := T0.out.trans t1
  have S1 : Hid (DW b B w1 (thenW st (needW false 4)) N) := s1
  have bxP1 : w1.heap[w.heap.size]? = some (.cells #[.int .i64 2, .slice pa ps.length pc, .slice ra rs.length rc, .slice (some ⟨bb, off, none⟩) fs.length fc] 99 (0, 0)) := t1.other hbx hnP (NoT.of hbx (by decide))
  have fP0 := cell_of bxP1 0
  have fP1 := cell_of bxP1 1
  have fP2 := cell_of bxP1 2
  have fP3 := cell_of bxP1 3
  simp at fP0 fP1 fP2 fP3
  clear t1 s1 T0 S0 hbx
  obtain ⟨o1, e1, l1, h11, h21, h31, h41⟩ := S1.out.ex
  obtain ⟨oa1, oc1, rfl⟩ := row_one h21
  have c01 := cell_of h11 0
  simp at c01
  have R1 : Hid (w1.ownsRow B 5 1 (.slice oa1 l1.length oc1) l1.length (U8 l1)) := h21
  have O1 : Hid (w1.heap[b]? = some (dob (.slice oa1 l1.length oc1) e1)) := h11
  have E1 : Hid (StE (thenW st (needW false 4)) l1 e1) := h41
  have hlb1 : b < B := S1.out.lt
  have hBl1 : B ≤ w1.heap.size := S1.out.le
  clear h11 h21 h41
  go_wp2_with (
    at_builtin
    refine wp_appG (w := (w1.alloc (.cells #[.int .u8 95] 5))) (v := .slice oa1 l1.length oc1) (u := .slice (some ⟨w1.heap.size, 0, none⟩) 1 1) (r := [95]) rfl _ _ rfl rfl rfl (World.ownsRow.alloc R1.out _) (by simp; omega) (reads_new _ _ _) (by simp; omega) ?_
    intro v2 x2 ho2 hg2
    obtain ⟨a2, cc2, hv2⟩ := row_one ho2
    rw [List.length_append] at hv2
    subst hv2
    have A2 := dw_app (b := b) (B := B) (w := (w1.alloc (.cells #[.int .u8 95] 5))) (st := thenW st (needW false 4)) (N := N) (r := [95]) (heap_alloc O1.out _) (World.ownsRow.alloc R1.out _) h31 E1.out hlb1 (by simp; omega) ho2 hg2
    have q2 := cell_of A2.1 0
    have z2 := free_of A2.1 0
    simp at q2
    have HA2 : Hid (WT b B (w1.alloc (.cells #[.int .u8 95] 5)) (x2.setCell ⟨b, 0, none⟩ (.slice a2 (l1.length + [(95 : Int)].length) cc2)) ∧ DW b B (x2.setCell ⟨b, 0, none⟩ (.slice a2 (l1.length + [(95 : Int)].length) cc2)) (thenW (thenW st (needW false 4)) (.ok [95])) (N + [(95 : Int)].length)) := A2.2
    have tt2 := A2.2.1
    have bxP2 : x2.heap[w.heap.size]? = some (.cells #[.int .i64 2, .slice pa ps.length pc, .slice ra rs.length rc, .slice (some ⟨bb, off, none⟩) fs.length fc] 99 (0, 0)) := (wt_grown (b := b) (World.ownsRow.alloc R1.out _) hg2).other (heap_alloc bxP1 _) hnP (NoT.of (heap_alloc bxP1 _) (by decide))
    have gP02 := cell_of bxP2 0
    have gP12 := cell_of bxP2 1
    have gP22 := cell_of bxP2 2
    have gP32 := cell_of bxP2 3
    simp at gP02 gP12 gP22 gP32
    clear A2 hg2 ho2 tt2 bxP1)
  have T2 : Hid (WT b B w (x2.setCell ⟨b, 0, none⟩ (.slice a2 (l1.length + 1) cc2))) := (T1.out.trans (WT.of_grew ((Grew.refl _).alloc _))).trans HA2.out.1
  have S2 : Hid (DW b B (x2.setCell ⟨b, 0, none⟩ (.slice a2 (l1.length + 1) cc2)) (thenW (thenW st (needW false 4)) (.ok [95])) (N + 1)) := HA2.out.2
  clear HA2 T1 S1 c01 R1 O1 E1 hlb1 hBl1 h31
  have bxs := heap_other bxP2 (p := ⟨b, 0, none⟩) hnP (.slice a2 (l1.length + 1) cc2)
  refine (dwMany_any S2.out fs.length 10000 hfx (by omega)).mono ?_
  rintro en w3 ⟨rfl, t3, s3⟩
  have T3 : Hid (WT b B w w3) := T2.out.trans t3
  have S3 : Hid (DW b B w3 (thenW (thenW (thenW (thenW st (needW false 4)) (.ok [95])) (needW (decide (fs.length ≤ 10000)) 2)) (.ok (PU fs.length))) (N + 1 + 11)) := s3
  have BX3 : Hid (w3.heap[w.heap.size]? = some (.cells #[.int .i64 2, .slice pa ps.length pc, .slice ra rs.length rc, .slice (some ⟨bb, off, none⟩) fs.length fc] 99 (0, 0))) := t3.other bxs hnP (NoT.of bxs (by decide))
  clear t3 s3 T2 S2 bxs bxP2 q2 z2 gP02 gP12 gP22 gP32
  go_wp2_with fail
  have S3 : Hid (DW b B w3 _ (N + 12 + 13 * 0)) := S3
  go_loopw [4] (fun i_ wr => ∃ (i : Nat) (sti : Except Nat (List Int)), i_ = .int .i64 i ∧ i ≤ fs.length ∧ Hid (WT b B w wr) ∧ Hid (DW b B wr sti (N + 12 + 13 * i)) ∧ Hid (thenW sti (manyW fieldW (fs.drop i)) = R) ∧ Hid (wr.heap[w.heap.size]? = some (.cells #[.int .i64 2, .slice pa ps.length pc, .slice ra rs.length rc, .slice (some ⟨bb, off, none⟩) fs.length fc] 99 (0, 0)))) (fun i_ _ => fs.length - (intOf i_).toNat)
  case atStart => exact ⟨0, _, rfl, by omega, T3, S3, HR, BX3⟩
  case round =>
    obtain ⟨i, sti, rfl, hi, TR, SR, HE, BX⟩ := hrel
    have p0b := cell_of BX.out 0
    have p1b := cell_of BX.out 1
    have p2b := cell_of BX.out 2
    have p3b := cell_of BX.out 3
    simp at p0b p1b p2b p3b
    by_cases hlt : i < fs.length
    · obtain ⟨x, hx⟩ : ∃ x, fs[i]? = some x := ⟨_, List.getElem?_eq_getElem hlt⟩
      have hxok := HK.out x (List.mem_of_getElem? hx)
      have d3 : decide ((i : Int) < (fs.length : Int)) = true := by simp; omega
      have d4 : decide (i < fs.length) = true := by simpa using hlt
      have GR : Grew w0 wr := TR.out.grew0 G0.out hb0 (by omega)
      obtain ⟨bb', off', ea, _, hc⟩ := (HV.out.grew GR).get (by omega)
      have hce := hc i x hx
      have ea2 : bb' = bb ∧ off' = off := by simp at ea; exact ⟨ea.1.symm, ea.2.symm⟩
      rw [ea2.1, ea2.2] at hce
      clear ea ea2
      have HE2 : Hid (thenW (thenW sti (fieldW x)) (manyW fieldW (fs.drop (i + 1))) = R) := by show _ = _; rw [← HE.out, many_next hx]
      obtain ⟨⟨vn, vb, vh⟩, vm⟩ := x
      obtain ⟨⟨p0, p1, p2⟩, p3⟩ := hce
      simp only at p0 p1 p2 p3
      have C2 : ∀ (W : World), DW b B W sti (N + 12 + 13 * i) → Calls Tryd.prog 108 #[.pointer (some ⟨b, 0, none⟩), .agg #[.int .i64 vn, .bool vb, .int .i64 vh, .bool vm]] W (DA b B W (thenW sti (fieldW ⟨⟨vn, vb, vh⟩, vm⟩)) (N + 12 + 13 * i + 13)) := fun W u => dwField_any u ⟨⟨vn, vb, vh⟩, vm⟩ hxok (by omega)
      generalize fieldW ⟨⟨vn, vb, vh⟩, vm⟩ = Z at *
      clear hc hx GR HE
      go_wp2_with fail
      refine (C2 _ SR.out).mono ?_
      rintro en w2 ⟨rfl, t2, s2⟩
      have T2 : Hid (WT b B w w2) := TR.out.trans t2
      have S2 : Hid (DW b B w2 (thenW sti Z) (N + 12 + 13 * i + 13)) := s2
      have BX2 : Hid (w2.heap[w.heap.size]? = some (.cells #[.int .i64 2, .slice pa ps.length pc, .slice ra rs.length rc, .slice (some ⟨bb, off, none⟩) fs.length fc] 99 (0, 0))) := t2.other BX.out hnP (NoT.of BX.out (by decide))
      clear BX p0b p1b p2b p3b
      clear t2 s2 C2 TR SR
      go_wp2_with fail
      go_roundw
      case rel => exact ⟨i + 1, _, by go_num, by omega, T2, S2.out.mono (by omega), HE2, BX2⟩
      case measure => simp [intOf]; omega
    · have d3 : decide ((i : Int) < (fs.length : Int)) = false := by simp; omega
      have d4 : decide (i < fs.length) = false := by simpa using hlt
      have E : Hid (sti = R) := by show _ = _; rw [← HE.out, many_last (by omega)]
      clear HE
      go_wp2_with fail
      go_end0
      exact ⟨rfl, TR.out, by rw [← E.out]; exact SR.out.mono (by have : i ≤ fs.length := hi; omega)⟩
set_option maxRecDepth 100000 in
set_option maxHeartbeats 2000000 in
theorem dc3_yes_e {b B : Nat} {w w0 : World} {st : Except Nat (List Int)} {N : Nat} (h : DW b B w st N) (g0 : Grew w0 w) (hb0 : w0.heap.size ≤ b) (pa ra fa : Option Addr) (pc rc fc : Nat) (ps rs : List VT) (fs : List FT) (hp : LV w0 (.slice pa ps.length pc) ps) (hr : LV w0 (.slice ra rs.length rc) rs) (hf : LF w0 (.slice fa fs.length fc) fs)
    (hk : okC ⟨3, ps, rs, fs⟩) (hz0 : fs.length = 0) (hzps : ps = []) (hzrs : rs = []) (h1fs : fs.length = 1) (hN : N + szC ⟨3, ps, rs, fs⟩ ≤ 17592186043000) :
    Calls Tryd.prog 79 #[.pointer (some ⟨b, 0, none⟩), .agg #[.int .i64 3, .slice pa ps.length pc, .slice ra rs.length rc, .slice fa fs.length fc]] w (DA b B w (thenW st (compW ⟨3, ps, rs, fs⟩)) (N + szC ⟨3, ps, rs, fs⟩)) := by
  have HV : Hid (LF w0 (.slice fa fs.length fc) fs) := hf
  have HK : Hid (∀ x ∈ fs, okV x.ty) := hk.2.2
  obtain ⟨_, _, _, hflc, hfm⟩ := hf.one
  have hfx : fs.length ≤ 9223372036854775807 := by unfold maxLen at hfm; omega
  have HZ : Hid (fs.length = 0) := hz0
  clear hz0
  have L : thenW (thenW (thenW st (needW true 4)) (.ok [94])) (manyW fieldW (fs.drop 0)) = thenW st (compW ⟨3, ps, rs, fs⟩) := by
    rw [thenW_yes, List.drop_zero, compW, if_pos (by simp [wholeC, hzps, hzrs, h1fs]), if_neg (by simp), if_neg (by simp), thenW_assoc]; obtain ⟨f, rfl⟩ := List.length_eq_one_iff.1 h1fs; rw [manyW, manyW, thenW_nil]; rfl
  obtain ⟨R, hR⟩ : ∃ R, R = thenW st (compW ⟨3, ps, rs, fs⟩) := ⟨_, rfl⟩
  rw [← hR] at L ⊢
  have HR : Hid (thenW (thenW (thenW st (needW true 4)) (.ok [94])) (manyW fieldW (fs.drop 0)) = R) := L
  clear hR L
  have dzps : ((ps.length : Int) == 0) = true := by rw [hzps]; rfl
  clear hzps
  have dzrs : ((rs.length : Int) == 0) = true := by rw [hzrs]; rfl
  clear hzrs
  have d1fs : ((fs.length : Int) == 1) = true := by rw [h1fs]; rfl
  clear h1fs
  clear hp hr hf hk hflc hfm
  unfold szC at hN ⊢
  simp only at hN ⊢
  have S0 : Hid (DW b B (w.alloc (.cells #[.int .i64 3, .slice pa ps.length pc, .slice ra rs.length rc, .slice fa fs.length fc] 99)) st N) := h.grew ((Grew.refl w).alloc _)
  have T0 : Hid (WT b B w (w.alloc (.cells #[.int .i64 3, .slice pa ps.length pc, .slice ra rs.length rc, .slice fa fs.length fc] 99))) := WT.of_grew ((Grew.refl w).alloc _)
  have hbx : (w.alloc (.cells #[.int .i64 3, .slice pa ps.length pc, .slice ra rs.length rc, .slice fa fs.length fc] 99)).heap[w.heap.size]? = some (.cells #[.int .i64 3, .slice pa ps.length pc, .slice ra rs.length rc, .slice fa fs.length fc] 99 (0, 0)) := heap_alloc_last w _
  have hb : b < w.heap.size := h.blt
  have hblt : b < B := h.lt
  have hnP : w.heap.size ≠ b := by omega
  have G0 : Hid (Grew w0 w) := g0
  clear h g0
  go_enter Tryd.func79, Tryd.ntmps79
  go_wp2_with fail
  refine (must_any S0.out true 4 (by decide)).mono ?_
  rintro en w1 ⟨rfl, t1, s1⟩
  have T1 : Hid (WT b B w w1) := T0.out.trans t1
  have S1 : Hid (DW b B w1 (thenW st (needW true 4)) N) := s1
  have bxP1 : w1.heap[w.heap.size]? = some (.cells #[.int .i64 3, .slice pa ps.length pc, .slice ra rs.length rc, .slice fa fs.length fc] 99 (0, 0)) := t1.other hbx hnP (NoT.of hbx (by decide))
  have fP0 := cell_of bxP1 0
  have fP1 := cell_of bxP1 1
  have fP2 := cell_of bxP1 2
  have fP3 := cell_of bxP1 3
  simp at fP0 fP1 fP2 fP3
  clear t1 s1 T0 S0 hbx
  obtain ⟨o1, e1, l1, h11, h21, h31, h41⟩ := S1.out.ex
  obtain ⟨oa1, oc1, rfl⟩ := row_one h21
  have c01 := cell_of h11 0
  simp at c01
  have R1 : Hid (w1.ownsRow B 5 1 (.slice oa1 l1.length oc1) l1.length (U8 l1)) := h21
  have O1 : Hid (w1.heap[b]? = some (dob (.slice oa1 l1.length oc1) e1)) := h11
  have E1 : Hid (StE (thenW st (needW true 4)) l1 e1) := h41
  have hlb1 : b < B := S1.out.lt
  have hBl1 : B ≤ w1.heap.size := S1.out.le
  clear h11 h21 h41
  go_wp2_with (
    at_builtin
    refine wp_appG (w := (w1.alloc (.cells #[.int .u8 94] 5))) (v := .slice oa1 l1.length oc1) (u := .slice (some ⟨w1.heap.size, 0, none⟩) 1 1) (r := [94]) rfl _ _ rfl rfl rfl (World.ownsRow.alloc R1.out _) (by simp; omega) (reads_new _ _ _) (by simp; omega) ?_
    intro v2 x2 ho2 hg2
    obtain ⟨a2, cc2, hv2⟩ := row_one ho2
    rw [List.length_append] at hv2
    subst hv2
    have A2 := dw_app (b := b) (B := B) (w := (w1.alloc (.cells #[.int .u8 94] 5))) (st := thenW st (needW true 4)) (N := N) (r := [94]) (heap_alloc O1.out _) (World.ownsRow.alloc R1.out _) h31 E1.out hlb1 (by simp; omega) ho2 hg2
    have q2 := cell_of A2.1 0
    have z2 := free_of A2.1 0
    simp at q2
    have HA2 : Hid (WT b B (w1.alloc (.cells #[.int .u8 94] 5)) (x2.setCell ⟨b, 0, none⟩ (.slice a2 (l1.length + [(94 : Int)].length) cc2)) ∧ DW b B (x2.setCell ⟨b, 0, none⟩ (.slice a2 (l1.length + [(94 : Int)].length) cc2)) (thenW (thenW st (needW true 4)) (.ok [94])) (N + [(94 : Int)].length)) := A2.2
    have tt2 := A2.2.1
    have bxP2 : x2.heap[w.heap.size]? = some (.cells #[.int .i64 3, .slice pa ps.length pc, .slice ra rs.length rc, .slice fa fs.length fc] 99 (0, 0)) := (wt_grown (b := b) (World.ownsRow.alloc R1.out _) hg2).other (heap_alloc bxP1 _) hnP (NoT.of (heap_alloc bxP1 _) (by decide))
    have gP02 := cell_of bxP2 0
    have gP12 := cell_of bxP2 1
    have gP22 := cell_of bxP2 2
    have gP32 := cell_of bxP2 3
    simp at gP02 gP12 gP22 gP32
    clear A2 hg2 ho2 tt2 bxP1)
  have T2 : Hid (WT b B w (x2.setCell ⟨b, 0, none⟩ (.slice a2 (l1.length + 1) cc2))) := (T1.out.trans (WT.of_grew ((Grew.refl _).alloc _))).trans HA2.out.1
  have S2 : Hid (DW b B (x2.setCell ⟨b, 0, none⟩ (.slice a2 (l1.length + 1) cc2)) (thenW (thenW st (needW true 4)) (.ok [94])) (N + 1)) := HA2.out.2
  clear HA2 T1 S1 c01 R1 O1 E1 hlb1 hBl1 h31
  have bxs := heap_other bxP2 (p := ⟨b, 0, none⟩) hnP (.slice a2 (l1.length + 1) cc2)
  have BX2 : Hid ((x2.setCell ⟨b, 0, none⟩ (.slice a2 (l1.length + 1) cc2)).heap[w.heap.size]? = some (.cells #[.int .i64 3, .slice pa ps.length pc, .slice ra rs.length rc, .slice fa fs.length fc] 99 (0, 0))) := bxs
  clear bxs bxP2 q2 z2 gP02 gP12 gP22 gP32
  go_loopw [4] (fun i_ wr => ∃ (i : Nat) (sti : Except Nat (List Int)), i_ = .int .i64 i ∧ i ≤ fs.length ∧ Hid (WT b B w wr) ∧ Hid (DW b B wr sti (N + 1 + 13 * i)) ∧ Hid (thenW sti (manyW fieldW (fs.drop i)) = R) ∧ Hid (wr.heap[w.heap.size]? = some (.cells #[.int .i64 3, .slice pa ps.length pc, .slice ra rs.length rc, .slice fa fs.length fc] 99 (0, 0)))) (fun i_ _ => fs.length - (intOf i_).toNat)
  case atStart => exact ⟨0, _, rfl, by omega, T2, S2, HR, BX2⟩
  case round =>
    obtain ⟨i, sti, rfl, hi, TR, SR, HE, BX⟩ := hrel
    have p0b := cell_of BX.out 0
    have p1b := cell_of BX.out 1
    have p2b := cell_of BX.out 2
    have p3b := cell_of BX.out 3
    simp at p0b p1b p2b p3b
    by_cases hlt : i < fs.length
    · exact absurd hlt (by have := HZ.out; omega)
    · have d3 : decide ((i : Int) < (fs.length : Int)) = false := by simp; omega
      have d4 : decide (i < fs.length) = false := by simpa using hlt
      have E : Hid (sti = R) := by show _ = _; rw [← HE.out, many_last (by omega)]
      clear HE
      go_wp2_with fail
      go_end0
      exact ⟨rfl, TR.out, by rw [← E.out]; exact SR.out.mono (by have : i ≤ fs.length := hi; omega)⟩
set_option maxRecDepth 100000 in
set_option maxHeartbeats 2000000 in
theorem dc3_yes_f {b B : Nat} {w w0 : World} {st : Except Nat (List Int)} {N : Nat} (h : DW b B w st N) (g0 : Grew w0 w) (hb0 : w0.heap.size ≤ b) (pa ra : Option Addr) (bb off : Nat) (pc rc fc : Nat) (ps rs : List VT) (fs : List FT) (hp : LV w0 (.slice pa ps.length pc) ps) (hr : LV w0 (.slice ra rs.length rc) rs) (hf : LF w0 (.slice (some ⟨bb, off, none⟩) fs.length fc) fs)
    (hk : okC ⟨3, ps, rs, fs⟩) (hzps : ps = []) (hzrs : rs = []) (h1fs : fs.length = 1) (hN : N + szC ⟨3, ps, rs, fs⟩ ≤ 17592186043000) :
    Calls Tryd.prog 79 #[.pointer (some ⟨b, 0, none⟩), .agg #[.int .i64 3, .slice pa ps.length pc, .slice ra rs.length rc, .slice (some ⟨bb, off, none⟩) fs.length fc]] w (DA b B w (thenW st (compW ⟨3, ps, rs, fs⟩)) (N + szC ⟨3, ps, rs, fs⟩)) := by
  have HV : Hid (LF w0 (.slice (some ⟨bb, off, none⟩) fs.length fc) fs) := hf
  have HK : Hid (∀ x ∈ fs, okV x.ty) := hk.2.2
  obtain ⟨_, _, _, hflc, hfm⟩ := hf.one
  have hfx : fs.length ≤ 9223372036854775807 := by unfold maxLen at hfm; omega
  have L : thenW (thenW (thenW st (needW true 4)) (.ok [94])) (manyW fieldW (fs.drop 0)) = thenW st (compW ⟨3, ps, rs, fs⟩) := by
    rw [thenW_yes, List.drop_zero, compW, if_pos (by simp [wholeC, hzps, hzrs, h1fs]), if_neg (by simp), if_neg (by simp), thenW_assoc]; obtain ⟨f, rfl⟩ := List.length_eq_one_iff.1 h1fs; rw [manyW, manyW, thenW_nil]; rfl
  obtain ⟨R, hR⟩ : ∃ R, R = thenW st (compW ⟨3, ps, rs, fs⟩) := ⟨_, rfl⟩
  rw [← hR] at L ⊢
  have HR : Hid (thenW (thenW (thenW st (needW true 4)) (.ok [94])) (manyW fieldW (fs.drop 0)) = R) := L
  clear hR L
  have dzps : ((ps.length : Int) == 0) = true := by rw [hzps]; rfl
  clear hzps
  have dzrs : ((rs.length : Int) == 0) = true := by rw [hzrs]; rfl
  clear hzrs
  have d1fs : ((fs.length : Int) == 1) = true := by rw [h1fs]; rfl
  clear h1fs
  clear hp hr hf hk hflc hfm
  unfold szC at hN ⊢
  simp only at hN ⊢
  have S0 : Hid (DW b B (w.alloc (.cells #[.int .i64 3, .slice pa ps.length pc, .slice ra rs.length rc, .slice (some ⟨bb, off, none⟩) fs.length fc] 99)) st N) := h.grew ((Grew.refl w).alloc _)
  have T0 : Hid (WT b B w (w.alloc (.cells #[.int .i64 3, .slice pa ps.length pc, .slice ra rs.length rc, .slice (some ⟨bb, off, none⟩) fs.length fc] 99))) := WT.of_grew ((Grew.refl w).alloc _)
  have hbx : (w.alloc (.cells #[.int .i64 3, .slice pa ps.length pc, .slice ra rs.length rc, .slice (some ⟨bb, off, none⟩) fs.length fc] 99)).heap[w.heap.size]? = some (.cells #[.int .i64 3, .slice pa ps.length pc, .slice ra rs.length rc, .slice (some ⟨bb, off, none⟩) fs.length fc] 99 (0, 0)) := heap_alloc_last w _
  have hb : b < w.heap.size := h.blt
  have hblt : b < B := h.lt
  have hnP : w.heap.size ≠ b := by omega
  have G0 : Hid (Grew w0 w) := g0
  clear h g0
  go_enter Tryd.func79, Tryd.ntmps79
  go_wp2_with fail
  refine (must_any S0.out true 4 (by decide)).mono ?_
  rintro en w1 ⟨rfl, t1, s1⟩
  have T1 : Hid (WT b B w w1) := T0.out.trans t1
  have S1 : Hid (DW b B w1 (thenW st (needW true 4)) N) := s1
  have bxP1 : w1.heap[w.heap.size]? = some (.cells #[.int .i64 3, .slice pa ps.length pc, .slice ra rs.length rc, .slice (some ⟨bb, off, none⟩) fs.length fc] 99 (0, 0)) := t1.other hbx hnP (NoT.of hbx (by decide))
  have fP0 := cell_of bxP1 0
  have fP1 := cell_of bxP1 1
  have fP2 := cell_of bxP1 2
  have fP3 := cell_of bxP1 3
  simp at fP0 fP1 fP2 fP3
  clear t1 s1 T0 S0 hbx
  obtain ⟨o1, e1, l1, h11, h21, h31, h41⟩ := S1.out.ex
  obtain ⟨oa1, oc1, rfl⟩ := row_one h21
  have c01 := cell_of h11 0
  simp at c01
  have R1 : Hid (w1.ownsRow B 5 1 (.slice oa1 l1.length oc1) l1.length (U8 l1)) := h21
  have O1 : Hid (w1.heap[b]? = some (dob (.slice oa1 l1.length oc1) e1)) := h11
  have E1 : Hid (StE (thenW st (needW true 4)) l1 e1) := h41
  have hlb1 : b < B := S1.out.lt
  have hBl1 : B ≤ w1.heap.size := S1.out.le
  clear h11 h21 h41
  go_wp2_with (
    at_builtin
    refine wp_appG (w := (w1.alloc (.cells #[.int .u8 94] 5))) (v := .slice oa1 l1.length oc1) (u := .slice (some ⟨w1.heap.size, 0, none⟩) 1 1) (r := [94]) rfl _ _ rfl rfl rfl (World.ownsRow.alloc R1.out _) (by simp; omega) (reads_new _ _ _) (by simp; omega) ?_
    intro v2 x2 ho2 hg2
    obtain ⟨a2, cc2, hv2⟩ := row_one ho2
    rw [List.length_append] at hv2
    subst hv2
    have A2 := dw_app (b := b) (B := B) (w := (w1.alloc (.cells #[.int .u8 94] 5))) (st := thenW st (needW true 4)) (N := N) (r := [94]) (heap_alloc O1.out _) (World.ownsRow.alloc R1.out _) h31 E1.out hlb1 (by simp; omega) ho2 hg2
    have q2 := cell_of A2.1 0
    have z2 := free_of A2.1 0
    simp at q2
    have HA2 : Hid (WT b B (w1.alloc (.cells #[.int .u8 94] 5)) (x2.setCell ⟨b, 0, none⟩ (.slice a2 (l1.length + [(94 : Int)].length) cc2)) ∧ DW b B (x2.setCell ⟨b, 0, none⟩ (.slice a2 (l1.length + [(94 : Int)].length) cc2)) (thenW (thenW st (needW true 4)) (.ok [94])) (N + [(94 : Int)].length)) := A2.2
    have tt2 := A2.2.1
    have bxP2 : x2.heap[w.heap.size]? = some (.cells #[.int .i64 3, .slice pa ps.length pc, .slice ra rs.length rc, .slice (some ⟨bb, off, none⟩) fs.length fc] 99 (0, 0)) := (wt_grown (b := b) (World.ownsRow.alloc R1.out _) hg2).other (heap_alloc bxP1 _) hnP (NoT.of (heap_alloc bxP1 _) (by decide))
    have gP02 := cell_of bxP2 0
    have gP12 := cell_of bxP2 1
    have gP22 := cell_of bxP2 2
    have gP32 := cell_of bxP2 3
    simp at gP02 gP12 gP22 gP32
    clear A2 hg2 ho2 tt2 bxP1)
  have T2 : Hid (WT b B w (x2.setCell ⟨b, 0, none⟩ (.slice a2 (l1.length + 1) cc2))) := (T1.out.trans (WT.of_grew ((Grew.refl _).alloc _))).trans HA2.out.1
  have S2 : Hid (DW b B (x2.setCell ⟨b, 0, none⟩ (.slice a2 (l1.length + 1) cc2)) (thenW (thenW st (needW true 4)) (.ok [94])) (N + 1)) := HA2.out.2
  clear HA2 T1 S1 c01 R1 O1 E1 hlb1 hBl1 h31
  have bxs := heap_other bxP2 (p := ⟨b, 0, none⟩) hnP (.slice a2 (l1.length + 1) cc2)
  have BX2 : Hid ((x2.setCell ⟨b, 0, none⟩ (.slice a2 (l1.length + 1) cc2)).heap[w.heap.size]? = some (.cells #[.int .i64 3, .slice pa ps.length pc, .slice ra rs.length rc, .slice (some ⟨bb, off, none⟩) fs.length fc] 99 (0, 0))) := bxs
  clear bxs bxP2 q2 z2 gP02 gP12 gP22 gP32
  go_loopw [4] (fun i_ wr => ∃ (i : Nat) (sti : Except Nat (List Int)), i_ = .int .i64 i ∧ i ≤ fs.length ∧ Hid (WT b B w wr) ∧ Hid (DW b B wr sti (N + 1 + 13 * i)) ∧ Hid (thenW sti (manyW fieldW (fs.drop i)) = R) ∧ Hid (wr.heap[w.heap.size]? = some (.cells #[.int .i64 3, .slice pa ps.length pc, .slice ra rs.length rc, .slice (some ⟨bb, off, none⟩) fs.length fc] 99 (0, 0)))) (fun i_ _ => fs.length - (intOf i_).toNat)
  case atStart => exact ⟨0, _, rfl, by omega, T2, S2, HR, BX2⟩
  case round =>
    obtain ⟨i, sti, rfl, hi, TR, SR, HE, BX⟩ := hrel
    have p0b := cell_of BX.out 0
    have p1b := cell_of BX.out 1
    have p2b := cell_of BX.out 2
    have p3b := cell_of BX.out 3
    simp at p0b p1b p2b p3b
    by_cases hlt : i < fs.length
    · obtain ⟨x, hx⟩ : ∃ x, fs[i]? = some x := ⟨_, List.getElem?_eq_getElem hlt⟩
      have hxok := HK.out x (List.mem_of_getElem? hx)
      have d3 : decide ((i : Int) < (fs.length : Int)) = true := by simp; omega
      have d4 : decide (i < fs.length) = true := by simpa using hlt
      have GR : Grew w0 wr := TR.out.grew0 G0.out hb0 (by omega)
      obtain ⟨bb', off', ea, _, hc⟩ := (HV.out.grew GR).get (by omega)
      have hce := hc i x hx
      have ea2 : bb' = bb ∧ off' = off := by simp at ea; exact ⟨ea.1.symm, ea.2.symm⟩
      rw [ea2.1, ea2.2] at hce
      clear ea ea2
      have HE2 : Hid (thenW (thenW sti (fieldW x)) (manyW fieldW (fs.drop (i + 1))) = R) := by show _ = _; rw [← HE.out, many_next hx]
      obtain ⟨⟨vn, vb, vh⟩, vm⟩ := x
      obtain ⟨⟨p0, p1, p2⟩, p3⟩ := hce
      simp only at p0 p1 p2 p3
      have C2 : ∀ (W : World), DW b B W sti (N + 1 + 13 * i) → Calls Tryd.prog 108 #[.pointer (some ⟨b, 0, none⟩), .agg #[.int .i64 vn, .bool vb, .int .i64 vh, .bool vm]] W (DA b B W (thenW sti (fieldW ⟨⟨vn, vb, vh⟩, vm⟩)) (N + 1 + 13 * i + 13)) := fun W u => dwField_any u ⟨⟨vn, vb, vh⟩, vm⟩ hxok (by omega)
      generalize fieldW ⟨⟨vn, vb, vh⟩, vm⟩ = Z at *
      clear hc hx GR HE
      go_wp2_with fail
      refine (C2 _ SR.out).mono ?_
      rintro en w2 ⟨rfl, t2, s2⟩
      have T2 : Hid (WT b B w w2) := TR.out.trans t2
      have S2 : Hid (DW b B w2 (thenW sti Z) (N + 1 + 13 * i + 13)) := s2
      have BX2 : Hid (w2.heap[w.heap.size]? = some (.cells #[.int .i64 3, .slice pa ps.length pc, .slice ra rs.length rc, .slice (some ⟨bb, off, none⟩) fs.length fc] 99 (0, 0))) := t2.other BX.out hnP (NoT.of BX.out (by decide))
      clear BX p0b p1b p2b p3b
      clear t2 s2 C2 TR SR
      go_wp2_with fail
      go_roundw
      case rel => exact ⟨i + 1, _, by go_num, by omega, T2, S2.out.mono (by omega), HE2, BX2⟩
      case measure => simp [intOf]; omega
    · have d3 : decide ((i : Int) < (fs.length : Int)) = false := by simp; omega
      have d4 : decide (i < fs.length) = false := by simpa using hlt
      have E : Hid (sti = R) := by show _ = _; rw [← HE.out, many_last (by omega)]
      clear HE
      go_wp2_with fail
      go_end0
      exact ⟨rfl, TR.out, by rw [← E.out]; exact SR.out.mono (by have : i ≤ fs.length := hi; omega)⟩
set_option maxRecDepth 100000 in
set_option maxHeartbeats 2000000 in
theorem dc3_noP_e {b B : Nat} {w w0 : World} {st : Except Nat (List Int)} {N : Nat} (h : DW b B w st N) (g0 : Grew w0 w) (hb0 : w0.heap.size ≤ b) (pa ra fa : Option Addr) (pc rc fc : Nat) (ps rs : List VT) (fs : List FT) (hp : LV w0 (.slice pa ps.length pc) ps) (hr : LV w0 (.slice ra rs.length rc) rs) (hf : LF w0 (.slice fa fs.length fc) fs)
    (hk : okC ⟨3, ps, rs, fs⟩) (hz0 : fs.length = 0) (hzps : ps ≠ []) (hN : N + szC ⟨3, ps, rs, fs⟩ ≤ 17592186043000) :
    Calls Tryd.prog 79 #[.pointer (some ⟨b, 0, none⟩), .agg #[.int .i64 3, .slice pa ps.length pc, .slice ra rs.length rc, .slice fa fs.length fc]] w (DA b B w (thenW st (compW ⟨3, ps, rs, fs⟩)) (N + szC ⟨3, ps, rs, fs⟩)) := by
  have HV : Hid (LF w0 (.slice fa fs.length fc) fs) := hf
  have HK : Hid (∀ x ∈ fs, okV x.ty) := hk.2.2
  obtain ⟨_, _, _, hflc, hfm⟩ := hf.one
  have hfx : fs.length ≤ 9223372036854775807 := by unfold maxLen at hfm; omega
  have HZ : Hid (fs.length = 0) := hz0
  clear hz0
  have L : thenW (thenW (thenW st (needW false 4)) (.ok [94])) (manyW fieldW (fs.drop 0)) = thenW st (compW ⟨3, ps, rs, fs⟩) := by
    rw [thenW_no, thenW_err, compW, if_neg (by simp [wholeC, hzps])]
  obtain ⟨R, hR⟩ : ∃ R, R = thenW st (compW ⟨3, ps, rs, fs⟩) := ⟨_, rfl⟩
  rw [← hR] at L ⊢
  have HR : Hid (thenW (thenW (thenW st (needW false 4)) (.ok [94])) (manyW fieldW (fs.drop 0)) = R) := L
  clear hR L
  have hlps : ps.length ≠ 0 := fun hh => hzps (List.eq_nil_of_length_eq_zero hh)
  have dzps : ((ps.length : Int) == 0) = false := by simp; exact hzps
  clear hzps hlps
  clear hp hr hf hk hflc hfm
  unfold szC at hN ⊢
  simp only at hN ⊢
  have S0 : Hid (DW b B (w.alloc (.cells #[.int .i64 3, .slice pa ps.length pc, .slice ra rs.length rc, .slice fa fs.length fc] 99)) st N) := h.grew ((Grew.refl w).alloc _)
  have T0 : Hid (WT b B w (w.alloc (.cells #[.int .i64 3, .slice pa ps.length pc, .slice ra rs.length rc, .slice fa fs.length fc] 99))) := WT.of_grew ((Grew.refl w).alloc _)
  have hbx : (w.alloc (.cells #[.int .i64 3, .slice pa ps.length pc, .slice ra rs.length rc, .slice fa fs.length fc] 99)).heap[w.heap.size]? = some (.cells #[.int .i64 3, .slice pa ps.length pc, .slice ra rs.length rc, .slice fa fs.length fc] 99 (0, 0)) := heap_alloc_last w _
  have hb : b < w.heap.size := h.blt
  have hblt : b < B := h.lt
  have hnP : w.heap.size ≠ b := by omega
  have G0 : Hid (Grew w0 w) := g0
  clear h g0
  go_enter Tryd.func79, Tryd.ntmps79
  go_wp2_with fail
  refine (must_any S0.out false 4 (by decide)).mono ?_
  rintro en w1 ⟨rfl, t1, s1⟩
  have T1 : Hid (WT b B w w1) := T0.out.trans t1
  have S1 : Hid (DW b B w1 (thenW st (needW false 4)) N) := s1
  have bxP1 : w1.heap[w.heap.size]? = some (.cells #[.int .i64 3, .slice pa ps.length pc, .slice ra rs.length rc, .slice fa fs.length fc] 99 (0, 0)) := t1.other hbx hnP (NoT.of hbx (by decide))
  have fP0 := cell_of bxP1 0
  have fP1 := cell_of bxP1 1
  have fP2 := cell_of bxP1 2
  have fP3 := cell_of bxP1 3
  simp at fP0 fP1 fP2 fP3
  clear t1 s1 T0 S0 hbx
  obtain ⟨o1, e1, l1, h11, h21, h31, h41⟩ := S1.out.ex
  obtain ⟨oa1, oc1, rfl⟩ := row_one h21
  have c01 := cell_of h11 0
  simp at c01
  have R1 : Hid (w1.ownsRow B 5 1 (.slice oa1 l1.length oc1) l1.length (U8 l1)) := h21
  have O1 : Hid (w1.heap[b]? = some (dob (.slice oa1 l1.length oc1) e1)) := h11
  have E1 : Hid (StE (thenW st (needW false 4)) l1 e1) := h41
  have hlb1 : b < B := S1.out.lt
  have hBl1 : B ≤ w1.heap.size := S1.out.le
  clear h11 h21 h41
  go_wp2_with (
    at_builtin
    refine wp_appG (w := (w1.alloc (.cells #[.int .u8 94] 5))) (v := .slice oa1 l1.length oc1) (u := .slice (some ⟨w1.heap.size, 0, none⟩) 1 1) (r := [94]) rfl _ _ rfl rfl rfl (World.ownsRow.alloc R1.out _) (by simp; omega) (reads_new _ _ _) (by simp; omega) ?_
    intro v2 x2 ho2 hg2
    obtain ⟨a2, cc2, hv2⟩ := row_one ho2
    rw [List.length_append] at hv2
    subst hv2
    have A2 := dw_app (b := b) (B := B) (w := (w1.alloc (.cells #[.int .u8 94] 5))) (st := thenW st (needW false 4)) (N := N) (r := [94]) (heap_alloc O1.out _) (World.ownsRow.alloc R1.out _) h31 E1.out hlb1 (by simp; omega) ho2 hg2
    have q2 := cell_of A2.1 0
    have z2 := free_of A2.1 0
    simp at q2
    have HA2 : Hid (WT b B (w1.alloc (.cells #[.int .u8 94] 5)) (x2.setCell ⟨b, 0, none⟩ (.slice a2 (l1.length + [(94 : Int)].length) cc2)) ∧ DW b B (x2.setCell ⟨b, 0, none⟩ (.slice a2 (l1.length + [(94 : Int)].length) cc2)) (thenW (thenW st (needW false 4)) (.ok [94])) (N + [(94 : Int)].length)) := A2.2
    have tt2 := A2.2.1
    have bxP2 : x2.heap[w.heap.size]? = some (.cells #[.int .i64 3, .slice pa ps.length pc, .slice ra rs.length rc, .slice fa fs.length fc] 99 (0, 0)) := (wt_grown (b := b) (World.ownsRow.alloc R1.out _) hg2).other (heap_alloc bxP1 _) hnP (NoT.of (heap_alloc bxP1 _) (by decide))
    have gP02 := cell_of bxP2 0
    have gP12 := cell_of bxP2 1
    have gP22 := cell_of bxP2 2
    have gP32 := cell_of bxP2 3
    simp at gP02 gP12 gP22 gP32
    clear A2 hg2 ho2 tt2 bxP1)
  have T2 : Hid (WT b B w (x2.setCell ⟨b, 0, none⟩ (.slice a2 (l1.length + 1) cc2))) := (T1.out.trans (WT.of_grew ((Grew.refl _).alloc _))).trans HA2.out.1
  have S2 : Hid (DW b B (x2.setCell ⟨b, 0, none⟩ (.slice a2 (l1.length + 1) cc2)) (thenW (thenW st (needW false 4)) (.ok [94])) (N + 1)) := HA2.out.2
  clear HA2 T1 S1 c01 R1 O1 E1 hlb1 hBl1 h31
  have bxs := heap_other bxP2 (p := ⟨b, 0, none⟩) hnP (.slice a2 (l1.length + 1) cc2)
  have BX2 : Hid ((x2.setCell ⟨b, 0, none⟩ (.slice a2 (l1.length + 1) cc2)).heap[w.heap.size]? = some (.cells #[.int .i64 3, .slice pa ps.length pc, .slice ra rs.length rc, .slice fa fs.length fc] 99 (0, 0))) := bxs
  clear bxs bxP2 q2 z2 gP02 gP12 gP22 gP32
  go_loopw [4] (fun i_ wr => ∃ (i : Nat) (sti : Except Nat (List Int)), i_ = .int .i64 i ∧ i ≤ fs.length ∧ Hid (WT b B w wr) ∧ Hid (DW b B wr sti (N + 1 + 13 * i)) ∧ Hid (thenW sti (manyW fieldW (fs.drop i)) = R) ∧ Hid (wr.heap[w.heap.size]? = some (.cells #[.int .i64 3, .slice pa ps.length pc, .slice ra rs.length rc, .slice fa fs.length fc] 99 (0, 0)))) (fun i_ _ => fs.length - (intOf i_).toNat)
  case atStart => exact ⟨0, _, rfl, by omega, T2, S2, HR, BX2⟩
  case round =>
    obtain ⟨i, sti, rfl, hi, TR, SR, HE, BX⟩ := hrel
    have p0b := cell_of BX.out 0
    have p1b := cell_of BX.out 1
    have p2b := cell_of BX.out 2
    have p3b := cell_of BX.out 3
    simp at p0b p1b p2b p3b
    by_cases hlt : i < fs.length
    · exact absurd hlt (by have := HZ.out; omega)
    · have d3 : decide ((i : Int) < (fs.length : Int)) = false := by simp; omega
      have d4 : decide (i < fs.length) = false := by simpa using hlt
      have E : Hid (sti = R) := by show _ = _; rw [← HE.out, many_last (by omega)]
      clear HE
      go_wp2_with fail
      go_end0
      exact ⟨rfl, TR.out, by rw [← E.out]; exact SR.out.mono (by have : i ≤ fs.length := hi; omega)⟩
set_option maxRecDepth 100000 in
set_option maxHeartbeats 2000000 in
theorem dc3_noP_f {b B : Nat} {w w0 : World} {st : Except Nat (List Int)} {N : Nat} (h : DW b B w st N) (g0 : Grew w0 w) (hb0 : w0.heap.size ≤ b) (pa ra : Option Addr) (bb off : Nat) (pc rc fc : Nat) (ps rs : List VT) (fs : List FT) (hp : LV w0 (.slice pa ps.length pc) ps) (hr : LV w0 (.slice ra rs.length rc) rs) (hf : LF w0 (.slice (some ⟨bb, off, none⟩) fs.length fc) fs)
    (hk : okC ⟨3, ps, rs, fs⟩) (hzps : ps ≠ []) (hN : N + szC ⟨3, ps, rs, fs⟩ ≤ 17592186043000) :
    Calls Tryd.prog 79 #[.pointer (some ⟨b, 0, none⟩), .agg #[.int .i64 3, .slice pa ps.length pc, .slice ra rs.length rc, .slice (some ⟨bb, off, none⟩) fs.length fc]] w (DA b B w (thenW st (compW ⟨3, ps, rs, fs⟩)) (N + szC ⟨3, ps, rs, fs⟩)) := by
  have HV : Hid (LF w0 (.slice (some ⟨bb, off, none⟩) fs.length fc) fs) := hf
  have HK : Hid (∀ x ∈ fs, okV x.ty) := hk.2.2
  obtain ⟨_, _, _, hflc, hfm⟩ := hf.one
  have hfx : fs.length ≤ 9223372036854775807 := by unfold maxLen at hfm; omega
  have L : thenW (thenW (thenW st (needW false 4)) (.ok [94])) (manyW fieldW (fs.drop 0)) = thenW st (compW ⟨3, ps, rs, fs⟩) := by
    rw [thenW_no, thenW_err, compW, if_neg (by simp [wholeC, hzps])]
  obtain ⟨R, hR⟩ : ∃ R, R = thenW st (compW ⟨3, ps, rs, fs⟩) := ⟨_, rfl⟩
  rw [← hR] at L ⊢
  have HR : Hid (thenW (thenW (thenW st (needW false 4)) (.ok [94])) (manyW fieldW (fs.drop 0)) = R) := L
  clear hR L
  have hlps : ps.length ≠ 0 := fun hh => hzps (List.eq_nil_of_length_eq_zero hh)
  have dzps : ((ps.length : Int) == 0) = false := by simp; exact hzps
  clear hzps hlps
  clear hp hr hf hk hflc hfm
  unfold szC at hN ⊢
  simp only at hN ⊢
  have S0 : Hid (DW b B (w.alloc (.cells #[.int .i64 3, .slice pa ps.length pc, .slice ra rs.length rc, .slice (some ⟨bb, off, none⟩) fs.length fc] 99)) st N) := h.grew ((Grew.refl w).alloc _)
  have T0 : Hid (WT b B w (w.alloc (.cells #[.int .i64 3, .slice pa ps.length pc, .slice ra rs.length rc, .slice (some ⟨bb, off, none⟩) fs.length fc] 99))) := WT.of_grew ((Grew.refl w).alloc _)
  have hbx : (w.alloc (.cells #[.int .i64 3, .slice pa ps.length pc, .slice ra rs.length rc, .slice (some ⟨bb, off, none⟩) fs.length fc] 99)).heap[w.heap.size]? = some (.cells #[.int .i64 3, .slice pa ps.length pc, .slice ra rs.length rc, .slice (some ⟨bb, off, none⟩) fs.length fc] 99 (0, 0)) := heap_alloc_last w _
  have hb : b < w.heap.size := h.blt
  have hblt : b < B := h.lt
  have hnP : w.heap.size ≠ b := by omega
  have G0 : Hid (Grew w0 w) := g0
  clear h g0
  go_enter Tryd.func79, Tryd.ntmps79
  go_wp2_with fail
  refine (must_any S0.out false 4 (by decide)).mono ?_
  rintro en w1 ⟨rfl, t1, s1⟩
  have T1 : Hid (WT b B w w1) := T0.out.trans t1
  have S1 : Hid (DW b B w1 (thenW st (needW false 4)) N) := s1
  have bxP1 : w1.heap[w.heap.size]? = some (.cells #[.int .i64 3, .slice pa ps.length pc, .slice ra rs.length rc, .slice (some ⟨bb, off, none⟩) fs.length fc] 99 (0, 0)) := t1.other hbx hnP (NoT.of hbx (by decide))
  have fP0 := cell_of bxP1 0
  have fP1 := cell_of bxP1 1
  have fP2 := cell_of bxP1 2
  have fP3 := cell_of bxP1 3
  simp at fP0 fP1 fP2 fP3
  clear t1 s1 T0 S0 hbx
  obtain ⟨o1, e1, l1, h11, h21, h31, h41⟩ := S1.out.ex
  obtain ⟨oa1, oc1, rfl⟩ := row_one h21
  have c01 := cell_of h11 0
  simp at c01
  have R1 : Hid (w1.ownsRow B 5 1 (.slice oa1 l1.length oc1) l1.length (U8 l1)) := h21
  have O1 : Hid (w1.heap[b]? = some (dob (.slice oa1 l1.length oc1) e1)) := h11
  have E1 : Hid (StE (thenW st (needW false 4)) l1 e1) := h41
  have hlb1 : b < B := S1.out.lt
  have hBl1 : B ≤ w1.heap.size := S1.out.le
  clear h11 h21 h41
  go_wp2_with (
    at_builtin
    refine wp_appG (w := (w1.alloc (.cells #[.int .u8 94] 5))) (v := .slice oa1 l1.length oc1) (u := .slice (some ⟨w1.heap.size, 0, none⟩) 1 1) (r := [94]) rfl _ _ rfl rfl rfl (World.ownsRow.alloc R1.out _) (by simp; omega) (reads_new _ _ _) (by simp; omega) ?_
    intro v2 x2 ho2 hg2
    obtain ⟨a2, cc2, hv2⟩ := row_one ho2
    rw [List.length_append] at hv2
    subst hv2
    have A2 := dw_app (b := b) (B := B) (w := (w1.alloc (.cells #[.int .u8 94] 5))) (st := thenW st (needW false 4)) (N := N) (r := [94]) (heap_alloc O1.out _) (World.ownsRow.alloc R1.out _) h31 E1.out hlb1 (by simp; omega) ho2 hg2
    have q2 := cell_of A2.1 0
    have z2 := free_of A2.1 0
    simp at q2
    have HA2 : Hid (WT b B (w1.alloc (.cells #[.int .u8 94] 5)) (x2.setCell ⟨b, 0, none⟩ (.slice a2 (l1.length + [(94 : Int)].length) cc2)) ∧ DW b B (x2.setCell ⟨b, 0, none⟩ (.slice a2 (l1.length + [(94 : Int)].length) cc2)) (thenW (thenW st (needW false 4)) (.ok [94])) (N + [(94 : Int)].length)) := A2.2
    have tt2 := A2.2.1
    have bxP2 : x2.heap[w.heap.size]? = some (.cells #[.int .i64 3, .slice pa ps.length pc, .slice ra rs.length rc, .slice (some ⟨bb, off, none⟩) fs.length fc] 99 (0, 0)) := (wt_grown (b := b) (World.ownsRow.alloc R1.out _) hg2).other (heap_alloc bxP1 _) hnP (NoT.of (heap_alloc bxP1 _) (by decide))
    have gP02 := cell_of bxP2 0
    have gP12 := cell_of bxP2 1
    have gP22 := cell_of bxP2 2
    have gP32 := cell_of bxP2 3
    simp at gP02 gP12 gP22 gP32
    clear A2 hg2 ho2 tt2 bxP1)
  have T2 : Hid (WT b B w (x2.setCell ⟨b, 0, none⟩ (.slice a2 (l1.length + 1) cc2))) := (T1.out.trans (WT.of_grew ((Grew.refl _).alloc _))).trans HA2.out.1
  have S2 : Hid (DW b B (x2.setCell ⟨b, 0, none⟩ (.slice a2 (l1.length + 1) cc2)) (thenW (thenW st (needW false 4)) (.ok [94])) (N + 1)) := HA2.out.2
  clear HA2 T1 S1 c01 R1 O1 E1 hlb1 hBl1 h31
  have bxs := heap_other bxP2 (p := ⟨b, 0, none⟩) hnP (.slice a2 (l1.length + 1) cc2)
  have BX2 : Hid ((x2.setCell ⟨b, 0, none⟩ (.slice a2 (l1.length + 1) cc2)).heap[w.heap.size]? = some (.cells #[.int .i64 3, .slice pa ps.length pc, .slice ra rs.length rc, .slice (some ⟨bb, off, none⟩) fs.length fc] 99 (0, 0))) := bxs
  clear bxs bxP2 q2 z2 gP02 gP12 gP22 gP32
  go_loopw [4] (fun i_ wr => ∃ (i : Nat) (sti : Except Nat (List Int)), i_ = .int .i64 i ∧ i ≤ fs.length ∧ Hid (WT b B w wr) ∧ Hid (DW b B wr sti (N + 1 + 13 * i)) ∧ Hid (thenW sti (manyW fieldW (fs.drop i)) = R) ∧ Hid (wr.heap[w.heap.size]? = some (.cells #[.int .i64 3, .slice pa ps.length pc, .slice ra rs.length rc, .slice (some ⟨bb, off, none⟩) fs.length fc] 99 (0, 0)))) (fun i_ _ => fs.length - (intOf i_).toNat)
  case atStart => exact ⟨0, _, rfl, by omega, T2, S2, HR, BX2⟩
  case round =>
    obtain ⟨i, sti, rfl, hi, TR, SR, HE, BX⟩ := hrel
    have p0b := cell_of BX.out 0
    have p1b := cell_of BX.out 1
    have p2b := cell_of BX.out 2
    have p3b := cell_of BX.out 3
    simp at p0b p1b p2b p3b
    by_cases hlt : i < fs.length
    · obtain ⟨x, hx⟩ : ∃ x, fs[i]? = some x := ⟨_, List.getElem?_eq_getElem hlt⟩
      have hxok := HK.out x (List.mem_of_getElem? hx)
      have d3 : decide ((i : Int) < (fs.length : Int)) = true := by simp; omega
      have d4 : decide (i < fs.length) = true := by simpa using hlt
      have GR : Grew w0 wr := TR.out.grew0 G0.out hb0 (by omega)
      obtain ⟨bb', off', ea, _, hc⟩ := (HV.out.grew GR).get (by omega)
      have hce := hc i x hx
      have ea2 : bb' = bb ∧ off' = off := by simp at ea; exact ⟨ea.1.symm, ea.2.symm⟩
      rw [ea2.1, ea2.2] at hce
      clear ea ea2
      have HE2 : Hid (thenW (thenW sti (fieldW x)) (manyW fieldW (fs.drop (i + 1))) = R) := by show _ = _; rw [← HE.out, many_next hx]
      obtain ⟨⟨vn, vb, vh⟩, vm⟩ := x
      obtain ⟨⟨p0, p1, p2⟩, p3⟩ := hce
      simp only at p0 p1 p2 p3
      have C2 : ∀ (W : World), DW b B W sti (N + 1 + 13 * i) → Calls Tryd.prog 108 #[.pointer (some ⟨b, 0, none⟩), .agg #[.int .i64 vn, .bool vb, .int .i64 vh, .bool vm]] W (DA b B W (thenW sti (fieldW ⟨⟨vn, vb, vh⟩, vm⟩)) (N + 1 + 13 * i + 13)) := fun W u => dwField_any u ⟨⟨vn, vb, vh⟩, vm⟩ hxok (by omega)
      generalize fieldW ⟨⟨vn, vb, vh⟩, vm⟩ = Z at *
      clear hc hx GR HE
      go_wp2_with fail
      refine (C2 _ SR.out).mono ?_
      rintro en w2 ⟨rfl, t2, s2⟩
      have T2 : Hid (WT b B w w2) := TR.out.trans t2
      have S2 : Hid (DW b B w2 (thenW sti Z) (N + 1 + 13 * i + 13)) := s2
      have BX2 : Hid (w2.heap[w.heap.size]? = some (.cells #[.int .i64 3, .slice pa ps.length pc, .slice ra rs.length rc, .slice (some ⟨bb, off, none⟩) fs.length fc] 99 (0, 0))) := t2.other BX.out hnP (NoT.of BX.out (by decide))
      clear BX p0b p1b p2b p3b
      clear t2 s2 C2 TR SR
      go_wp2_with fail
      go_roundw
      case rel => exact ⟨i + 1, _, by go_num, by omega, T2, S2.out.mono (by omega), HE2, BX2⟩
      case measure => simp [intOf]; omega
    · have d3 : decide ((i : Int) < (fs.length : Int)) = false := by simp; omega
      have d4 : decide (i < fs.length) = false := by simpa using hlt
      have E : Hid (sti = R) := by show _ = _; rw [← HE.out, many_last (by omega)]
      clear HE
      go_wp2_with fail
      go_end0
      exact ⟨rfl, TR.out, by rw [← E.out]; exact SR.out.mono (by have : i ≤ fs.length := hi; omega)⟩
set_option maxRecDepth 100000 in
set_option maxHeartbeats 2000000 in
theorem dc3_noR_e {b B : Nat} {w w0 : World} {st : Except Nat (List Int)} {N : Nat} (h : DW b B w st N) (g0 : Grew w0 w) (hb0 : w0.heap.size ≤ b) (pa ra fa : Option Addr) (pc rc fc : Nat) (ps rs : List VT) (fs : List FT) (hp : LV w0 (.slice pa ps.length pc) ps) (hr : LV w0 (.slice ra rs.length rc) rs) (hf : LF w0 (.slice fa fs.length fc) fs)
    (hk : okC ⟨3, ps, rs, fs⟩) (hz0 : fs.length = 0) (hzps : ps = []) (hzrs : rs ≠ []) (hN : N + szC ⟨3, ps, rs, fs⟩ ≤ 17592186043000) :
    Calls Tryd.prog 79 #[.pointer (some ⟨b, 0, none⟩), .agg #[.int .i64 3, .slice pa ps.length pc, .slice ra rs.length rc, .slice fa fs.length fc]] w (DA b B w (thenW st (compW ⟨3, ps, rs, fs⟩)) (N + szC ⟨3, ps, rs, fs⟩)) := by
  have HV : Hid (LF w0 (.slice fa fs.length fc) fs) := hf
  have HK : Hid (∀ x ∈ fs, okV x.ty) := hk.2.2
  obtain ⟨_, _, _, hflc, hfm⟩ := hf.one
  have hfx : fs.length ≤ 9223372036854775807 := by unfold maxLen at hfm; omega
  have HZ : Hid (fs.length = 0) := hz0
  clear hz0
  have L : thenW (thenW (thenW st (needW false 4)) (.ok [94])) (manyW fieldW (fs.drop 0)) = thenW st (compW ⟨3, ps, rs, fs⟩) := by
    rw [thenW_no, thenW_err, compW, if_neg (by simp [wholeC, hzrs])]
  obtain ⟨R, hR⟩ : ∃ R, R = thenW st (compW ⟨3, ps, rs, fs⟩) := ⟨_, rfl⟩
  rw [← hR] at L ⊢
  have HR : Hid (thenW (thenW (thenW st (needW false 4)) (.ok [94])) (manyW fieldW (fs.drop 0)) = R) := L
  clear hR L
  have dzps : ((ps.length : Int) == 0) = true := by rw [hzps]; rfl
  clear hzps
  have hlrs : rs.length ≠ 0 := fun hh => hzrs (List.eq_nil_of_length_eq_zero hh)
  have dzrs : ((rs.length : Int) == 0) = false := by simp; exact hzrs
  clear hzrs hlrs
  clear hp hr hf hk hflc hfm
  unfold szC at hN ⊢
  simp only at hN ⊢
  have S0 : Hid (DW b B (w.alloc (.cells #[.int .i64 3, .slice pa ps.length pc, .slice ra rs.length rc, .slice fa fs.length fc] 99)) st N) := h.grew ((Grew.refl w).alloc _)
  have T0 : Hid (WT b B w (w.alloc (.cells #[.int .i64 3, .slice pa ps.length pc, .slice ra rs.length rc, .slice fa fs.length fc] 99))) := WT.of_grew ((Grew.refl w).alloc _)
  have hbx : (w.alloc (.cells #[.int .i64 3, .slice pa ps.length pc, .slice ra rs.length rc, .slice fa fs.length fc] 99)).heap[w.heap.size]? = some (.cells #[.int .i64 3, .slice pa ps.length pc, .slice ra rs.length rc, .slice fa fs.length fc] 99 (0, 0)) := heap_alloc_last w _
  have hb : b < w.heap.size := h.blt
  have hblt : b < B := h.lt
  have hnP : w.heap.size ≠ b := by omega
  have G0 : Hid (Grew w0 w) := g0
  clear h g0
  go_enter Tryd.func79, Tryd.ntmps79
  go_wp2_with fail
  refine (must_any S0.out false 4 (by decide)).mono ?_
  rintro en w1 ⟨rfl, t1, s1⟩
  have T1 : Hid (WT b B w w1) := T0.out.trans t1
  have S1 : Hid (DW b B w1 (thenW st (needW false 4)) N) := s1
  have bxP1 : w1.heap[w.heap.size]? = some (.cells #[.int .i64 3, .slice pa ps.length pc, .slice ra rs.length rc, .slice fa fs.length fc] 99 (0, 0)) := t1.other hbx hnP (NoT.of hbx (by decide))
  have fP0 := cell_of bxP1 0
  have fP1 := cell_of bxP1 1
  have fP2 := cell_of bxP1 2
  have fP3 := cell_of bxP1 3
  simp at fP0 fP1 fP2 fP3
  clear t1 s1 T0 S0 hbx
  obtain ⟨o1, e1, l1, h11, h21, h31, h41⟩ := S1.out.ex
  obtain ⟨oa1, oc1, rfl⟩ := row_one h21
  have c01 := cell_of h11 0
  simp at c01
  have R1 : Hid (w1.ownsRow B 5 1 (.slice oa1 l1.length oc1) l1.length (U8 l1)) := h21
  have O1 : Hid (w1.heap[b]? = some (dob (.slice oa1 l1.length oc1) e1)) := h11
  have E1 : Hid (StE (thenW st (needW false 4)) l1 e1) := h41
  have hlb1 : b < B := S1.out.lt
  have hBl1 : B ≤ w1.heap.size := S1.out.le
  clear h11 h21 h41
  go_wp2_with (
    at_builtin
    refine wp_appG (w := (w1.alloc (.cells #[.int .u8 94] 5))) (v := .slice oa1 l1.length oc1) (u := .slice (some ⟨w1.heap.size, 0, none⟩) 1 1) (r := [94]) rfl _ _ rfl rfl rfl (World.ownsRow.alloc R1.out _) (by simp; omega) (reads_new _ _ _) (by simp; omega) ?_
    intro v2 x2 ho2 hg2
    obtain ⟨a2, cc2, hv2⟩ := row_one ho2
    rw [List.length_append] at hv2
    subst hv2
    have A2 := dw_app (b := b) (B := B) (w := (w1.alloc (.cells #[.int .u8 94] 5))) (st := thenW st (needW false 4)) (N := N) (r := [94]) (heap_alloc O1.out _) (World.ownsRow.alloc R1.out _) h31 E1.out hlb1 (by simp; omega) ho2 hg2
    have q2 := cell_of A2.1 0
    have z2 := free_of A2.1 0
    simp at q2
    have HA2 : Hid (WT b B (w1.alloc (.cells #[.int .u8 94] 5)) (x2.setCell ⟨b, 0, none⟩ (.slice a2 (l1.length + [(94 : Int)].length) cc2)) ∧ DW b B (x2.setCell ⟨b, 0, none⟩ (.slice a2 (l1.length + [(94 : Int)].length) cc2)) (thenW (thenW st (needW false 4)) (.ok [94])) (N + [(94 : Int)].length)) := A2.2
    have tt2 := A2.2.1
    have bxP2 : x2.heap[w.heap.size]? = some (.cells #[.int .i64 3, .slice pa ps.length pc, .slice ra rs.length rc, .slice fa fs.length fc] 99 (0, 0)) := (wt_grown (b := b) (World.ownsRow.alloc R1.out _) hg2).other (heap_alloc bxP1 _) hnP (NoT.of (heap_alloc bxP1 _) (by decide))
    have gP02 := cell_of bxP2 0
    have gP12 := cell_of bxP2 1
    have gP22 := cell_of bxP2 2
    have gP32 := cell_of bxP2 3
    simp at gP02 gP12 gP22 gP32
    clear A2 hg2 ho2 tt2 bxP1)
  have T2 : Hid (WT b B w (x2.setCell ⟨b, 0, none⟩ (.slice a2 (l1.length + 1) cc2))) := (T1.out.trans (WT.of_grew ((Grew.refl _).alloc _))).trans HA2.out.1
  have S2 : Hid (DW b B (x2.setCell ⟨b, 0, none⟩ (.slice a2 (l1.length + 1) cc2)) (thenW (thenW st (needW false 4)) (.ok [94])) (N + 1)) := HA2.out.2
  clear HA2 T1 S1 c01 R1 O1 E1 hlb1 hBl1 h31
  have bxs := heap_other bxP2 (p := ⟨b, 0, none⟩) hnP (.slice a2 (l1.length + 1) cc2)
  have BX2 : Hid ((x2.setCell ⟨b, 0, none⟩ (.slice a2 (l1.length + 1) cc2)).heap[w.heap.size]? = some (.cells #[.int .i64 3, .slice pa ps.length pc, .slice ra rs.length rc, .slice fa fs.length fc] 99 (0, 0))) := bxs
  clear bxs bxP2 q2 z2 gP02 gP12 gP22 gP32
  go_loopw [4] (fun i_ wr => ∃ (i : Nat) (sti : Except Nat (List Int)), i_ = .int .i64 i ∧ i ≤ fs.length ∧ Hid (WT b B w wr) ∧ Hid (DW b B wr sti (N + 1 + 13 * i)) ∧ Hid (thenW sti (manyW fieldW (fs.drop i)) = R) ∧ Hid (wr.heap[w.heap.size]? = some (.cells #[.int .i64 3, .slice pa ps.length pc, .slice ra rs.length rc, .slice fa fs.length fc] 99 (0, 0)))) (fun i_ _ => fs.length - (intOf i_).toNat)
  case atStart => exact ⟨0, _, rfl, by omega, T2, S2, HR, BX2⟩
  case round =>
    obtain ⟨i, sti, rfl, hi, TR, SR, HE, BX⟩ := hrel
    have p0b := cell_of BX.out 0
    have p1b := cell_of BX.out 1
    have p2b := cell_of BX.out 2
    have p3b := cell_of BX.out 3
    simp at p0b p1b p2b p3b
    by_cases hlt : i < fs.length
    · exact absurd hlt (by have := HZ.out; omega)
    · have d3 : decide ((i : Int) < (fs.length : Int)) = false := by simp; omega
      have d4 : decide (i < fs.length) = false := by simpa using hlt
      have E : Hid (sti = R) := by show _ = _; rw [← HE.out, many_last (by omega)]
      clear HE
      go_wp2_with fail
      go_end0
      exact ⟨rfl, TR.out, by rw [← E.out]; exact SR.out.mono (by have : i ≤ fs.length := hi; omega)⟩
set_option maxRecDepth 100000 in
set_option maxHeartbeats 2000000 in
theorem dc3_noR_f {b B : Nat} {w w0 : World} {st : Except Nat (List Int)} {N : Nat} (h : DW b B w st N) (g0 : Grew w0 w) (hb0 : w0.heap.size ≤ b) (pa ra : Option Addr) (bb off : Nat) (pc rc fc : Nat) (ps rs : List VT) (fs : List FT) (hp : LV w0 (.slice pa ps.length pc) ps) (hr : LV w0 (.slice ra rs.length rc) rs) (hf : LF w0 (.slice (some ⟨bb, off, none⟩) fs.length fc) fs)
    (hk : okC ⟨3, ps, rs, fs⟩) (hzps : ps = []) (hzrs : rs ≠ []) (hN : N + szC ⟨3, ps, rs, fs⟩ ≤ 17592186043000) :
    Calls Tryd.prog 79 #[.pointer (some ⟨b, 0, none⟩), .agg #[.int .i64 3, .slice pa ps.length pc, .slice ra rs.length rc, .slice (some ⟨bb, off, none⟩) fs.length fc]] w (DA b B w (thenW st (compW ⟨3, ps, rs, fs⟩)) (N + szC ⟨3, ps, rs, fs⟩)) := by
  have HV : Hid (LF w0 (.slice (some ⟨bb, off, none⟩) fs.length fc) fs) := hf
  have HK : Hid (∀ x ∈ fs, okV x.ty) := hk.2.2
  obtain ⟨_, _, _, hflc, hfm⟩ := hf.one
  have hfx : fs.length ≤ 9223372036854775807 := by unfold maxLen at hfm; omega
  have L : thenW (thenW (thenW st (needW false 4)) (.ok [94])) (manyW fieldW (fs.drop 0)) = thenW st (compW ⟨3, ps, rs, fs⟩) := by
    rw [thenW_no, thenW_err, compW, if_neg (by simp [wholeC, hzrs])]
  obtain ⟨R, hR⟩ : ∃ R, R = thenW st (compW ⟨3, ps, rs, fs⟩) := ⟨_, rfl⟩
  rw [← hR] at L ⊢
  have HR : Hid (thenW (thenW (thenW st (needW false 4)) (.ok [94])) (manyW fieldW (fs.drop 0)) = R) := L
  clear hR L
  have dzps : ((ps.length : Int) == 0) = true := by rw [hzps]; rfl
  clear hzps
  have hlrs : rs.length ≠ 0 := fun hh => hzrs (List.eq_nil_of_length_eq_zero hh)
  have dzrs : ((rs.length : Int) == 0) = false := by simp; exact hzrs
  clear hzrs hlrs
  clear hp hr hf hk hflc hfm
  unfold szC at hN ⊢
  simp only at hN ⊢
  have S0 : Hid (DW b B (w.alloc (.cells #[.int .i64 3, .slice pa ps.length pc, .slice ra rs.length rc, .slice (some ⟨bb, off, none⟩) fs.length fc] 99)) st N) := h.grew ((Grew.refl w).alloc _)
  have T0 : Hid (WT b B w (w.alloc (.cells #[.int .i64 3, .slice pa ps.length pc, .slice ra rs.length rc, .slice (some ⟨bb, off, none⟩) fs.length fc] 99))) := WT.of_grew ((Grew.refl w).alloc _)
  have hbx : (w.alloc (.cells #[.int .i64 3, .slice pa ps.length pc, .slice ra rs.length rc, .slice (some ⟨bb, off, none⟩) fs.length fc] 99)).heap[w.heap.size]? = some (.cells #[.int .i64 3, .slice pa ps.length pc, .slice ra rs.length rc, .slice (some ⟨bb, off, none⟩) fs.length fc] 99 (0, 0)) := heap_alloc_last w _
  have hb : b < w.heap.size := h.blt
  have hblt : b < B := h.lt
  have hnP : w.heap.size ≠ b := by omega
  have G0 : Hid (Grew w0 w) := g0
  clear h g0
  go_enter Tryd.func79, Tryd.ntmps79
  go_wp2_with fail
  refine (must_any S0.out false 4 (by decide)).mono ?_
  rintro en w1 ⟨rfl, t1, s1⟩
  have T1 : Hid (WT b B w w1) := T0.out.trans t1
  have S1 : Hid (DW b B w1 (thenW st (needW false 4)) N) := s1
  have bxP1 : w1.heap[w.heap.size]? = some (.cells #[.int .i64 3, .slice pa ps.length pc, .slice ra rs.length rc, .slice (some ⟨bb, off, none⟩) fs.length fc] 99 (0, 0)) := t1.other hbx hnP (NoT.of hbx (by decide))
  have fP0 := cell_of bxP1 0
  have fP1 := cell_of bxP1 1
  have fP2 := cell_of bxP1 2
  have fP3 := cell_of bxP1 3
  simp at fP0 fP1 fP2 fP3
  clear t1 s1 T0 S0 hbx
  obtain ⟨o1, e1, l1, h11, h21, h31, h41⟩ := S1.out.ex
  obtain ⟨oa1, oc1, rfl⟩ := row_one h21
  have c01 := cell_of h11 0
  simp at c01
  have R1 : Hid (w1.ownsRow B 5 1 (.slice oa1 l1.length oc1) l1.length (U8 l1)) := h21
  have O1 : Hid (w1.heap[b]? = some (dob (.slice oa1 l1.length oc1) e1)) := h11
  have E1 : Hid (StE (thenW st (needW false 4)) l1 e1) := h41
  have hlb1 : b < B := S1.out.lt
  have hBl1 : B ≤ w1.heap.size := S1.out.le
  clear h11 h21 h41
  go_wp2_with (
    at_builtin
    refine wp_appG (w := (w1.alloc (.cells #[.int .u8 94] 5))) (v := .slice oa1 l1.length oc1) (u := .slice (some ⟨w1.heap.size, 0, none⟩) 1 1) (r := [94]) rfl _ _ rfl rfl rfl (World.ownsRow.alloc R1.out _) (by simp; omega) (reads_new _ _ _) (by simp; omega) ?_
    intro v2 x2 ho2 hg2
    obtain ⟨a2, cc2, hv2⟩ := row_one ho2
    rw [List.length_append] at hv2
    subst hv2
    have A2 := dw_app (b := b) (B := B) (w := (w1.alloc (.cells #[.int .u8 94] 5))) (st := thenW st (needW false 4)) (N := N) (r := [94]) (heap_alloc O1.out _) (World.ownsRow.alloc R1.out _) h31 E1.out hlb1 (by simp; omega) ho2 hg2
    have q2 := cell_of A2.1 0
    have z2 := free_of A2.1 0
    simp at q2
    have HA2 : Hid (WT b B (w1.alloc (.cells #[.int .u8 94] 5)) (x2.setCell ⟨b, 0, none⟩ (.slice a2 (l1.length + [(94 : Int)].length) cc2)) ∧ DW b B (x2.setCell ⟨b, 0, none⟩ (.slice a2 (l1.length + [(94 : Int)].length) cc2)) (thenW (thenW st (needW false 4)) (.ok [94])) (N + [(94 : Int)].length)) := A2.2
    have tt2 := A2.2.1
    have bxP2 : x2.heap[w.heap.size]? = some (.cells #[.int .i64 3, .slice pa ps.length pc, .slice ra rs.length rc, .slice (some ⟨bb, off, none⟩) fs.length fc] 99 (0, 0)) := (wt_grown (b := b) (World.ownsRow.alloc R1.out _) hg2).other (heap_alloc bxP1 _) hnP (NoT.of (heap_alloc bxP1 _) (by decide))
    have gP02 := cell_of bxP2 0
    have gP12 := cell_of bxP2 1
    have gP22 := cell_of bxP2 2
    have gP32 := cell_of bxP2 3
    simp at gP02 gP12 gP22 gP32
    clear A2 hg2 ho2 tt2 bxP1)
  have T2 : Hid (WT b B w (x2.setCell ⟨b, 0, none⟩ (.slice a2 (l1.length + 1) cc2))) := (T1.out.trans (WT.of_grew ((Grew.refl _).alloc _))).trans HA2.out.1
  have S2 : Hid (DW b B (x2.setCell ⟨b, 0, none⟩ (.slice a2 (l1.length + 1) cc2)) (thenW (thenW st (needW false 4)) (.ok [94])) (N + 1)) := HA2.out.2
  clear HA2 T1 S1 c01 R1 O1 E1 hlb1 hBl1 h31
  have bxs := heap_other bxP2 (p := ⟨b, 0, none⟩) hnP (.slice a2 (l1.length + 1) cc2)
  have BX2 : Hid ((x2.setCell ⟨b, 0, none⟩ (.slice a2 (l1.length + 1) cc2)).heap[w.heap.size]? = some (.cells #[.int .i64 3, .slice pa ps.length pc, .slice ra rs.length rc, .slice (some ⟨bb, off, none⟩) fs.length fc] 99 (0, 0))) := bxs
  clear bxs bxP2 q2 z2 gP02 gP12 gP22 gP32
  go_loopw [4] (fun i_ wr => ∃ (i : Nat) (sti : Except Nat (List Int)), i_ = .int .i64 i ∧ i ≤ fs.length ∧ Hid (WT b B w wr) ∧ Hid (DW b B wr sti (N + 1 + 13 * i)) ∧ Hid (thenW sti (manyW fieldW (fs.drop i)) = R) ∧ Hid (wr.heap[w.heap.size]? = some (.cells #[.int .i64 3, .slice pa ps.length pc, .slice ra rs.length rc, .slice (some ⟨bb, off, none⟩) fs.length fc] 99 (0, 0)))) (fun i_ _ => fs.length - (intOf i_).toNat)
  case atStart => exact ⟨0, _, rfl, by omega, T2, S2, HR, BX2⟩
  case round =>
    obtain ⟨i, sti, rfl, hi, TR, SR, HE, BX⟩ := hrel
    have p0b := cell_of BX.out 0
    have p1b := cell_of BX.out 1
    have p2b := cell_of BX.out 2
    have p3b := cell_of BX.out 3
    simp at p0b p1b p2b p3b
    by_cases hlt : i < fs.length
    · obtain ⟨x, hx⟩ : ∃ x, fs[i]? = some x := ⟨_, List.getElem?_eq_getElem hlt⟩
      have hxok := HK.out x (List.mem_of_getElem? hx)
      have d3 : decide ((i : Int) < (fs.length : Int)) = true := by simp; omega
      have d4 : decide (i < fs.length) = true := by simpa using hlt
      have GR : Grew w0 wr := TR.out.grew0 G0.out hb0 (by omega)
      obtain ⟨bb', off', ea, _, hc⟩ := (HV.out.grew GR).get (by omega)
      have hce := hc i x hx
      have ea2 : bb' = bb ∧ off' = off := by simp at ea; exact ⟨ea.1.symm, ea.2.symm⟩
      rw [ea2.1, ea2.2] at hce
      clear ea ea2
      have HE2 : Hid (thenW (thenW sti (fieldW x)) (manyW fieldW (fs.drop (i + 1))) = R) := by show _ = _; rw [← HE.out, many_next hx]
      obtain ⟨⟨vn, vb, vh⟩, vm⟩ := x
      obtain ⟨⟨p0, p1, p2⟩, p3⟩ := hce
      simp only at p0 p1 p2 p3
      have C2 : ∀ (W : World), DW b B W sti (N + 1 + 13 * i) → Calls Tryd.prog 108 #[.pointer (some ⟨b, 0, none⟩), .agg #[.int .i64 vn, .bool vb, .int .i64 vh, .bool vm]] W (DA b B W (thenW sti (fieldW ⟨⟨vn, vb, vh⟩, vm⟩)) (N + 1 + 13 * i + 13)) := fun W u => dwField_any u ⟨⟨vn, vb, vh⟩, vm⟩ hxok (by omega)
      generalize fieldW ⟨⟨vn, vb, vh⟩, vm⟩ = Z at *
      clear hc hx GR HE
      go_wp2_with fail
      refine (C2 _ SR.out).mono ?_
      rintro en w2 ⟨rfl, t2, s2⟩
      have T2 : Hid (WT b B w w2) := TR.out.trans t2
      have S2 : Hid (DW b B w2 (thenW sti Z) (N + 1 + 13 * i + 13)) := s2
      have BX2 : Hid (w2.heap[w.heap.size]? = some (.cells #[.int .i64 3, .slice pa ps.length pc, .slice ra rs.length rc, .slice (some ⟨bb, off, none⟩) fs.length fc] 99 (0, 0))) := t2.other BX.out hnP (NoT.of BX.out (by decide))
      clear BX p0b p1b p2b p3b
      clear t2 s2 C2 TR SR
      go_wp2_with fail
      go_roundw
      case rel => exact ⟨i + 1, _, by go_num, by omega, T2, S2.out.mono (by omega), HE2, BX2⟩
      case measure => simp [intOf]; omega
    · have d3 : decide ((i : Int) < (fs.length : Int)) = false := by simp; omega
      have d4 : decide (i < fs.length) = false := by simpa using hlt
      have E : Hid (sti = R) := by show _ = _; rw [← HE.out, many_last (by omega)]
      clear HE
      go_wp2_with fail
      go_end0
      exact ⟨rfl, TR.out, by rw [← E.out]; exact SR.out.mono (by have : i ≤ fs.length := hi; omega)⟩
set_option maxRecDepth 100000 in
set_option maxHeartbeats 2000000 in
theorem dc3_noF_e {b B : Nat} {w w0 : World} {st : Except Nat (List Int)} {N : Nat} (h : DW b B w st N) (g0 : Grew w0 w) (hb0 : w0.heap.size ≤ b) (pa ra fa : Option Addr) (pc rc fc : Nat) (ps rs : List VT) (fs : List FT) (hp : LV w0 (.slice pa ps.length pc) ps) (hr : LV w0 (.slice ra rs.length rc) rs) (hf : LF w0 (.slice fa fs.length fc) fs)
    (hk : okC ⟨3, ps, rs, fs⟩) (hz0 : fs.length = 0) (hzps : ps = []) (hzrs : rs = []) (h1fs : fs.length ≠ 1) (hN : N + szC ⟨3, ps, rs, fs⟩ ≤ 17592186043000) :
    Calls Tryd.prog 79 #[.pointer (some ⟨b, 0, none⟩), .agg #[.int .i64 3, .slice pa ps.length pc, .slice ra rs.length rc, .slice fa fs.length fc]] w (DA b B w (thenW st (compW ⟨3, ps, rs, fs⟩)) (N + szC ⟨3, ps, rs, fs⟩)) := by
  have HV : Hid (LF w0 (.slice fa fs.length fc) fs) := hf
  have HK : Hid (∀ x ∈ fs, okV x.ty) := hk.2.2
  obtain ⟨_, _, _, hflc, hfm⟩ := hf.one
  have hfx : fs.length ≤ 9223372036854775807 := by unfold maxLen at hfm; omega
  have HZ : Hid (fs.length = 0) := hz0
  clear hz0
  have L : thenW (thenW (thenW st (needW false 4)) (.ok [94])) (manyW fieldW (fs.drop 0)) = thenW st (compW ⟨3, ps, rs, fs⟩) := by
    rw [thenW_no, thenW_err, compW, if_neg (by simp [wholeC, h1fs])]
  obtain ⟨R, hR⟩ : ∃ R, R = thenW st (compW ⟨3, ps, rs, fs⟩) := ⟨_, rfl⟩
  rw [← hR] at L ⊢
  have HR : Hid (thenW (thenW (thenW st (needW false 4)) (.ok [94])) (manyW fieldW (fs.drop 0)) = R) := L
  clear hR L
  have dzps : ((ps.length : Int) == 0) = true := by rw [hzps]; rfl
  clear hzps
  have dzrs : ((rs.length : Int) == 0) = true := by rw [hzrs]; rfl
  clear hzrs
  have d1fs : ((fs.length : Int) == 1) = false := by simp; omega
  clear h1fs
  clear hp hr hf hk hflc hfm
  unfold szC at hN ⊢
  simp only at hN ⊢
  have S0 : Hid (DW b B (w.alloc (.cells #[.int .i64 3, .slice pa ps.length pc, .slice ra rs.length rc, .slice fa fs.length fc] 99)) st N) := h.grew ((Grew.refl w).alloc _)
  have T0 : Hid (WT b B w (w.alloc (.cells #[.int .i64 3, .slice pa ps.length pc, .slice ra rs.length rc, .slice fa fs.length fc] 99))) := WT.of_grew ((Grew.refl w).alloc _)
  have hbx : (w.alloc (.cells #[.int .i64 3, .slice pa ps.length pc, .slice ra rs.length rc, .slice fa fs.length fc] 99)).heap[w.heap.size]? = some (.cells #[.int .i64 3, .slice pa ps.length pc, .slice ra rs.length rc, .slice fa fs.length fc] 99 (0, 0)) := heap_alloc_last w _
  have hb : b < w.heap.size := h.blt
  have hblt : b < B := h.lt
  have hnP : w.heap.size ≠ b := by omega
  have G0 : Hid (Grew w0 w) := g0
  clear h g0
  go_enter Tryd.func79, Tryd.ntmps79
  go_wp2_with fail
  refine (must_any S0.out false 4 (by decide)).mono ?_
  rintro en w1 ⟨rfl, t1, s1⟩
  have T1 : Hid (WT b B w w1) := T0.out.trans t1
  have S1 : Hid (DW b B w1 (thenW st (needW false 4)) N) := s1
  have bxP1 : w1.heap[w.heap.size]? = some (.cells #[.int .i64 3, .slice pa ps.length pc, .slice ra rs.length rc, .slice fa fs.length fc] 99 (0, 0)) := t1.other hbx hnP (NoT.of hbx (by decide))
  have fP0 := cell_of bxP1 0
  have fP1 := cell_of bxP1 1
  have fP2 := cell_of bxP1 2
  have fP3 := cell_of bxP1 3
  simp at fP0 fP1 fP2 fP3
  clear t1 s1 T0 S0 hbx
  obtain ⟨o1, e1, l1, h11, h21, h31, h41⟩ := S1.out.ex
  obtain ⟨oa1, oc1, rfl⟩ := row_one h21
  have c01 := cell_of h11 0
  simp at c01
  have R1 : Hid (w1.ownsRow B 5 1 (.slice oa1 l1.length oc1) l1.length (U8 l1)) := h21
  have O1 : Hid (w1.heap[b]? = some (dob (.slice oa1 l1.length oc1) e1)) := h11
  have E1 : Hid (StE (thenW st (needW false 4)) l1 e1) := h41
  have hlb1 : b < B := S1.out.lt
  have hBl1 : B ≤ w1.heap.size := S1.out.le
  clear h11 h21 h41
  go_wp2_with (
    at_builtin
    refine wp_appG (w := (w1.alloc (.cells #[.int .u8 94] 5))) (v := .slice oa1 l1.length oc1) (u := .slice (some ⟨w1.heap.size, 0, none⟩) 1 1) (r := [94]) rfl _ _ rfl rfl rfl (World.ownsRow.alloc R1.out _) (by simp; omega) (reads_new _ _ _) (by simp; omega) ?_
    intro v2 x2 ho2 hg2
    obtain ⟨a2, cc2, hv2⟩ := row_one ho2
    rw [List.length_append] at hv2
    subst hv2
    have A2 := dw_app (b := b) (B := B) (w := (w1.alloc (.cells #[.int .u8 94] 5))) (st := thenW st (needW false 4)) (N := N) (r := [94]) (heap_alloc O1.out _) (World.ownsRow.alloc R1.out _) h31 E1.out hlb1 (by simp; omega) ho2 hg2
    have q2 := cell_of A2.1 0
    have z2 := free_of A2.1 0
    simp at q2
    have HA2 : Hid (WT b B (w1.alloc (.cells #[.int .u8 94] 5)) (x2.setCell ⟨b, 0, none⟩ (.slice a2 (l1.length + [(94 : Int)].length) cc2)) ∧ DW b B (x2.setCell ⟨b, 0, none⟩ (.slice a2 (l1.length + [(94 : Int)].length) cc2)) (thenW (thenW st (needW false 4)) (.ok [94])) (N + [(94 : Int)].length)) := A2.2
    have tt2 := A2.2.1
    have bxP2 : x2.heap[w.heap.size]? = some (.cells #[.int .i64 3, .slice pa ps.length pc, .slice ra rs.length rc, .slice fa fs.length fc] 99 (0, 0)) := (wt_grown (b := b) (World.ownsRow.alloc R1.out _) hg2).other (heap_alloc bxP1 _) hnP (NoT.of (heap_alloc bxP1 _) (by decide))
    have gP02 := cell_of bxP2 0
    have gP12 := cell_of bxP2 1
    have gP22 := cell_of bxP2 2
    have gP32 := cell_of bxP2 3
    simp at gP02 gP12 gP22 gP32
    clear A2 hg2 ho2 tt2 bxP1)
  have T2 : Hid (WT b B w (x2.setCell ⟨b, 0, none⟩ (.slice a2 (l1.length + 1) cc2))) := (T1.out.trans (WT.of_grew ((Grew.refl _).alloc _))).trans HA2.out.1
  have S2 : Hid (DW b B (x2.setCell ⟨b, 0, none⟩ (.slice a2 (l1.length + 1) cc2)) (thenW (thenW st (needW false 4)) (.ok [94])) (N + 1)) := HA2.out.2
  clear HA2 T1 S1 c01 R1 O1 E1 hlb1 hBl1 h31
  have bxs := heap_other bxP2 (p := ⟨b, 0, none⟩) hnP (.slice a2 (l1.length + 1) cc2)
  have BX2 : Hid ((x2.setCell ⟨b, 0, none⟩ (.slice a2 (l1.length + 1) cc2)).heap[w.heap.size]? = some (.cells #[.int .i64 3, .slice pa ps.length pc, .slice ra rs.length rc, .slice fa fs.length fc] 99 (0, 0))) := bxs
  clear bxs bxP2 q2 z2 gP02 gP12 gP22 gP32
  go_loopw [4] (fun i_ wr => ∃ (i : Nat) (sti : Except Nat (List Int)), i_ = .int .i64 i ∧ i ≤ fs.length ∧ Hid (WT b B w wr) ∧ Hid (DW b B wr sti (N + 1 + 13 * i)) ∧ Hid (thenW sti (manyW fieldW (fs.drop i)) = R) ∧ Hid (wr.heap[w.heap.size]? = some (.cells #[.int .i64 3, .slice pa ps.length pc, .slice ra rs.length rc, .slice fa fs.length fc] 99 (0, 0)))) (fun i_ _ => fs.length - (intOf i_).toNat)
  case atStart => exact ⟨0, _, rfl, by omega, T2, S2, HR, BX2⟩
  case round =>
    obtain ⟨i, sti, rfl, hi, TR, SR, HE, BX⟩ := hrel
    have p0b := cell_of BX.out 0
    have p1b := cell_of BX.out 1
    have p2b := cell_of BX.out 2
    have p3b := cell_of BX.out 3
    simp at p0b p1b p2b p3b
    by_cases hlt : i < fs.length
    · exact absurd hlt (by have := HZ.out; omega)
    · have d3 : decide ((i : Int) < (fs.length : Int)) = false := by simp; omega
      have d4 : decide (i < fs.length) = false := by simpa using hlt
      have E : Hid (sti = R) := by show _ = _; rw [← HE.out, many_last (by omega)]
      clear HE
      go_wp2_with fail
      go_end0
      exact ⟨rfl, TR.out, by rw [← E.out]; exact SR.out.mono (by have : i ≤ fs.length := hi; omega)⟩
set_option maxRecDepth 100000 in
set_option maxHeartbeats 2000000 in
theorem dc3_noF_f {b B : Nat} {w w0 : World} {st : Except Nat (List Int)} {N : Nat} (h : DW b B w st N) (g0 : Grew w0 w) (hb0 : w0.heap.size ≤ b) (pa ra : Option Addr) (bb off : Nat) (pc rc fc : Nat) (ps rs : List VT) (fs : List FT) (hp : LV w0 (.slice pa ps.length pc) ps) (hr : LV w0 (.slice ra rs.length rc) rs) (hf : LF w0 (.slice (some ⟨bb, off, none⟩) fs.length fc) fs)
    (hk : okC ⟨3, ps, rs, fs⟩) (hzps : ps = []) (hzrs : rs = []) (h1fs : fs.length ≠ 1) (hN : N + szC ⟨3, ps, rs, fs⟩ ≤ 17592186043000) :
    Calls Tryd.prog 79 #[.pointer (some ⟨b, 0, none⟩), .agg #[.int .i64 3, .slice pa ps.length pc, .slice ra rs.length rc, .slice (some ⟨bb, off, none⟩) fs.length fc]] w (DA b B w (thenW st (compW ⟨3, ps, rs, fs⟩)) (N + szC ⟨3, ps, rs, fs⟩)) := by
  have HV : Hid (LF w0 (.slice (some ⟨bb, off, none⟩) fs.length fc) fs) := hf
  have HK : Hid (∀ x ∈ fs, okV x.ty) := hk.2.2
  obtain ⟨_, _, _, hflc, hfm⟩ := hf.one
  have hfx : fs.length ≤ 9223372036854775807 := by unfold maxLen at hfm; omega
  have L : thenW (thenW (thenW st (needW false 4)) (.ok [94])) (manyW fieldW (fs.drop 0)) = thenW st (compW ⟨3, ps, rs, fs⟩) := by
    rw [thenW_no, thenW_err, compW, if_neg (by simp [wholeC, h1fs])]
  obtain ⟨R, hR⟩ : ∃ R, R = thenW st (compW ⟨3, ps, rs, fs⟩) := ⟨_, rfl⟩
  rw [← hR] at L ⊢
  have HR : Hid (thenW (thenW (thenW st (needW false 4)) (.ok [94])) (manyW fieldW (fs.drop 0)) = R) := L
  clear hR L
  have dzps : ((ps.length : Int) == 0) = true := by rw [hzps]; rfl
  clear hzps
  have dzrs : ((rs.length : Int) == 0) = true := by rw [hzrs]; rfl
  clear hzrs
  have d1fs : ((fs.length : Int) == 1) = false := by simp; omega
  clear h1fs
  clear hp hr hf hk hflc hfm
  unfold szC at hN ⊢
  simp only at hN ⊢
  have S0 : Hid (DW b B (w.alloc (.cells #[.int .i64 3, .slice pa ps.length pc, .slice ra rs.length rc, .slice (some ⟨bb, off, none⟩) fs.length fc] 99)) st N) := h.grew ((Grew.refl w).alloc _)
  have T0 : Hid (WT b B w (w.alloc (.cells #[.int .i64 3, .slice pa ps.length pc, .slice ra rs.length rc, .slice (some ⟨bb, off, none⟩) fs.length fc] 99))) := WT.of_grew ((Grew.refl w).alloc _)
  have hbx : (w.alloc (.cells #[.int .i64 3, .slice pa ps.length pc, .slice ra rs.length rc, .slice (some ⟨bb, off, none⟩) fs.length fc] 99)).heap[w.heap.size]? = some (.cells #[.int .i64 3, .slice pa ps.length pc, .slice ra rs.length rc, .slice (some ⟨bb, off, none⟩) fs.length fc] 99 (0, 0)) := heap_alloc_last w _
  have hb : b < w.heap.size := h.blt
  have hblt : b < B := h.lt
  have hnP : w.heap.size ≠ b := by omega
  have G0 : Hid (Grew w0 w) := g0
  clear h g0
  go_enter Tryd.func79, Tryd.ntmps79
  go_wp2_with fail
  refine (must_any S0.out false 4 (by decide)).mono ?_
  rintro en w1 ⟨rfl, t1, s1⟩
  have T1 : Hid (WT b B w w1) := T0.out.trans t1
  have S1 : Hid (DW b B w1 (thenW st (needW false 4)) N) := s1
  have bxP1 : w1.heap[w.heap.size]? = some (.cells #[.int .i64 3, .slice pa ps.length pc, .slice ra rs.length rc, .slice (some ⟨bb, off, none⟩) fs.length fc] 99 (0, 0)) := t1.other hbx hnP (NoT.of hbx (by decide))
  have fP0 := cell_of bxP1 0
  have fP1 := cell_of bxP1 1
  have fP2 := cell_of bxP1 2
  have fP3 := cell_of bxP1 3
  simp at fP0 fP1 fP2 fP3
  clear t1 s1 T0 S0 hbx
  obtain ⟨o1, e1, l1, h11, h21, h31, h41⟩ := S1.out.ex
  obtain ⟨oa1, oc1, rfl⟩ := row_one h21
  have c01 := cell_of h11 0
  simp at c01
  have R1 : Hid (w1.ownsRow B 5 1 (.slice oa1 l1.length oc1) l1.length (U8 l1)) := h21
  have O1 : Hid (w1.heap[b]? = some (dob (.slice oa1 l1.length oc1) e1)) := h11
  have E1 : Hid (StE (thenW st (needW false 4)) l1 e1) := h41
  have hlb1 : b < B := S1.out.lt
  have hBl1 : B ≤ w1.heap.size := S1.out.le
  clear h11 h21 h41
  go_wp2_with (
    at_builtin
    refine wp_appG (w := (w1.alloc (.cells #[.int .u8 94] 5))) (v := .slice oa1 l1.length oc1) (u := .slice (some ⟨w1.heap.size, 0, none⟩) 1 1) (r := [94]) rfl _ _ rfl rfl rfl (World.ownsRow.alloc R1.out _) (by simp; omega) (reads_new _ _ _) (by simp; omega) ?_
    intro v2 x2 ho2 hg2
    obtain ⟨a2, cc2, hv2⟩ := row_one ho2
    rw [List.length_append] at hv2
    subst hv2
    have A2 := dw_app (b := b) (B := B) (w := (w1.alloc (.cells #[.int .u8 94] 5))) (st := thenW st (needW false 4)) (N := N) (r := [94]) (heap_alloc O1.out _) (World.ownsRow.alloc R1.out _) h31 E1.out hlb1 (by simp; omega) ho2 hg2
    have q2 := cell_of A2.1 0
    have z2 := free_of A2.1 0
    simp at q2
    have HA2 : Hid (WT b B (w1.alloc (.cells #[.int .u8 94] 5)) (x2.setCell ⟨b, 0, none⟩ (.slice a2 (l1.length + [(94 : Int)].length) cc2)) ∧ DW b B (x2.setCell ⟨b, 0, none⟩ (.slice a2 (l1.length + [(94 : Int)].length) cc2)) (thenW (thenW st (needW false 4)) (.ok [94])) (N + [(94 : Int)].length)) := A2.2
    have tt2 := A2.2.1
    have bxP2 : x2.heap[w.heap.size]? = some (.cells #[.int .i64 3, .slice pa ps.length pc, .slice ra rs.length rc, .slice (some ⟨bb, off, none⟩) fs.length fc] 99 (0, 0)) := (wt_grown (b := b) (World.ownsRow.alloc R1.out _) hg2).other (heap_alloc bxP1 _) hnP (NoT.of (heap_alloc bxP1 _) (by decide))
    have gP02 := cell_of bxP2 0
    have gP12 := cell_of bxP2 1
    have gP22 := cell_of bxP2 2
    have gP32 := cell_of bxP2 3
    simp at gP02 gP12 gP22 gP32
    clear A2 hg2 ho2 tt2 bxP1)
  have T2 : Hid (WT b B w (x2.setCell ⟨b, 0, none⟩ (.slice a2 (l1.length + 1) cc2))) := (T1.out.trans (WT.of_grew ((Grew.refl _).alloc _))).trans HA2.out.1
  have S2 : Hid (DW b B (x2.setCell ⟨b, 0, none⟩ (.slice a2 (l1.length + 1) cc2)) (thenW (thenW st (needW false 4)) (.ok [94])) (N + 1)) := HA2.out.2
  clear HA2 T1 S1 c01 R1 O1 E1 hlb1 hBl1 h31
  have bxs := heap_other bxP2 (p := ⟨b, 0, none⟩) hnP (.slice a2 (l1.length + 1) cc2)
  have BX2 : Hid ((x2.setCell ⟨b, 0, none⟩ (.slice a2 (l1.length + 1) cc2)).heap[w.heap.size]? = some (.cells #[.int .i64 3, .slice pa ps.length pc, .slice ra rs.length rc, .slice (some ⟨bb, off, none⟩) fs.length fc] 99 (0, 0))) := bxs
  clear bxs bxP2 q2 z2 gP02 gP12 gP22 gP32
  go_loopw [4] (fun i_ wr => ∃ (i : Nat) (sti : Except Nat (List Int)), i_ = .int .i64 i ∧ i ≤ fs.length ∧ Hid (WT b B w wr) ∧ Hid (DW b B wr sti (N + 1 + 13 * i)) ∧ Hid (thenW sti (manyW fieldW (fs.drop i)) = R) ∧ Hid (wr.heap[w.heap.size]? = some (.cells #[.int .i64 3, .slice pa ps.length pc, .slice ra rs.length rc, .slice (some ⟨bb, off, none⟩) fs.length fc] 99 (0, 0)))) (fun i_ _ => fs.length - (intOf i_).toNat)
  case atStart => exact ⟨0, _, rfl, by omega, T2, S2, HR, BX2⟩
  case round =>
    obtain ⟨i, sti, rfl, hi, TR, SR, HE, BX⟩ := hrel
    have p0b := cell_of BX.out 0
    have p1b := cell_of BX.out 1
    have p2b := cell_of BX.out 2
    have p3b := cell_of BX.out 3
    simp at p0b p1b p2b p3b
    by_cases hlt : i < fs.length
    · obtain ⟨x, hx⟩ : ∃ x, fs[i]? = some x := ⟨_, List.getElem?_eq_getElem hlt⟩
      have hxok := HK.out x (List.mem_of_getElem? hx)
      have d3 : decide ((i : Int) < (fs.length : Int)) = true := by simp; omega
      have d4 : decide (i < fs.length) = true := by simpa using hlt
      have GR : Grew w0 wr := TR.out.grew0 G0.out hb0 (by omega)
      obtain ⟨bb', off', ea, _, hc⟩ := (HV.out.grew GR).get (by omega)
      have hce := hc i x hx
      have ea2 : bb' = bb ∧ off' = off := by simp at ea; exact ⟨ea.1.symm, ea.2.symm⟩
      rw [ea2.1, ea2.2] at hce
      clear ea ea2
      have HE2 : Hid (thenW (thenW sti (fieldW x)) (manyW fieldW (fs.drop (i + 1))) = R) := by show _ = _; rw [← HE.out, many_next hx]
      obtain ⟨⟨vn, vb, vh⟩, vm⟩ := x
      obtain ⟨⟨p0, p1, p2⟩, p3⟩ := hce
      simp only at p0 p1 p2 p3
      have C2 : ∀ (W : World), DW b B W sti (N + 1 + 13 * i) → Calls Tryd.prog 108 #[.pointer (some ⟨b, 0, none⟩), .agg #[.int .i64 vn, .bool vb, .int .i64 vh, .bool vm]] W (DA b B W (thenW sti (fieldW ⟨⟨vn, vb, vh⟩, vm⟩)) (N + 1 + 13 * i + 13)) := fun W u => dwField_any u ⟨⟨vn, vb, vh⟩, vm⟩ hxok (by omega)
      generalize fieldW ⟨⟨vn, vb, vh⟩, vm⟩ = Z at *
      clear hc hx GR HE
      go_wp2_with fail
      refine (C2 _ SR.out).mono ?_
      rintro en w2 ⟨rfl, t2, s2⟩
      have T2 : Hid (WT b B w w2) := TR.out.trans t2
      have S2 : Hid (DW b B w2 (thenW sti Z) (N + 1 + 13 * i + 13)) := s2
      have BX2 : Hid (w2.heap[w.heap.size]? = some (.cells #[.int .i64 3, .slice pa ps.length pc, .slice ra rs.length rc, .slice (some ⟨bb, off, none⟩) fs.length fc] 99 (0, 0))) := t2.other BX.out hnP (NoT.of BX.out (by decide))
      clear BX p0b p1b p2b p3b
      clear t2 s2 C2 TR SR
      go_wp2_with fail
      go_roundw
      case rel => exact ⟨i + 1, _, by go_num, by omega, T2, S2.out.mono (by omega), HE2, BX2⟩
      case measure => simp [intOf]; omega
    · have d3 : decide ((i : Int) < (fs.length : Int)) = false := by simp; omega
      have d4 : decide (i < fs.length) = false := by simpa using hlt
      have E : Hid (sti = R) := by show _ = _; rw [← HE.out, many_last (by omega)]
      clear HE
      go_wp2_with fail
      go_end0
      exact ⟨rfl, TR.out, by rw [← E.out]; exact SR.out.mono (by have : i ≤ fs.length := hi; omega)⟩
set_option maxRecDepth 100000 in
set_option maxHeartbeats 2000000 in
theorem dc9_e {b B : Nat} {w w0 : World} {st : Except Nat (List Int)} {N : Nat} (h : DW b B w st N) (g0 : Grew w0 w) (hb0 : w0.heap.size ≤ b) (kd : Int) (pa ra fa : Option Addr) (pc rc fc : Nat) (ps rs : List VT) (fs : List FT) (hp : LV w0 (.slice pa ps.length pc) ps) (hr : LV w0 (.slice ra rs.length rc) rs) (hf : LF w0 (.slice fa fs.length fc) fs)
    (hk : okC ⟨kd, ps, rs, fs⟩) (hz0 : fs.length = 0) (h1 : kd ≠ 1) (h2 : kd ≠ 2) (h3 : kd ≠ 3) (hN : N + szC ⟨kd, ps, rs, fs⟩ ≤ 17592186043000) :
    Calls Tryd.prog 79 #[.pointer (some ⟨b, 0, none⟩), .agg #[.int .i64 kd, .slice pa ps.length pc, .slice ra rs.length rc, .slice fa fs.length fc]] w (DA b B w (thenW st (compW ⟨kd, ps, rs, fs⟩)) (N + szC ⟨kd, ps, rs, fs⟩)) := by
  have HV : Hid (LF w0 (.slice fa fs.length fc) fs) := hf
  have HK : Hid (∀ x ∈ fs, okV x.ty) := hk.2.2
  obtain ⟨_, _, _, hflc, hfm⟩ := hf.one
  have hfx : fs.length ≤ 9223372036854775807 := by unfold maxLen at hfm; omega
  have HZ : Hid (fs.length = 0) := hz0
  clear hz0
  have L : thenW (thenW st (needW false 4)) (manyW fieldW (fs.drop 0)) = thenW st (compW ⟨kd, ps, rs, fs⟩) := by
    rw [thenW_no, compW, if_neg (by simp [wholeC, h1, h2, h3])]
  obtain ⟨R, hR⟩ : ∃ R, R = thenW st (compW ⟨kd, ps, rs, fs⟩) := ⟨_, rfl⟩
  rw [← hR] at L ⊢
  have HR : Hid (thenW (thenW st (needW false 4)) (manyW fieldW (fs.drop 0)) = R) := L
  clear hR L
  have k1 : (kd == 1) = false := by simpa using h1
  have k2 : (kd == 2) = false := by simpa using h2
  have k3 : (kd == 3) = false := by simpa using h3
  clear hp hr hf hk hflc hfm
  unfold szC at hN ⊢
  simp only at hN ⊢
  have S0 : Hid (DW b B (w.alloc (.cells #[.int .i64 kd, .slice pa ps.length pc, .slice ra rs.length rc, .slice fa fs.length fc] 99)) st N) := h.grew ((Grew.refl w).alloc _)
  have T0 : Hid (WT b B w (w.alloc (.cells #[.int .i64 kd, .slice pa ps.length pc, .slice ra rs.length rc, .slice fa fs.length fc] 99))) := WT.of_grew ((Grew.refl w).alloc _)
  have hbx : (w.alloc (.cells #[.int .i64 kd, .slice pa ps.length pc, .slice ra rs.length rc, .slice fa fs.length fc] 99)).heap[w.heap.size]? = some (.cells #[.int .i64 kd, .slice pa ps.length pc, .slice ra rs.length rc, .slice fa fs.length fc] 99 (0, 0)) := heap_alloc_last w _
  have hb : b < w.heap.size := h.blt
  have hblt : b < B := h.lt
  have hnP : w.heap.size ≠ b := by omega
  have G0 : Hid (Grew w0 w) := g0
  clear h g0
  go_enter Tryd.func79, Tryd.ntmps79
  go_wp2_with fail
  refine (must_any S0.out false 4 (by decide)).mono ?_
  rintro en w1 ⟨rfl, t1, s1⟩
  have T1 : Hid (WT b B w w1) := T0.out.trans t1
  have S1 : Hid (DW b B w1 (thenW st (needW false 4)) N) := s1
  have bxP1 : w1.heap[w.heap.size]? = some (.cells #[.int .i64 kd, .slice pa ps.length pc, .slice ra rs.length rc, .slice fa fs.length fc] 99 (0, 0)) := t1.other hbx hnP (NoT.of hbx (by decide))
  have fP0 := cell_of bxP1 0
  have fP1 := cell_of bxP1 1
  have fP2 := cell_of bxP1 2
  have fP3 := cell_of bxP1 3
  simp at fP0 fP1 fP2 fP3
  clear t1 s1 T0 S0 hbx
  have BX1 : Hid (w1.heap[w.heap.size]? = some (.cells #[.int .i64 kd, .slice pa ps.length pc, .slice ra rs.length rc, .slice fa fs.length fc] 99 (0, 0))) := bxP1
  clear bxP1
  go_wp2_with fail
  go_loopw [4] (fun i_ wr => ∃ (i : Nat) (sti : Except Nat (List Int)), i_ = .int .i64 i ∧ i ≤ fs.length ∧ Hid (WT b B w wr) ∧ Hid (DW b B wr sti (N + 13 * i)) ∧ Hid (thenW sti (manyW fieldW (fs.drop i)) = R) ∧ Hid (wr.heap[w.heap.size]? = some (.cells #[.int .i64 kd, .slice pa ps.length pc, .slice ra rs.length rc, .slice fa fs.length fc] 99 (0, 0)))) (fun i_ _ => fs.length - (intOf i_).toNat)
  case atStart => exact ⟨0, _, rfl, by omega, T1, S1, HR, BX1⟩
  case round =>
    obtain ⟨i, sti, rfl, hi, TR, SR, HE, BX⟩ := hrel
    have p0b := cell_of BX.out 0
    have p1b := cell_of BX.out 1
    have p2b := cell_of BX.out 2
    have p3b := cell_of BX.out 3
    simp at p0b p1b p2b p3b
    by_cases hlt : i < fs.length
    · exact absurd hlt (by have := HZ.out; omega)
    · have d3 : decide ((i : Int) < (fs.length : Int)) = false := by simp; omega
      have d4 : decide (i < fs.length) = false := by simpa using hlt
      have E : Hid (sti = R) := by show _ = _; rw [← HE.out, many_last (by omega)]
      clear HE
      go_wp2_with fail
      go_end0
      exact ⟨rfl, TR.out, by rw [← E.out]; exact SR.out.mono (by have : i ≤ fs.length := hi; omega)⟩
set_option maxRecDepth 100000 in
set_option maxHeartbeats 2000000 in
theorem dc9_f {b B : Nat} {w w0 : World} {st : Except Nat (List Int)} {N : Nat} (h : DW b B w st N) (g0 : Grew w0 w) (hb0 : w0.heap.size ≤ b) (kd : Int) (pa ra : Option Addr) (bb off : Nat) (pc rc fc : Nat) (ps rs : List VT) (fs : List FT) (hp : LV w0 (.slice pa ps.length pc) ps) (hr : LV w0 (.slice ra rs.length rc) rs) (hf : LF w0 (.slice (some ⟨bb, off, none⟩) fs.length fc) fs)
    (hk : okC ⟨kd, ps, rs, fs⟩) (h1 : kd ≠ 1) (h2 : kd ≠ 2) (h3 : kd ≠ 3) (hN : N + szC ⟨kd, ps, rs, fs⟩ ≤ 17592186043000) :
    Calls Tryd.prog 79 #[.pointer (some ⟨b, 0, none⟩), .agg #[.int .i64 kd, .slice pa ps.length pc, .slice ra rs.length rc, .slice (some ⟨bb, off, none⟩) fs.length fc]] w (DA b B w (thenW st (compW ⟨kd, ps, rs, fs⟩)) (N + szC ⟨kd, ps, rs, fs⟩)) := by
  have HV : Hid (LF w0 (.slice (some ⟨bb, off, none⟩) fs.length fc) fs) := hf
  have HK : Hid (∀ x ∈ fs, okV x.ty) := hk.2.2
  obtain ⟨_, _, _, hflc, hfm⟩ := hf.one
  have hfx : fs.length ≤ 9223372036854775807 := by unfold maxLen at hfm; omega
  have L : thenW (thenW st (needW false 4)) (manyW fieldW (fs.drop 0)) = thenW st (compW ⟨kd, ps, rs, fs⟩) := by
    rw [thenW_no, compW, if_neg (by simp [wholeC, h1, h2, h3])]
  obtain ⟨R, hR⟩ : ∃ R, R = thenW st (compW ⟨kd, ps, rs, fs⟩) := ⟨_, rfl⟩
  rw [← hR] at L ⊢
  have HR : Hid (thenW (thenW st (needW false 4)) (manyW fieldW (fs.drop 0)) = R) := L
  clear hR L
  have k1 : (kd == 1) = false := by simpa using h1
  have k2 : (kd == 2) = false := by simpa using h2
  have k3 : (kd == 3) = false := by simpa using h3
  clear hp hr hf hk hflc hfm
  unfold szC at hN ⊢
  simp only at hN ⊢
  have S0 : Hid (DW b B (w.alloc (.cells #[.int .i64 kd, .slice pa ps.length pc, .slice ra rs.length rc, .slice (some ⟨bb, off, none⟩) fs.length fc] 99)) st N) := h.grew ((Grew.refl w).alloc _)
  have T0 : Hid (WT b B w (w.alloc (.cells #[.int .i64 kd, .slice pa ps.length pc, .slice ra rs.length rc, .slice (some ⟨bb, off, none⟩) fs.length fc] 99))) := WT.of_grew ((Grew.refl w).alloc _)
  have hbx : (w.alloc (.cells #[.int .i64 kd, .slice pa ps.length pc, .slice ra rs.length rc, .slice (some ⟨bb, off, none⟩) fs.length fc] 99)).heap[w.heap.size]? = some (.cells #[.int .i64 kd, .slice pa ps.length pc, .slice ra rs.length rc, .slice (some ⟨bb, off, none⟩) fs.length fc] 99 (0, 0)) := heap_alloc_last w _
  have hb : b < w.heap.size := h.blt
  have hblt : b < B := h.lt
  have hnP : w.heap.size ≠ b := by omega
  have G0 : Hid (Grew w0 w) := g0
  clear h g0
  go_enter Tryd.func79, Tryd.ntmps79
  go_wp2_with fail
  refine (must_any S0.out false 4 (by decide)).mono ?_
  rintro en w1 ⟨rfl, t1, s1⟩
  have T1 : Hid (WT b B w w1) := T0.out.trans t1
  have S1 : Hid (DW b B w1 (thenW st (needW false 4)) N) := s1
  have bxP1 : w1.heap[w.heap.size]? = some (.cells #[.int .i64 kd, .slice pa ps.length pc, .slice ra rs.length rc, .slice (some ⟨bb, off, none⟩) fs.length fc] 99 (0, 0)) := t1.other hbx hnP (NoT.of hbx (by decide))
  have fP0 := cell_of bxP1 0
  have fP1 := cell_of bxP1 1
  have fP2 := cell_of bxP1 2
  have fP3 := cell_of bxP1 3
  simp at fP0 fP1 fP2 fP3
  clear t1 s1 T0 S0 hbx
  have BX1 : Hid (w1.heap[w.heap.size]? = some (.cells #[.int .i64 kd, .slice pa ps.length pc, .slice ra rs.length rc, .slice (some ⟨bb, off, none⟩) fs.length fc] 99 (0, 0))) := bxP1
  clear bxP1
  go_wp2_with fail
  go_loopw [4] (fun i_ wr => ∃ (i : Nat) (sti : Except Nat (List Int)), i_ = .int .i64 i ∧ i ≤ fs.length ∧ Hid (WT b B w wr) ∧ Hid (DW b B wr sti (N + 13 * i)) ∧ Hid (thenW sti (manyW fieldW (fs.drop i)) = R) ∧ Hid (wr.heap[w.heap.size]? = some (.cells #[.int .i64 kd, .slice pa ps.length pc, .slice ra rs.length rc, .slice (some ⟨bb, off, none⟩) fs.length fc] 99 (0, 0)))) (fun i_ _ => fs.length - (intOf i_).toNat)
  case atStart => exact ⟨0, _, rfl, by omega, T1, S1, HR, BX1⟩
  case round =>
    obtain ⟨i, sti, rfl, hi, TR, SR, HE, BX⟩ := hrel
    have p0b := cell_of BX.out 0
    have p1b := cell_of BX.out 1
    have p2b := cell_of BX.out 2
    have p3b := cell_of BX.out 3
    simp at p0b p1b p2b p3b
    by_cases hlt : i < fs.length
    · obtain ⟨x, hx⟩ : ∃ x, fs[i]? = some x := ⟨_, List.getElem?_eq_getElem hlt⟩
      have hxok := HK.out x (List.mem_of_getElem? hx)
      have d3 : decide ((i : Int) < (fs.length : Int)) = true := by simp; omega
      have d4 : decide (i < fs.length) = true := by simpa using hlt
      have GR : Grew w0 wr := TR.out.grew0 G0.out hb0 (by omega)
      obtain ⟨bb', off', ea, _, hc⟩ := (HV.out.grew GR).get (by omega)
      have hce := hc i x hx
      have ea2 : bb' = bb ∧ off' = off := by simp at ea; exact ⟨ea.1.symm, ea.2.symm⟩
      rw [ea2.1, ea2.2] at hce
      clear ea ea2
      have HE2 : Hid (thenW (thenW sti (fieldW x)) (manyW fieldW (fs.drop (i + 1))) = R) := by show _ = _; rw [← HE.out, many_next hx]
      obtain ⟨⟨vn, vb, vh⟩, vm⟩ := x
      obtain ⟨⟨p0, p1, p2⟩, p3⟩ := hce
      simp only at p0 p1 p2 p3
      have C2 : ∀ (W : World), DW b B W sti (N + 13 * i) → Calls Tryd.prog 108 #[.pointer (some ⟨b, 0, none⟩), .agg #[.int .i64 vn, .bool vb, .int .i64 vh, .bool vm]] W (DA b B W (thenW sti (fieldW ⟨⟨vn, vb, vh⟩, vm⟩)) (N + 13 * i + 13)) := fun W u => dwField_any u ⟨⟨vn, vb, vh⟩, vm⟩ hxok (by omega)
      generalize fieldW ⟨⟨vn, vb, vh⟩, vm⟩ = Z at *
      clear hc hx GR HE
      go_wp2_with fail
      refine (C2 _ SR.out).mono ?_
      rintro en w2 ⟨rfl, t2, s2⟩
      have T2 : Hid (WT b B w w2) := TR.out.trans t2
      have S2 : Hid (DW b B w2 (thenW sti Z) (N + 13 * i + 13)) := s2
      have BX2 : Hid (w2.heap[w.heap.size]? = some (.cells #[.int .i64 kd, .slice pa ps.length pc, .slice ra rs.length rc, .slice (some ⟨bb, off, none⟩) fs.length fc] 99 (0, 0))) := t2.other BX.out hnP (NoT.of BX.out (by decide))
      clear BX p0b p1b p2b p3b
      clear t2 s2 C2 TR SR
      go_wp2_with fail
      go_roundw
      case rel => exact ⟨i + 1, _, by go_num, by omega, T2, S2.out.mono (by omega), HE2, BX2⟩
      case measure => simp [intOf]; omega
    · have d3 : decide ((i : Int) < (fs.length : Int)) = false := by simp; omega
      have d4 : decide (i < fs.length) = false := by simpa using hlt
      have E : Hid (sti = R) := by show _ = _; rw [← HE.out, many_last (by omega)]
      clear HE
      go_wp2_with fail
      go_end0
      exact ⟨rfl, TR.out, by rw [← E.out]; exact SR.out.mono (by have : i ≤ fs.length := hi; omega)⟩
theorem dwComp_any {b B : Nat} {w w0 : World} {st : Except Nat (List Int)} {N : Nat} (h : DW b B w st N) (g0 : Grew w0 w) (hb0 : w0.heap.size ≤ b) (c : CT) (pv rv fv : Value) (hc : CompR w0 c pv rv fv) (hk : okC c) (hN : N + szC c ≤ 17592186043000) :
    Calls Tryd.prog 79 #[.pointer (some ⟨b, 0, none⟩), .agg #[.int .i64 c.kind, pv, rv, fv]] w (DA b B w (thenW st (compW c)) (N + szC c)) := by
  obtain ⟨kd, ps, rs, fs⟩ := c
  obtain ⟨hp, hr, hf⟩ := hc
  obtain ⟨pa, pc, rfl, _, _⟩ := hp.one
  obtain ⟨ra, rc, rfl, _, _⟩ := hr.one
  obtain ⟨fa, fc, rfl, _, _⟩ := hf.one
  by_cases h1 : kd = 1
  · subst h1
    by_cases hz : fs = []
    · exact dc1_yes h g0 hb0 pa ra fa pc rc fc ps rs fs hp hr hf hk hz hN
    · exact dc1_no h g0 hb0 pa ra fa pc rc fc ps rs fs hp hr hf hk hz hN
  · by_cases h2 : kd = 2
    · subst h2
      by_cases hzp : ps = []
      · by_cases hzr : rs = []
        · skip
          rcases Nat.eq_zero_or_pos fs.length with hz0 | hz0
          · exact dc2_yes_e h g0 hb0 pa ra fa pc rc fc ps rs fs hp hr hf hk hz0 hzp hzr hN
          · obtain ⟨bb, off, rfl, _, _⟩ := hf.get hz0
            exact dc2_yes_f h g0 hb0 pa ra bb off pc rc fc ps rs fs hp hr hf hk hzp hzr hN
        · skip
          rcases Nat.eq_zero_or_pos fs.length with hz0 | hz0
          · exact dc2_noR_e h g0 hb0 pa ra fa pc rc fc ps rs fs hp hr hf hk hz0 hzp hzr hN
          · obtain ⟨bb, off, rfl, _, _⟩ := hf.get hz0
            exact dc2_noR_f h g0 hb0 pa ra bb off pc rc fc ps rs fs hp hr hf hk hzp hzr hN
      · skip
        rcases Nat.eq_zero_or_pos fs.length with hz0 | hz0
        · exact dc2_noP_e h g0 hb0 pa ra fa pc rc fc ps rs fs hp hr hf hk hz0 hzp hN
        · obtain ⟨bb, off, rfl, _, _⟩ := hf.get hz0
          exact dc2_noP_f h g0 hb0 pa ra bb off pc rc fc ps rs fs hp hr hf hk hzp hN
    · by_cases h3 : kd = 3
      · subst h3
        by_cases hzp : ps = []
        · by_cases hzr : rs = []
          · by_cases h1f : fs.length = 1
            · skip
              rcases Nat.eq_zero_or_pos fs.length with hz0 | hz0
              · exact dc3_yes_e h g0 hb0 pa ra fa pc rc fc ps rs fs hp hr hf hk hz0 hzp hzr h1f hN
              · obtain ⟨bb, off, rfl, _, _⟩ := hf.get hz0
                exact dc3_yes_f h g0 hb0 pa ra bb off pc rc fc ps rs fs hp hr hf hk hzp hzr h1f hN
            · skip
              rcases Nat.eq_zero_or_pos fs.length with hz0 | hz0
              · exact dc3_noF_e h g0 hb0 pa ra fa pc rc fc ps rs fs hp hr hf hk hz0 hzp hzr h1f hN
              · obtain ⟨bb, off, rfl, _, _⟩ := hf.get hz0
                exact dc3_noF_f h g0 hb0 pa ra bb off pc rc fc ps rs fs hp hr hf hk hzp hzr h1f hN
          · skip
            rcases Nat.eq_zero_or_pos fs.length with hz0 | hz0
            · exact dc3_noR_e h g0 hb0 pa ra fa pc rc fc ps rs fs hp hr hf hk hz0 hzp hzr hN
            · obtain ⟨bb, off, rfl, _, _⟩ := hf.get hz0
              exact dc3_noR_f h g0 hb0 pa ra bb off pc rc fc ps rs fs hp hr hf hk hzp hzr hN
        · skip
          rcases Nat.eq_zero_or_pos fs.length with hz0 | hz0
          · exact dc3_noP_e h g0 hb0 pa ra fa pc rc fc ps rs fs hp hr hf hk hz0 hzp hN
          · obtain ⟨bb, off, rfl, _, _⟩ := hf.get hz0
            exact dc3_noP_f h g0 hb0 pa ra bb off pc rc fc ps rs fs hp hr hf hk hzp hN
      · skip
        rcases Nat.eq_zero_or_pos fs.length with hz0 | hz0
        · exact dc9_e h g0 hb0 kd pa ra fa pc rc fc ps rs fs hp hr hf hk hz0 h1 h2 h3 hN
        · obtain ⟨bb, off, rfl, _, _⟩ := hf.get hz0
          exact dc9_f h g0 hb0 kd pa ra bb off pc rc fc ps rs fs hp hr hf hk h1 h2 h3 hN
end Go.Proofs.YtbhbogfdnaadeaaDoor
