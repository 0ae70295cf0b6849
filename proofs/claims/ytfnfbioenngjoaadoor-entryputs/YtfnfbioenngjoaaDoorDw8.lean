/-
  The document's writer: the walks of limits, done, PutHeapType, PutValType, PutLimits; no statement is proved here.
-/
import Derived.Test.YtfnfbioenngjoaaDoorDw7
import Derived.Test.YtfnfbioenngjoaaDoorAwk
namespace Go.Proofs.YtfnfbioenngjoaaDoor
open Go.RowKit
set_option linter.unusedVariables false
set_option linter.unusedSimpArgs false
set_option linter.constructorNameAsVariable false

def limW (wide : Bool) (mn mx : Int) (hm : Bool) : Except Nat (List Int) := if (hm = true ∨ mx = 0) ∧ (wide = true ∨ (mn ≤ 4294967295 ∧ mx ≤ 4294967295)) then .ok ((if wide then (if hm then 5 else 4) else (if hm then 1 else 0)) :: (PU mn ++ (if hm then PU mx else []))) else .error 4
set_option maxRecDepth 100000 in
set_option maxHeartbeats 2000000 in
theorem dl_tt {b B : Nat} {w : World} {st : Except Nat (List Int)} {N : Nat} (h : DW b B w st N) (mn : Int) (hn0 : 0 ≤ mn) (hn1 : mn ≤ 18446744073709551615) (mx : Int) (hx0 : 0 ≤ mx) (hx1 : mx ≤ 18446744073709551615) (hN : N ≤ 17592186044000) :
    Calls Tryd.prog 21 #[.pointer (some ⟨b, 0, none⟩), .agg #[.bool true, .int .u64 mn, .int .u64 mx, .bool true]] w (DA b B w (thenW st (limW true mn mx true)) (N + 23)) := by
  have E : Hid (thenW (thenW (thenW (thenW (thenW st (.ok [5])) (needW true 4)) (.ok (PU mn))) (needW true 4)) (.ok (PU mx)) = thenW st (limW true mn mx true)) := by
    show _ = _
    rw [limW, if_pos (by simp)]
    cases st <;> simp [thenW, needW]
  have S0 : Hid (DW b B (w.alloc (.cells #[.bool true, .int .u64 mn, .int .u64 mx, .bool true] 26)) st N) := h.grew ((Grew.refl w).alloc _)
  have T0 : Hid (WT b B w (w.alloc (.cells #[.bool true, .int .u64 mn, .int .u64 mx, .bool true] 26))) := WT.of_grew ((Grew.refl w).alloc _)
  have hbx : (w.alloc (.cells #[.bool true, .int .u64 mn, .int .u64 mx, .bool true] 26)).heap[w.heap.size]? = some (.cells #[.bool true, .int .u64 mn, .int .u64 mx, .bool true] 26 (0, 0)) := heap_alloc_last w _
  have hb : b < w.heap.size := h.blt
  have hblt : b < B := h.lt
  have hnP : w.heap.size ≠ b := by omega
  clear h
  go_enter Tryd.func21, Tryd.ntmps21
  obtain ⟨o0, e0, l0, h10, h20, h30, h40⟩ := S0.out.ex
  obtain ⟨oa0, oc0, rfl⟩ := row_one h20
  have c00 := cell_of h10 0
  simp at c00
  have R0 : Hid ((w.alloc (.cells #[.bool true, .int .u64 mn, .int .u64 mx, .bool true] 26)).ownsRow B 5 1 (.slice oa0 l0.length oc0) l0.length (U8 l0)) := h20
  have O0 : Hid ((w.alloc (.cells #[.bool true, .int .u64 mn, .int .u64 mx, .bool true] 26)).heap[b]? = some (dob (.slice oa0 l0.length oc0) e0)) := h10
  have E0 : Hid (StE (st) l0 e0) := h40
  have hlb0 : b < B := S0.out.lt
  have hBl0 : B ≤ (w.alloc (.cells #[.bool true, .int .u64 mn, .int .u64 mx, .bool true] 26)).heap.size := S0.out.le
  clear h10 h20 h40
  rw [alloc_size] at hBl0
  go_wp2_with (
    at_builtin
    refine wp_appG (w := ((w.alloc (.cells #[.bool true, .int .u64 mn, .int .u64 mx, .bool true] 26)).alloc (.cells #[.int .u8 5] 5))) (v := .slice oa0 l0.length oc0) (u := .slice (some ⟨w.heap.size + 1, 0, none⟩) 1 1) (r := [5]) rfl _ _ rfl rfl rfl (World.ownsRow.alloc R0.out _) (by simp; omega) (by have hrd := reads_new (w.alloc (.cells #[.bool true, .int .u64 mn, .int .u64 mx, .bool true] 26)) 5 5; rw [alloc_size] at hrd; exact hrd) (by simp; omega) ?_
    intro v1 x1 ho1 hg1
    obtain ⟨a1, cc1, hv1⟩ := row_one ho1
    rw [List.length_append] at hv1
    subst hv1
    have A1 := dw_app (b := b) (B := B) (w := ((w.alloc (.cells #[.bool true, .int .u64 mn, .int .u64 mx, .bool true] 26)).alloc (.cells #[.int .u8 5] 5))) (st := st) (N := N) (r := [5]) (heap_alloc O0.out _) (World.ownsRow.alloc R0.out _) h30 E0.out hlb0 (by simp; omega) ho1 hg1
    have q1 := cell_of A1.1 0
    have z1 := free_of A1.1 0
    simp at q1
    have HA1 : Hid (WT b B ((w.alloc (.cells #[.bool true, .int .u64 mn, .int .u64 mx, .bool true] 26)).alloc (.cells #[.int .u8 5] 5)) (x1.setCell ⟨b, 0, none⟩ (.slice a1 (l0.length + [(5 : Int)].length) cc1)) ∧ DW b B (x1.setCell ⟨b, 0, none⟩ (.slice a1 (l0.length + [(5 : Int)].length) cc1)) (thenW (st) (.ok [5])) (N + [(5 : Int)].length)) := A1.2
    have tt1 := A1.2.1
    have bxP1 : x1.heap[w.heap.size]? = some (.cells #[.bool true, .int .u64 mn, .int .u64 mx, .bool true] 26 (0, 0)) := (wt_grown (b := b) (World.ownsRow.alloc R0.out _) hg1).other (heap_alloc hbx _) hnP (NoT.of (heap_alloc hbx _) (by decide))
    have gP01 := cell_of bxP1 0
    have gP11 := cell_of bxP1 1
    have gP21 := cell_of bxP1 2
    have gP31 := cell_of bxP1 3
    simp at gP01 gP11 gP21 gP31
    clear A1 hg1 ho1 tt1 hbx)
  have T1 : Hid (WT b B w (x1.setCell ⟨b, 0, none⟩ (.slice a1 (l0.length + 1) cc1))) := (T0.out.trans (WT.of_grew ((Grew.refl _).alloc _))).trans HA1.out.1
  have S1 : Hid (DW b B (x1.setCell ⟨b, 0, none⟩ (.slice a1 (l0.length + 1) cc1)) (thenW (st) (.ok [5])) (N + 1)) := HA1.out.2
  clear HA1 T0 S0 c00 R0 O0 E0 hlb0 hBl0 h30
  have bxs := heap_other bxP1 (p := ⟨b, 0, none⟩) hnP (.slice a1 (l0.length + 1) cc1)
  skip
  refine (must_any S1.out true 4 (by decide)).mono ?_
  rintro en w2 ⟨rfl, t2, s2⟩
  have T2 : Hid (WT b B w w2) := T1.out.trans t2
  have S2 : Hid (DW b B w2 (thenW (thenW st (.ok [5])) (needW true 4)) (N + 1)) := s2
  have bx2 : w2.heap[w.heap.size]? = some (.cells #[.bool true, .int .u64 mn, .int .u64 mx, .bool true] 26 (0, 0)) := t2.other bxs hnP (NoT.of bxs (by decide))
  have f02 := cell_of bx2 0
  have f12 := cell_of bx2 1
  have f22 := cell_of bx2 2
  have f32 := cell_of bx2 3
  simp at f02 f12 f22 f32
  clear t2 s2 T1 S1 bxs gP01 gP11 gP21 gP31 bxP1 q1 z1
  go_wp2_with fail
  refine (du_any S2.out mn hn0 hn1 (by omega)).mono ?_
  rintro en w3 ⟨rfl, t3, s3⟩
  have T3 : Hid (WT b B w w3) := T2.out.trans t3
  have S3 : Hid (DW b B w3 (thenW (thenW (thenW st (.ok [5])) (needW true 4)) (.ok (PU mn))) (N + 1 + 11)) := s3
  have bx3 : w3.heap[w.heap.size]? = some (.cells #[.bool true, .int .u64 mn, .int .u64 mx, .bool true] 26 (0, 0)) := t3.other bx2 hnP (NoT.of bx2 (by decide))
  have f03 := cell_of bx3 0
  have f13 := cell_of bx3 1
  have f23 := cell_of bx3 2
  have f33 := cell_of bx3 3
  simp at f03 f13 f23 f33
  clear t3 s3 T2 S2 bx2 f02 f12 f22 f32
  go_wp2_with fail
  refine (must_any S3.out true 4 (by decide)).mono ?_
  rintro en w4 ⟨rfl, t4, s4⟩
  have T4 : Hid (WT b B w w4) := T3.out.trans t4
  have S4 : Hid (DW b B w4 (thenW (thenW (thenW (thenW st (.ok [5])) (needW true 4)) (.ok (PU mn))) (needW true 4)) (N + 1 + 11)) := s4
  have bx4 : w4.heap[w.heap.size]? = some (.cells #[.bool true, .int .u64 mn, .int .u64 mx, .bool true] 26 (0, 0)) := t4.other bx3 hnP (NoT.of bx3 (by decide))
  have f04 := cell_of bx4 0
  have f14 := cell_of bx4 1
  have f24 := cell_of bx4 2
  have f34 := cell_of bx4 3
  simp at f04 f14 f24 f34
  clear t4 s4 T3 S3 bx3 f03 f13 f23 f33
  go_wp2_with fail
  refine (du_any S4.out mx hx0 hx1 (by omega)).mono ?_
  rintro en w5 ⟨rfl, t5, s5⟩
  have T5 : Hid (WT b B w w5) := T4.out.trans t5
  have S5 : Hid (DW b B w5 (thenW (thenW (thenW (thenW (thenW st (.ok [5])) (needW true 4)) (.ok (PU mn))) (needW true 4)) (.ok (PU mx))) (N + 1 + 11 + 11)) := s5
  have bx5 : w5.heap[w.heap.size]? = some (.cells #[.bool true, .int .u64 mn, .int .u64 mx, .bool true] 26 (0, 0)) := t5.other bx4 hnP (NoT.of bx4 (by decide))
  have f05 := cell_of bx5 0
  have f15 := cell_of bx5 1
  have f25 := cell_of bx5 2
  have f35 := cell_of bx5 3
  simp at f05 f15 f25 f35
  clear t5 s5 T4 S4 bx4 f04 f14 f24 f34
  go_wp2_with fail
  go_end0
  exact ⟨rfl, T5.out, by rw [← E.out]; exact S5.out.mono (by omega)⟩
set_option maxRecDepth 100000 in
set_option maxHeartbeats 2000000 in
theorem dl_tf0 {b B : Nat} {w : World} {st : Except Nat (List Int)} {N : Nat} (h : DW b B w st N) (mn : Int) (hn0 : 0 ≤ mn) (hn1 : mn ≤ 18446744073709551615) (hN : N ≤ 17592186044000) :
    Calls Tryd.prog 21 #[.pointer (some ⟨b, 0, none⟩), .agg #[.bool true, .int .u64 mn, .int .u64 0, .bool false]] w (DA b B w (thenW st (limW true mn 0 false)) (N + 23)) := by
  have E : Hid (thenW (thenW (thenW (thenW st (.ok [4])) (needW true 4)) (.ok (PU mn))) (needW true 4) = thenW st (limW true mn 0 false)) := by
    show _ = _
    rw [limW, if_pos (by simp)]
    cases st <;> simp [thenW, needW]
  have S0 : Hid (DW b B (w.alloc (.cells #[.bool true, .int .u64 mn, .int .u64 0, .bool false] 26)) st N) := h.grew ((Grew.refl w).alloc _)
  have T0 : Hid (WT b B w (w.alloc (.cells #[.bool true, .int .u64 mn, .int .u64 0, .bool false] 26))) := WT.of_grew ((Grew.refl w).alloc _)
  have hbx : (w.alloc (.cells #[.bool true, .int .u64 mn, .int .u64 0, .bool false] 26)).heap[w.heap.size]? = some (.cells #[.bool true, .int .u64 mn, .int .u64 0, .bool false] 26 (0, 0)) := heap_alloc_last w _
  have hb : b < w.heap.size := h.blt
  have hblt : b < B := h.lt
  have hnP : w.heap.size ≠ b := by omega
  clear h
  go_enter Tryd.func21, Tryd.ntmps21
  obtain ⟨o0, e0, l0, h10, h20, h30, h40⟩ := S0.out.ex
  obtain ⟨oa0, oc0, rfl⟩ := row_one h20
  have c00 := cell_of h10 0
  simp at c00
  have R0 : Hid ((w.alloc (.cells #[.bool true, .int .u64 mn, .int .u64 0, .bool false] 26)).ownsRow B 5 1 (.slice oa0 l0.length oc0) l0.length (U8 l0)) := h20
  have O0 : Hid ((w.alloc (.cells #[.bool true, .int .u64 mn, .int .u64 0, .bool false] 26)).heap[b]? = some (dob (.slice oa0 l0.length oc0) e0)) := h10
  have E0 : Hid (StE (st) l0 e0) := h40
  have hlb0 : b < B := S0.out.lt
  have hBl0 : B ≤ (w.alloc (.cells #[.bool true, .int .u64 mn, .int .u64 0, .bool false] 26)).heap.size := S0.out.le
  clear h10 h20 h40
  rw [alloc_size] at hBl0
  go_wp2_with (
    at_builtin
    refine wp_appG (w := ((w.alloc (.cells #[.bool true, .int .u64 mn, .int .u64 0, .bool false] 26)).alloc (.cells #[.int .u8 4] 5))) (v := .slice oa0 l0.length oc0) (u := .slice (some ⟨w.heap.size + 1, 0, none⟩) 1 1) (r := [4]) rfl _ _ rfl rfl rfl (World.ownsRow.alloc R0.out _) (by simp; omega) (by have hrd := reads_new (w.alloc (.cells #[.bool true, .int .u64 mn, .int .u64 0, .bool false] 26)) 4 5; rw [alloc_size] at hrd; exact hrd) (by simp; omega) ?_
    intro v1 x1 ho1 hg1
    obtain ⟨a1, cc1, hv1⟩ := row_one ho1
    rw [List.length_append] at hv1
    subst hv1
    have A1 := dw_app (b := b) (B := B) (w := ((w.alloc (.cells #[.bool true, .int .u64 mn, .int .u64 0, .bool false] 26)).alloc (.cells #[.int .u8 4] 5))) (st := st) (N := N) (r := [4]) (heap_alloc O0.out _) (World.ownsRow.alloc R0.out _) h30 E0.out hlb0 (by simp; omega) ho1 hg1
    have q1 := cell_of A1.1 0
    have z1 := free_of A1.1 0
    simp at q1
    have HA1 : Hid (WT b B ((w.alloc (.cells #[.bool true, .int .u64 mn, .int .u64 0, .bool false] 26)).alloc (.cells #[.int .u8 4] 5)) (x1.setCell ⟨b, 0, none⟩ (.slice a1 (l0.length + [(4 : Int)].length) cc1)) ∧ DW b B (x1.setCell ⟨b, 0, none⟩ (.slice a1 (l0.length + [(4 : Int)].length) cc1)) (thenW (st) (.ok [4])) (N + [(4 : Int)].length)) := A1.2
    have tt1 := A1.2.1
    have bxP1 : x1.heap[w.heap.size]? = some (.cells #[.bool true, .int .u64 mn, .int .u64 0, .bool false] 26 (0, 0)) := (wt_grown (b := b) (World.ownsRow.alloc R0.out _) hg1).other (heap_alloc hbx _) hnP (NoT.of (heap_alloc hbx _) (by decide))
    have gP01 := cell_of bxP1 0
    have gP11 := cell_of bxP1 1
    have gP21 := cell_of bxP1 2
    have gP31 := cell_of bxP1 3
    simp at gP01 gP11 gP21 gP31
    clear A1 hg1 ho1 tt1 hbx)
  have T1 : Hid (WT b B w (x1.setCell ⟨b, 0, none⟩ (.slice a1 (l0.length + 1) cc1))) := (T0.out.trans (WT.of_grew ((Grew.refl _).alloc _))).trans HA1.out.1
  have S1 : Hid (DW b B (x1.setCell ⟨b, 0, none⟩ (.slice a1 (l0.length + 1) cc1)) (thenW (st) (.ok [4])) (N + 1)) := HA1.out.2
  clear HA1 T0 S0 c00 R0 O0 E0 hlb0 hBl0 h30
  have bxs := heap_other bxP1 (p := ⟨b, 0, none⟩) hnP (.slice a1 (l0.length + 1) cc1)
  skip
  refine (must_any S1.out true 4 (by decide)).mono ?_
  rintro en w2 ⟨rfl, t2, s2⟩
  have T2 : Hid (WT b B w w2) := T1.out.trans t2
  have S2 : Hid (DW b B w2 (thenW (thenW st (.ok [4])) (needW true 4)) (N + 1)) := s2
  have bx2 : w2.heap[w.heap.size]? = some (.cells #[.bool true, .int .u64 mn, .int .u64 0, .bool false] 26 (0, 0)) := t2.other bxs hnP (NoT.of bxs (by decide))
  have f02 := cell_of bx2 0
  have f12 := cell_of bx2 1
  have f22 := cell_of bx2 2
  have f32 := cell_of bx2 3
  simp at f02 f12 f22 f32
  clear t2 s2 T1 S1 bxs gP01 gP11 gP21 gP31 bxP1 q1 z1
  go_wp2_with fail
  refine (du_any S2.out mn hn0 hn1 (by omega)).mono ?_
  rintro en w3 ⟨rfl, t3, s3⟩
  have T3 : Hid (WT b B w w3) := T2.out.trans t3
  have S3 : Hid (DW b B w3 (thenW (thenW (thenW st (.ok [4])) (needW true 4)) (.ok (PU mn))) (N + 1 + 11)) := s3
  have bx3 : w3.heap[w.heap.size]? = some (.cells #[.bool true, .int .u64 mn, .int .u64 0, .bool false] 26 (0, 0)) := t3.other bx2 hnP (NoT.of bx2 (by decide))
  have f03 := cell_of bx3 0
  have f13 := cell_of bx3 1
  have f23 := cell_of bx3 2
  have f33 := cell_of bx3 3
  simp at f03 f13 f23 f33
  clear t3 s3 T2 S2 bx2 f02 f12 f22 f32
  go_wp2_with fail
  refine (must_any S3.out true 4 (by decide)).mono ?_
  rintro en w4 ⟨rfl, t4, s4⟩
  have T4 : Hid (WT b B w w4) := T3.out.trans t4
  have S4 : Hid (DW b B w4 (thenW (thenW (thenW (thenW st (.ok [4])) (needW true 4)) (.ok (PU mn))) (needW true 4)) (N + 1 + 11)) := s4
  have bx4 : w4.heap[w.heap.size]? = some (.cells #[.bool true, .int .u64 mn, .int .u64 0, .bool false] 26 (0, 0)) := t4.other bx3 hnP (NoT.of bx3 (by decide))
  have f04 := cell_of bx4 0
  have f14 := cell_of bx4 1
  have f24 := cell_of bx4 2
  have f34 := cell_of bx4 3
  simp at f04 f14 f24 f34
  clear t4 s4 T3 S3 bx3 f03 f13 f23 f33
  go_wp2_with fail
  go_end0
  exact ⟨rfl, T4.out, by rw [← E.out]; exact S4.out.mono (by omega)⟩
set_option maxRecDepth 100000 in
set_option maxHeartbeats 2000000 in
theorem dl_tf1 {b B : Nat} {w : World} {st : Except Nat (List Int)} {N : Nat} (h : DW b B w st N) (mn : Int) (hn0 : 0 ≤ mn) (hn1 : mn ≤ 18446744073709551615) (mx : Int) (hx0 : 0 ≤ mx) (hx1 : mx ≤ 18446744073709551615) (hm0 : mx ≠ 0) (hN : N ≤ 17592186044000) :
    Calls Tryd.prog 21 #[.pointer (some ⟨b, 0, none⟩), .agg #[.bool true, .int .u64 mn, .int .u64 mx, .bool false]] w (DA b B w (thenW st (limW true mn mx false)) (N + 23)) := by
  have d3 : (mx == 0) = false := by simpa using hm0
  have E : Hid (thenW (thenW (thenW (thenW st (.ok [4])) (needW true 4)) (.ok (PU mn))) (needW false 4) = thenW st (limW true mn mx false)) := by
    show _ = _
    rw [limW, if_neg (by simp; omega)]
    cases st <;> simp [thenW, needW]
  have S0 : Hid (DW b B (w.alloc (.cells #[.bool true, .int .u64 mn, .int .u64 mx, .bool false] 26)) st N) := h.grew ((Grew.refl w).alloc _)
  have T0 : Hid (WT b B w (w.alloc (.cells #[.bool true, .int .u64 mn, .int .u64 mx, .bool false] 26))) := WT.of_grew ((Grew.refl w).alloc _)
  have hbx : (w.alloc (.cells #[.bool true, .int .u64 mn, .int .u64 mx, .bool false] 26)).heap[w.heap.size]? = some (.cells #[.bool true, .int .u64 mn, .int .u64 mx, .bool false] 26 (0, 0)) := heap_alloc_last w _
  have hb : b < w.heap.size := h.blt
  have hblt : b < B := h.lt
  have hnP : w.heap.size ≠ b := by omega
  clear h
  go_enter Tryd.func21, Tryd.ntmps21
  obtain ⟨o0, e0, l0, h10, h20, h30, h40⟩ := S0.out.ex
  obtain ⟨oa0, oc0, rfl⟩ := row_one h20
  have c00 := cell_of h10 0
  simp at c00
  have R0 : Hid ((w.alloc (.cells #[.bool true, .int .u64 mn, .int .u64 mx, .bool false] 26)).ownsRow B 5 1 (.slice oa0 l0.length oc0) l0.length (U8 l0)) := h20
  have O0 : Hid ((w.alloc (.cells #[.bool true, .int .u64 mn, .int .u64 mx, .bool false] 26)).heap[b]? = some (dob (.slice oa0 l0.length oc0) e0)) := h10
  have E0 : Hid (StE (st) l0 e0) := h40
  have hlb0 : b < B := S0.out.lt
  have hBl0 : B ≤ (w.alloc (.cells #[.bool true, .int .u64 mn, .int .u64 mx, .bool false] 26)).heap.size := S0.out.le
  clear h10 h20 h40
  rw [alloc_size] at hBl0
  go_wp2_with (
    at_builtin
    refine wp_appG (w := ((w.alloc (.cells #[.bool true, .int .u64 mn, .int .u64 mx, .bool false] 26)).alloc (.cells #[.int .u8 4] 5))) (v := .slice oa0 l0.length oc0) (u := .slice (some ⟨w.heap.size + 1, 0, none⟩) 1 1) (r := [4]) rfl _ _ rfl rfl rfl (World.ownsRow.alloc R0.out _) (by simp; omega) (by have hrd := reads_new (w.alloc (.cells #[.bool true, .int .u64 mn, .int .u64 mx, .bool false] 26)) 4 5; rw [alloc_size] at hrd; exact hrd) (by simp; omega) ?_
    intro v1 x1 ho1 hg1
    obtain ⟨a1, cc1, hv1⟩ := row_one ho1
    rw [List.length_append] at hv1
    subst hv1
    have A1 := dw_app (b := b) (B := B) (w := ((w.alloc (.cells #[.bool true, .int .u64 mn, .int .u64 mx, .bool false] 26)).alloc (.cells #[.int .u8 4] 5))) (st := st) (N := N) (r := [4]) (heap_alloc O0.out _) (World.ownsRow.alloc R0.out _) h30 E0.out hlb0 (by simp; omega) ho1 hg1
    have q1 := cell_of A1.1 0
    have z1 := free_of A1.1 0
    simp at q1
    have HA1 : Hid (WT b B ((w.alloc (.cells #[.bool true, .int .u64 mn, .int .u64 mx, .bool false] 26)).alloc (.cells #[.int .u8 4] 5)) (x1.setCell ⟨b, 0, none⟩ (.slice a1 (l0.length + [(4 : Int)].length) cc1)) ∧ DW b B (x1.setCell ⟨b, 0, none⟩ (.slice a1 (l0.length + [(4 : Int)].length) cc1)) (thenW (st) (.ok [4])) (N + [(4 : Int)].length)) := A1.2
    have tt1 := A1.2.1
    have bxP1 : x1.heap[w.heap.size]? = some (.cells #[.bool true, .int .u64 mn, .int .u64 mx, .bool false] 26 (0, 0)) := (wt_grown (b := b) (World.ownsRow.alloc R0.out _) hg1).other (heap_alloc hbx _) hnP (NoT.of (heap_alloc hbx _) (by decide))
    have gP01 := cell_of bxP1 0
    have gP11 := cell_of bxP1 1
    have gP21 := cell_of bxP1 2
    have gP31 := cell_of bxP1 3
    simp at gP01 gP11 gP21 gP31
    clear A1 hg1 ho1 tt1 hbx)
  have T1 : Hid (WT b B w (x1.setCell ⟨b, 0, none⟩ (.slice a1 (l0.length + 1) cc1))) := (T0.out.trans (WT.of_grew ((Grew.refl _).alloc _))).trans HA1.out.1
  have S1 : Hid (DW b B (x1.setCell ⟨b, 0, none⟩ (.slice a1 (l0.length + 1) cc1)) (thenW (st) (.ok [4])) (N + 1)) := HA1.out.2
  clear HA1 T0 S0 c00 R0 O0 E0 hlb0 hBl0 h30
  have bxs := heap_other bxP1 (p := ⟨b, 0, none⟩) hnP (.slice a1 (l0.length + 1) cc1)
  skip
  refine (must_any S1.out true 4 (by decide)).mono ?_
  rintro en w2 ⟨rfl, t2, s2⟩
  have T2 : Hid (WT b B w w2) := T1.out.trans t2
  have S2 : Hid (DW b B w2 (thenW (thenW st (.ok [4])) (needW true 4)) (N + 1)) := s2
  have bx2 : w2.heap[w.heap.size]? = some (.cells #[.bool true, .int .u64 mn, .int .u64 mx, .bool false] 26 (0, 0)) := t2.other bxs hnP (NoT.of bxs (by decide))
  have f02 := cell_of bx2 0
  have f12 := cell_of bx2 1
  have f22 := cell_of bx2 2
  have f32 := cell_of bx2 3
  simp at f02 f12 f22 f32
  clear t2 s2 T1 S1 bxs gP01 gP11 gP21 gP31 bxP1 q1 z1
  go_wp2_with fail
  refine (du_any S2.out mn hn0 hn1 (by omega)).mono ?_
  rintro en w3 ⟨rfl, t3, s3⟩
  have T3 : Hid (WT b B w w3) := T2.out.trans t3
  have S3 : Hid (DW b B w3 (thenW (thenW (thenW st (.ok [4])) (needW true 4)) (.ok (PU mn))) (N + 1 + 11)) := s3
  have bx3 : w3.heap[w.heap.size]? = some (.cells #[.bool true, .int .u64 mn, .int .u64 mx, .bool false] 26 (0, 0)) := t3.other bx2 hnP (NoT.of bx2 (by decide))
  have f03 := cell_of bx3 0
  have f13 := cell_of bx3 1
  have f23 := cell_of bx3 2
  have f33 := cell_of bx3 3
  simp at f03 f13 f23 f33
  clear t3 s3 T2 S2 bx2 f02 f12 f22 f32
  go_wp2_with fail
  refine (must_any S3.out false 4 (by decide)).mono ?_
  rintro en w4 ⟨rfl, t4, s4⟩
  have T4 : Hid (WT b B w w4) := T3.out.trans t4
  have S4 : Hid (DW b B w4 (thenW (thenW (thenW (thenW st (.ok [4])) (needW true 4)) (.ok (PU mn))) (needW false 4)) (N + 1 + 11)) := s4
  have bx4 : w4.heap[w.heap.size]? = some (.cells #[.bool true, .int .u64 mn, .int .u64 mx, .bool false] 26 (0, 0)) := t4.other bx3 hnP (NoT.of bx3 (by decide))
  have f04 := cell_of bx4 0
  have f14 := cell_of bx4 1
  have f24 := cell_of bx4 2
  have f34 := cell_of bx4 3
  simp at f04 f14 f24 f34
  clear t4 s4 T3 S3 bx3 f03 f13 f23 f33
  go_wp2_with fail
  go_end0
  exact ⟨rfl, T4.out, by rw [← E.out]; exact S4.out.mono (by omega)⟩
set_option maxRecDepth 100000 in
set_option maxHeartbeats 2000000 in
theorem dl_ftgs {b B : Nat} {w : World} {st : Except Nat (List Int)} {N : Nat} (h : DW b B w st N) (mn : Int) (hn0 : 0 ≤ mn) (hn1 : mn ≤ 18446744073709551615) (mx : Int) (hx0 : 0 ≤ mx) (hx1 : mx ≤ 18446744073709551615) (hmn : mn ≤ 4294967295) (hmx : mx ≤ 4294967295) (hN : N ≤ 17592186044000) :
    Calls Tryd.prog 21 #[.pointer (some ⟨b, 0, none⟩), .agg #[.bool false, .int .u64 mn, .int .u64 mx, .bool true]] w (DA b B w (thenW st (limW false mn mx true)) (N + 23)) := by
  have d1 : decide (mn < 4294967296) = true := by simp; omega
  have d2 : decide (mx < 4294967296) = true := by simp; omega
  have E : Hid (thenW (thenW (thenW (thenW (thenW st (.ok [1])) (needW true 4)) (.ok (PU mn))) (needW true 4)) (.ok (PU mx)) = thenW st (limW false mn mx true)) := by
    show _ = _
    rw [limW, if_pos (by simp; omega)]
    cases st <;> simp [thenW, needW]
  have S0 : Hid (DW b B (w.alloc (.cells #[.bool false, .int .u64 mn, .int .u64 mx, .bool true] 26)) st N) := h.grew ((Grew.refl w).alloc _)
  have T0 : Hid (WT b B w (w.alloc (.cells #[.bool false, .int .u64 mn, .int .u64 mx, .bool true] 26))) := WT.of_grew ((Grew.refl w).alloc _)
  have hbx : (w.alloc (.cells #[.bool false, .int .u64 mn, .int .u64 mx, .bool true] 26)).heap[w.heap.size]? = some (.cells #[.bool false, .int .u64 mn, .int .u64 mx, .bool true] 26 (0, 0)) := heap_alloc_last w _
  have hb : b < w.heap.size := h.blt
  have hblt : b < B := h.lt
  have hnP : w.heap.size ≠ b := by omega
  clear h
  go_enter Tryd.func21, Tryd.ntmps21
  obtain ⟨o0, e0, l0, h10, h20, h30, h40⟩ := S0.out.ex
  obtain ⟨oa0, oc0, rfl⟩ := row_one h20
  have c00 := cell_of h10 0
  simp at c00
  have R0 : Hid ((w.alloc (.cells #[.bool false, .int .u64 mn, .int .u64 mx, .bool true] 26)).ownsRow B 5 1 (.slice oa0 l0.length oc0) l0.length (U8 l0)) := h20
  have O0 : Hid ((w.alloc (.cells #[.bool false, .int .u64 mn, .int .u64 mx, .bool true] 26)).heap[b]? = some (dob (.slice oa0 l0.length oc0) e0)) := h10
  have E0 : Hid (StE (st) l0 e0) := h40
  have hlb0 : b < B := S0.out.lt
  have hBl0 : B ≤ (w.alloc (.cells #[.bool false, .int .u64 mn, .int .u64 mx, .bool true] 26)).heap.size := S0.out.le
  clear h10 h20 h40
  rw [alloc_size] at hBl0
  go_wp2_with (
    at_builtin
    refine wp_appG (w := ((w.alloc (.cells #[.bool false, .int .u64 mn, .int .u64 mx, .bool true] 26)).alloc (.cells #[.int .u8 1] 5))) (v := .slice oa0 l0.length oc0) (u := .slice (some ⟨w.heap.size + 1, 0, none⟩) 1 1) (r := [1]) rfl _ _ rfl rfl rfl (World.ownsRow.alloc R0.out _) (by simp; omega) (by have hrd := reads_new (w.alloc (.cells #[.bool false, .int .u64 mn, .int .u64 mx, .bool true] 26)) 1 5; rw [alloc_size] at hrd; exact hrd) (by simp; omega) ?_
    intro v1 x1 ho1 hg1
    obtain ⟨a1, cc1, hv1⟩ := row_one ho1
    rw [List.length_append] at hv1
    subst hv1
    have A1 := dw_app (b := b) (B := B) (w := ((w.alloc (.cells #[.bool false, .int .u64 mn, .int .u64 mx, .bool true] 26)).alloc (.cells #[.int .u8 1] 5))) (st := st) (N := N) (r := [1]) (heap_alloc O0.out _) (World.ownsRow.alloc R0.out _) h30 E0.out hlb0 (by simp; omega) ho1 hg1
    have q1 := cell_of A1.1 0
    have z1 := free_of A1.1 0
    simp at q1
    have HA1 : Hid (WT b B ((w.alloc (.cells #[.bool false, .int .u64 mn, .int .u64 mx, .bool true] 26)).alloc (.cells #[.int .u8 1] 5)) (x1.setCell ⟨b, 0, none⟩ (.slice a1 (l0.length + [(1 : Int)].length) cc1)) ∧ DW b B (x1.setCell ⟨b, 0, none⟩ (.slice a1 (l0.length + [(1 : Int)].length) cc1)) (thenW (st) (.ok [1])) (N + [(1 : Int)].length)) := A1.2
    have tt1 := A1.2.1
    have bxP1 : x1.heap[w.heap.size]? = some (.cells #[.bool false, .int .u64 mn, .int .u64 mx, .bool true] 26 (0, 0)) := (wt_grown (b := b) (World.ownsRow.alloc R0.out _) hg1).other (heap_alloc hbx _) hnP (NoT.of (heap_alloc hbx _) (by decide))
    have gP01 := cell_of bxP1 0
    have gP11 := cell_of bxP1 1
    have gP21 := cell_of bxP1 2
    have gP31 := cell_of bxP1 3
    simp at gP01 gP11 gP21 gP31
    clear A1 hg1 ho1 tt1 hbx)
  have T1 : Hid (WT b B w (x1.setCell ⟨b, 0, none⟩ (.slice a1 (l0.length + 1) cc1))) := (T0.out.trans (WT.of_grew ((Grew.refl _).alloc _))).trans HA1.out.1
  have S1 : Hid (DW b B (x1.setCell ⟨b, 0, none⟩ (.slice a1 (l0.length + 1) cc1)) (thenW (st) (.ok [1])) (N + 1)) := HA1.out.2
  clear HA1 T0 S0 c00 R0 O0 E0 hlb0 hBl0 h30
  have bxs := heap_other bxP1 (p := ⟨b, 0, none⟩) hnP (.slice a1 (l0.length + 1) cc1)
  skip
  refine (must_any S1.out true 4 (by decide)).mono ?_
  rintro en w2 ⟨rfl, t2, s2⟩
  have T2 : Hid (WT b B w w2) := T1.out.trans t2
  have S2 : Hid (DW b B w2 (thenW (thenW st (.ok [1])) (needW true 4)) (N + 1)) := s2
  have bx2 : w2.heap[w.heap.size]? = some (.cells #[.bool false, .int .u64 mn, .int .u64 mx, .bool true] 26 (0, 0)) := t2.other bxs hnP (NoT.of bxs (by decide))
  have f02 := cell_of bx2 0
  have f12 := cell_of bx2 1
  have f22 := cell_of bx2 2
  have f32 := cell_of bx2 3
  simp at f02 f12 f22 f32
  clear t2 s2 T1 S1 bxs gP01 gP11 gP21 gP31 bxP1 q1 z1
  go_wp2_with fail
  refine (du_any S2.out mn hn0 hn1 (by omega)).mono ?_
  rintro en w3 ⟨rfl, t3, s3⟩
  have T3 : Hid (WT b B w w3) := T2.out.trans t3
  have S3 : Hid (DW b B w3 (thenW (thenW (thenW st (.ok [1])) (needW true 4)) (.ok (PU mn))) (N + 1 + 11)) := s3
  have bx3 : w3.heap[w.heap.size]? = some (.cells #[.bool false, .int .u64 mn, .int .u64 mx, .bool true] 26 (0, 0)) := t3.other bx2 hnP (NoT.of bx2 (by decide))
  have f03 := cell_of bx3 0
  have f13 := cell_of bx3 1
  have f23 := cell_of bx3 2
  have f33 := cell_of bx3 3
  simp at f03 f13 f23 f33
  clear t3 s3 T2 S2 bx2 f02 f12 f22 f32
  go_wp2_with fail
  refine (must_any S3.out true 4 (by decide)).mono ?_
  rintro en w4 ⟨rfl, t4, s4⟩
  have T4 : Hid (WT b B w w4) := T3.out.trans t4
  have S4 : Hid (DW b B w4 (thenW (thenW (thenW (thenW st (.ok [1])) (needW true 4)) (.ok (PU mn))) (needW true 4)) (N + 1 + 11)) := s4
  have bx4 : w4.heap[w.heap.size]? = some (.cells #[.bool false, .int .u64 mn, .int .u64 mx, .bool true] 26 (0, 0)) := t4.other bx3 hnP (NoT.of bx3 (by decide))
  have f04 := cell_of bx4 0
  have f14 := cell_of bx4 1
  have f24 := cell_of bx4 2
  have f34 := cell_of bx4 3
  simp at f04 f14 f24 f34
  clear t4 s4 T3 S3 bx3 f03 f13 f23 f33
  go_wp2_with fail
  refine (du_any S4.out mx hx0 hx1 (by omega)).mono ?_
  rintro en w5 ⟨rfl, t5, s5⟩
  have T5 : Hid (WT b B w w5) := T4.out.trans t5
  have S5 : Hid (DW b B w5 (thenW (thenW (thenW (thenW (thenW st (.ok [1])) (needW true 4)) (.ok (PU mn))) (needW true 4)) (.ok (PU mx))) (N + 1 + 11 + 11)) := s5
  have bx5 : w5.heap[w.heap.size]? = some (.cells #[.bool false, .int .u64 mn, .int .u64 mx, .bool true] 26 (0, 0)) := t5.other bx4 hnP (NoT.of bx4 (by decide))
  have f05 := cell_of bx5 0
  have f15 := cell_of bx5 1
  have f25 := cell_of bx5 2
  have f35 := cell_of bx5 3
  simp at f05 f15 f25 f35
  clear t5 s5 T4 S4 bx4 f04 f14 f24 f34
  go_wp2_with fail
  go_end0
  exact ⟨rfl, T5.out, by rw [← E.out]; exact S5.out.mono (by omega)⟩
set_option maxRecDepth 100000 in
set_option maxHeartbeats 2000000 in
theorem dl_ftgb {b B : Nat} {w : World} {st : Except Nat (List Int)} {N : Nat} (h : DW b B w st N) (mn : Int) (hn0 : 0 ≤ mn) (hn1 : mn ≤ 18446744073709551615) (mx : Int) (hx0 : 0 ≤ mx) (hx1 : mx ≤ 18446744073709551615) (hmn : mn ≤ 4294967295) (hmx : 4294967295 < mx) (hN : N ≤ 17592186044000) :
    Calls Tryd.prog 21 #[.pointer (some ⟨b, 0, none⟩), .agg #[.bool false, .int .u64 mn, .int .u64 mx, .bool true]] w (DA b B w (thenW st (limW false mn mx true)) (N + 23)) := by
  have d1 : decide (mn < 4294967296) = true := by simp; omega
  have d2 : decide (mx < 4294967296) = false := by simp; omega
  have E : Hid (thenW (thenW (thenW (thenW (thenW st (.ok [1])) (needW true 4)) (.ok (PU mn))) (needW false 4)) (.ok (PU mx)) = thenW st (limW false mn mx true)) := by
    show _ = _
    rw [limW, if_neg (by simp; omega)]
    cases st <;> simp [thenW, needW]
  have S0 : Hid (DW b B (w.alloc (.cells #[.bool false, .int .u64 mn, .int .u64 mx, .bool true] 26)) st N) := h.grew ((Grew.refl w).alloc _)
  have T0 : Hid (WT b B w (w.alloc (.cells #[.bool false, .int .u64 mn, .int .u64 mx, .bool true] 26))) := WT.of_grew ((Grew.refl w).alloc _)
  have hbx : (w.alloc (.cells #[.bool false, .int .u64 mn, .int .u64 mx, .bool true] 26)).heap[w.heap.size]? = some (.cells #[.bool false, .int .u64 mn, .int .u64 mx, .bool true] 26 (0, 0)) := heap_alloc_last w _
  have hb : b < w.heap.size := h.blt
  have hblt : b < B := h.lt
  have hnP : w.heap.size ≠ b := by omega
  clear h
  go_enter Tryd.func21, Tryd.ntmps21
  obtain ⟨o0, e0, l0, h10, h20, h30, h40⟩ := S0.out.ex
  obtain ⟨oa0, oc0, rfl⟩ := row_one h20
  have c00 := cell_of h10 0
  simp at c00
  have R0 : Hid ((w.alloc (.cells #[.bool false, .int .u64 mn, .int .u64 mx, .bool true] 26)).ownsRow B 5 1 (.slice oa0 l0.length oc0) l0.length (U8 l0)) := h20
  have O0 : Hid ((w.alloc (.cells #[.bool false, .int .u64 mn, .int .u64 mx, .bool true] 26)).heap[b]? = some (dob (.slice oa0 l0.length oc0) e0)) := h10
  have E0 : Hid (StE (st) l0 e0) := h40
  have hlb0 : b < B := S0.out.lt
  have hBl0 : B ≤ (w.alloc (.cells #[.bool false, .int .u64 mn, .int .u64 mx, .bool true] 26)).heap.size := S0.out.le
  clear h10 h20 h40
  rw [alloc_size] at hBl0
  go_wp2_with (
    at_builtin
    refine wp_appG (w := ((w.alloc (.cells #[.bool false, .int .u64 mn, .int .u64 mx, .bool true] 26)).alloc (.cells #[.int .u8 1] 5))) (v := .slice oa0 l0.length oc0) (u := .slice (some ⟨w.heap.size + 1, 0, none⟩) 1 1) (r := [1]) rfl _ _ rfl rfl rfl (World.ownsRow.alloc R0.out _) (by simp; omega) (by have hrd := reads_new (w.alloc (.cells #[.bool false, .int .u64 mn, .int .u64 mx, .bool true] 26)) 1 5; rw [alloc_size] at hrd; exact hrd) (by simp; omega) ?_
    intro v1 x1 ho1 hg1
    obtain ⟨a1, cc1, hv1⟩ := row_one ho1
    rw [List.length_append] at hv1
    subst hv1
    have A1 := dw_app (b := b) (B := B) (w := ((w.alloc (.cells #[.bool false, .int .u64 mn, .int .u64 mx, .bool true] 26)).alloc (.cells #[.int .u8 1] 5))) (st := st) (N := N) (r := [1]) (heap_alloc O0.out _) (World.ownsRow.alloc R0.out _) h30 E0.out hlb0 (by simp; omega) ho1 hg1
    have q1 := cell_of A1.1 0
    have z1 := free_of A1.1 0
    simp at q1
    have HA1 : Hid (WT b B ((w.alloc (.cells #[.bool false, .int .u64 mn, .int .u64 mx, .bool true] 26)).alloc (.cells #[.int .u8 1] 5)) (x1.setCell ⟨b, 0, none⟩ (.slice a1 (l0.length + [(1 : Int)].length) cc1)) ∧ DW b B (x1.setCell ⟨b, 0, none⟩ (.slice a1 (l0.length + [(1 : Int)].length) cc1)) (thenW (st) (.ok [1])) (N + [(1 : Int)].length)) := A1.2
    have tt1 := A1.2.1
    have bxP1 : x1.heap[w.heap.size]? = some (.cells #[.bool false, .int .u64 mn, .int .u64 mx, .bool true] 26 (0, 0)) := (wt_grown (b := b) (World.ownsRow.alloc R0.out _) hg1).other (heap_alloc hbx _) hnP (NoT.of (heap_alloc hbx _) (by decide))
    have gP01 := cell_of bxP1 0
    have gP11 := cell_of bxP1 1
    have gP21 := cell_of bxP1 2
    have gP31 := cell_of bxP1 3
    simp at gP01 gP11 gP21 gP31
    clear A1 hg1 ho1 tt1 hbx)
  have T1 : Hid (WT b B w (x1.setCell ⟨b, 0, none⟩ (.slice a1 (l0.length + 1) cc1))) := (T0.out.trans (WT.of_grew ((Grew.refl _).alloc _))).trans HA1.out.1
  have S1 : Hid (DW b B (x1.setCell ⟨b, 0, none⟩ (.slice a1 (l0.length + 1) cc1)) (thenW (st) (.ok [1])) (N + 1)) := HA1.out.2
  clear HA1 T0 S0 c00 R0 O0 E0 hlb0 hBl0 h30
  have bxs := heap_other bxP1 (p := ⟨b, 0, none⟩) hnP (.slice a1 (l0.length + 1) cc1)
  skip
  refine (must_any S1.out true 4 (by decide)).mono ?_
  rintro en w2 ⟨rfl, t2, s2⟩
  have T2 : Hid (WT b B w w2) := T1.out.trans t2
  have S2 : Hid (DW b B w2 (thenW (thenW st (.ok [1])) (needW true 4)) (N + 1)) := s2
  have bx2 : w2.heap[w.heap.size]? = some (.cells #[.bool false, .int .u64 mn, .int .u64 mx, .bool true] 26 (0, 0)) := t2.other bxs hnP (NoT.of bxs (by decide))
  have f02 := cell_of bx2 0
  have f12 := cell_of bx2 1
  have f22 := cell_of bx2 2
  have f32 := cell_of bx2 3
  simp at f02 f12 f22 f32
  clear t2 s2 T1 S1 bxs gP01 gP11 gP21 gP31 bxP1 q1 z1
  go_wp2_with fail
  refine (du_any S2.out mn hn0 hn1 (by omega)).mono ?_
  rintro en w3 ⟨rfl, t3, s3⟩
  have T3 : Hid (WT b B w w3) := T2.out.trans t3
  have S3 : Hid (DW b B w3 (thenW (thenW (thenW st (.ok [1])) (needW true 4)) (.ok (PU mn))) (N + 1 + 11)) := s3
  have bx3 : w3.heap[w.heap.size]? = some (.cells #[.bool false, .int .u64 mn, .int .u64 mx, .bool true] 26 (0, 0)) := t3.other bx2 hnP (NoT.of bx2 (by decide))
  have f03 := cell_of bx3 0
  have f13 := cell_of bx3 1
  have f23 := cell_of bx3 2
  have f33 := cell_of bx3 3
  simp at f03 f13 f23 f33
  clear t3 s3 T2 S2 bx2 f02 f12 f22 f32
  go_wp2_with fail
  refine (must_any S3.out false 4 (by decide)).mono ?_
  rintro en w4 ⟨rfl, t4, s4⟩
  have T4 : Hid (WT b B w w4) := T3.out.trans t4
  have S4 : Hid (DW b B w4 (thenW (thenW (thenW (thenW st (.ok [1])) (needW true 4)) (.ok (PU mn))) (needW false 4)) (N + 1 + 11)) := s4
  have bx4 : w4.heap[w.heap.size]? = some (.cells #[.bool false, .int .u64 mn, .int .u64 mx, .bool true] 26 (0, 0)) := t4.other bx3 hnP (NoT.of bx3 (by decide))
  have f04 := cell_of bx4 0
  have f14 := cell_of bx4 1
  have f24 := cell_of bx4 2
  have f34 := cell_of bx4 3
  simp at f04 f14 f24 f34
  clear t4 s4 T3 S3 bx3 f03 f13 f23 f33
  go_wp2_with fail
  refine (du_any S4.out mx hx0 hx1 (by omega)).mono ?_
  rintro en w5 ⟨rfl, t5, s5⟩
  have T5 : Hid (WT b B w w5) := T4.out.trans t5
  have S5 : Hid (DW b B w5 (thenW (thenW (thenW (thenW (thenW st (.ok [1])) (needW true 4)) (.ok (PU mn))) (needW false 4)) (.ok (PU mx))) (N + 1 + 11 + 11)) := s5
  have bx5 : w5.heap[w.heap.size]? = some (.cells #[.bool false, .int .u64 mn, .int .u64 mx, .bool true] 26 (0, 0)) := t5.other bx4 hnP (NoT.of bx4 (by decide))
  have f05 := cell_of bx5 0
  have f15 := cell_of bx5 1
  have f25 := cell_of bx5 2
  have f35 := cell_of bx5 3
  simp at f05 f15 f25 f35
  clear t5 s5 T4 S4 bx4 f04 f14 f24 f34
  go_wp2_with fail
  go_end0
  exact ⟨rfl, T5.out, by rw [← E.out]; exact S5.out.mono (by omega)⟩
set_option maxRecDepth 100000 in
set_option maxHeartbeats 2000000 in
theorem dl_ffg0 {b B : Nat} {w : World} {st : Except Nat (List Int)} {N : Nat} (h : DW b B w st N) (mn : Int) (hn0 : 0 ≤ mn) (hn1 : mn ≤ 18446744073709551615) (hmn : mn ≤ 4294967295) (hN : N ≤ 17592186044000) :
    Calls Tryd.prog 21 #[.pointer (some ⟨b, 0, none⟩), .agg #[.bool false, .int .u64 mn, .int .u64 0, .bool false]] w (DA b B w (thenW st (limW false mn 0 false)) (N + 23)) := by
  have d1 : decide (mn < 4294967296) = true := by simp; omega
  have E : Hid (thenW (thenW (thenW (thenW st (.ok [0])) (needW true 4)) (.ok (PU mn))) (needW true 4) = thenW st (limW false mn 0 false)) := by
    show _ = _
    rw [limW, if_pos (by simp; omega)]
    cases st <;> simp [thenW, needW]
  have S0 : Hid (DW b B (w.alloc (.cells #[.bool false, .int .u64 mn, .int .u64 0, .bool false] 26)) st N) := h.grew ((Grew.refl w).alloc _)
  have T0 : Hid (WT b B w (w.alloc (.cells #[.bool false, .int .u64 mn, .int .u64 0, .bool false] 26))) := WT.of_grew ((Grew.refl w).alloc _)
  have hbx : (w.alloc (.cells #[.bool false, .int .u64 mn, .int .u64 0, .bool false] 26)).heap[w.heap.size]? = some (.cells #[.bool false, .int .u64 mn, .int .u64 0, .bool false] 26 (0, 0)) := heap_alloc_last w _
  have hb : b < w.heap.size := h.blt
  have hblt : b < B := h.lt
  have hnP : w.heap.size ≠ b := by omega
  clear h
  go_enter Tryd.func21, Tryd.ntmps21
  obtain ⟨o0, e0, l0, h10, h20, h30, h40⟩ := S0.out.ex
  obtain ⟨oa0, oc0, rfl⟩ := row_one h20
  have c00 := cell_of h10 0
  simp at c00
  have R0 : Hid ((w.alloc (.cells #[.bool false, .int .u64 mn, .int .u64 0, .bool false] 26)).ownsRow B 5 1 (.slice oa0 l0.length oc0) l0.length (U8 l0)) := h20
  have O0 : Hid ((w.alloc (.cells #[.bool false, .int .u64 mn, .int .u64 0, .bool false] 26)).heap[b]? = some (dob (.slice oa0 l0.length oc0) e0)) := h10
  have E0 : Hid (StE (st) l0 e0) := h40
  have hlb0 : b < B := S0.out.lt
  have hBl0 : B ≤ (w.alloc (.cells #[.bool false, .int .u64 mn, .int .u64 0, .bool false] 26)).heap.size := S0.out.le
  clear h10 h20 h40
  rw [alloc_size] at hBl0
  go_wp2_with (
    at_builtin
    refine wp_appG (w := ((w.alloc (.cells #[.bool false, .int .u64 mn, .int .u64 0, .bool false] 26)).alloc (.cells #[.int .u8 0] 5))) (v := .slice oa0 l0.length oc0) (u := .slice (some ⟨w.heap.size + 1, 0, none⟩) 1 1) (r := [0]) rfl _ _ rfl rfl rfl (World.ownsRow.alloc R0.out _) (by simp; omega) (by have hrd := reads_new (w.alloc (.cells #[.bool false, .int .u64 mn, .int .u64 0, .bool false] 26)) 0 5; rw [alloc_size] at hrd; exact hrd) (by simp; omega) ?_
    intro v1 x1 ho1 hg1
    obtain ⟨a1, cc1, hv1⟩ := row_one ho1
    rw [List.length_append] at hv1
    subst hv1
    have A1 := dw_app (b := b) (B := B) (w := ((w.alloc (.cells #[.bool false, .int .u64 mn, .int .u64 0, .bool false] 26)).alloc (.cells #[.int .u8 0] 5))) (st := st) (N := N) (r := [0]) (heap_alloc O0.out _) (World.ownsRow.alloc R0.out _) h30 E0.out hlb0 (by simp; omega) ho1 hg1
    have q1 := cell_of A1.1 0
    have z1 := free_of A1.1 0
    simp at q1
    have HA1 : Hid (WT b B ((w.alloc (.cells #[.bool false, .int .u64 mn, .int .u64 0, .bool false] 26)).alloc (.cells #[.int .u8 0] 5)) (x1.setCell ⟨b, 0, none⟩ (.slice a1 (l0.length + [(0 : Int)].length) cc1)) ∧ DW b B (x1.setCell ⟨b, 0, none⟩ (.slice a1 (l0.length + [(0 : Int)].length) cc1)) (thenW (st) (.ok [0])) (N + [(0 : Int)].length)) := A1.2
    have tt1 := A1.2.1
    have bxP1 : x1.heap[w.heap.size]? = some (.cells #[.bool false, .int .u64 mn, .int .u64 0, .bool false] 26 (0, 0)) := (wt_grown (b := b) (World.ownsRow.alloc R0.out _) hg1).other (heap_alloc hbx _) hnP (NoT.of (heap_alloc hbx _) (by decide))
    have gP01 := cell_of bxP1 0
    have gP11 := cell_of bxP1 1
    have gP21 := cell_of bxP1 2
    have gP31 := cell_of bxP1 3
    simp at gP01 gP11 gP21 gP31
    clear A1 hg1 ho1 tt1 hbx)
  have T1 : Hid (WT b B w (x1.setCell ⟨b, 0, none⟩ (.slice a1 (l0.length + 1) cc1))) := (T0.out.trans (WT.of_grew ((Grew.refl _).alloc _))).trans HA1.out.1
  have S1 : Hid (DW b B (x1.setCell ⟨b, 0, none⟩ (.slice a1 (l0.length + 1) cc1)) (thenW (st) (.ok [0])) (N + 1)) := HA1.out.2
  clear HA1 T0 S0 c00 R0 O0 E0 hlb0 hBl0 h30
  have bxs := heap_other bxP1 (p := ⟨b, 0, none⟩) hnP (.slice a1 (l0.length + 1) cc1)
  skip
  refine (must_any S1.out true 4 (by decide)).mono ?_
  rintro en w2 ⟨rfl, t2, s2⟩
  have T2 : Hid (WT b B w w2) := T1.out.trans t2
  have S2 : Hid (DW b B w2 (thenW (thenW st (.ok [0])) (needW true 4)) (N + 1)) := s2
  have bx2 : w2.heap[w.heap.size]? = some (.cells #[.bool false, .int .u64 mn, .int .u64 0, .bool false] 26 (0, 0)) := t2.other bxs hnP (NoT.of bxs (by decide))
  have f02 := cell_of bx2 0
  have f12 := cell_of bx2 1
  have f22 := cell_of bx2 2
  have f32 := cell_of bx2 3
  simp at f02 f12 f22 f32
  clear t2 s2 T1 S1 bxs gP01 gP11 gP21 gP31 bxP1 q1 z1
  go_wp2_with fail
  refine (du_any S2.out mn hn0 hn1 (by omega)).mono ?_
  rintro en w3 ⟨rfl, t3, s3⟩
  have T3 : Hid (WT b B w w3) := T2.out.trans t3
  have S3 : Hid (DW b B w3 (thenW (thenW (thenW st (.ok [0])) (needW true 4)) (.ok (PU mn))) (N + 1 + 11)) := s3
  have bx3 : w3.heap[w.heap.size]? = some (.cells #[.bool false, .int .u64 mn, .int .u64 0, .bool false] 26 (0, 0)) := t3.other bx2 hnP (NoT.of bx2 (by decide))
  have f03 := cell_of bx3 0
  have f13 := cell_of bx3 1
  have f23 := cell_of bx3 2
  have f33 := cell_of bx3 3
  simp at f03 f13 f23 f33
  clear t3 s3 T2 S2 bx2 f02 f12 f22 f32
  go_wp2_with fail
  refine (must_any S3.out true 4 (by decide)).mono ?_
  rintro en w4 ⟨rfl, t4, s4⟩
  have T4 : Hid (WT b B w w4) := T3.out.trans t4
  have S4 : Hid (DW b B w4 (thenW (thenW (thenW (thenW st (.ok [0])) (needW true 4)) (.ok (PU mn))) (needW true 4)) (N + 1 + 11)) := s4
  have bx4 : w4.heap[w.heap.size]? = some (.cells #[.bool false, .int .u64 mn, .int .u64 0, .bool false] 26 (0, 0)) := t4.other bx3 hnP (NoT.of bx3 (by decide))
  have f04 := cell_of bx4 0
  have f14 := cell_of bx4 1
  have f24 := cell_of bx4 2
  have f34 := cell_of bx4 3
  simp at f04 f14 f24 f34
  clear t4 s4 T3 S3 bx3 f03 f13 f23 f33
  go_wp2_with fail
  go_end0
  exact ⟨rfl, T4.out, by rw [← E.out]; exact S4.out.mono (by omega)⟩
set_option maxRecDepth 100000 in
set_option maxHeartbeats 2000000 in
theorem dl_ffgs {b B : Nat} {w : World} {st : Except Nat (List Int)} {N : Nat} (h : DW b B w st N) (mn : Int) (hn0 : 0 ≤ mn) (hn1 : mn ≤ 18446744073709551615) (mx : Int) (hx0 : 0 ≤ mx) (hx1 : mx ≤ 18446744073709551615) (hmn : mn ≤ 4294967295) (hmx : mx ≤ 4294967295) (hm0 : mx ≠ 0) (hN : N ≤ 17592186044000) :
    Calls Tryd.prog 21 #[.pointer (some ⟨b, 0, none⟩), .agg #[.bool false, .int .u64 mn, .int .u64 mx, .bool false]] w (DA b B w (thenW st (limW false mn mx false)) (N + 23)) := by
  have d1 : decide (mn < 4294967296) = true := by simp; omega
  have d2 : decide (mx < 4294967296) = true := by simp; omega
  have d3 : (mx == 0) = false := by simpa using hm0
  have E : Hid (thenW (thenW (thenW (thenW st (.ok [0])) (needW true 4)) (.ok (PU mn))) (needW false 4) = thenW st (limW false mn mx false)) := by
    show _ = _
    rw [limW, if_neg (by simp; omega)]
    cases st <;> simp [thenW, needW]
  have S0 : Hid (DW b B (w.alloc (.cells #[.bool false, .int .u64 mn, .int .u64 mx, .bool false] 26)) st N) := h.grew ((Grew.refl w).alloc _)
  have T0 : Hid (WT b B w (w.alloc (.cells #[.bool false, .int .u64 mn, .int .u64 mx, .bool false] 26))) := WT.of_grew ((Grew.refl w).alloc _)
  have hbx : (w.alloc (.cells #[.bool false, .int .u64 mn, .int .u64 mx, .bool false] 26)).heap[w.heap.size]? = some (.cells #[.bool false, .int .u64 mn, .int .u64 mx, .bool false] 26 (0, 0)) := heap_alloc_last w _
  have hb : b < w.heap.size := h.blt
  have hblt : b < B := h.lt
  have hnP : w.heap.size ≠ b := by omega
  clear h
  go_enter Tryd.func21, Tryd.ntmps21
  obtain ⟨o0, e0, l0, h10, h20, h30, h40⟩ := S0.out.ex
  obtain ⟨oa0, oc0, rfl⟩ := row_one h20
  have c00 := cell_of h10 0
  simp at c00
  have R0 : Hid ((w.alloc (.cells #[.bool false, .int .u64 mn, .int .u64 mx, .bool false] 26)).ownsRow B 5 1 (.slice oa0 l0.length oc0) l0.length (U8 l0)) := h20
  have O0 : Hid ((w.alloc (.cells #[.bool false, .int .u64 mn, .int .u64 mx, .bool false] 26)).heap[b]? = some (dob (.slice oa0 l0.length oc0) e0)) := h10
  have E0 : Hid (StE (st) l0 e0) := h40
  have hlb0 : b < B := S0.out.lt
  have hBl0 : B ≤ (w.alloc (.cells #[.bool false, .int .u64 mn, .int .u64 mx, .bool false] 26)).heap.size := S0.out.le
  clear h10 h20 h40
  rw [alloc_size] at hBl0
  go_wp2_with (
    at_builtin
    refine wp_appG (w := ((w.alloc (.cells #[.bool false, .int .u64 mn, .int .u64 mx, .bool false] 26)).alloc (.cells #[.int .u8 0] 5))) (v := .slice oa0 l0.length oc0) (u := .slice (some ⟨w.heap.size + 1, 0, none⟩) 1 1) (r := [0]) rfl _ _ rfl rfl rfl (World.ownsRow.alloc R0.out _) (by simp; omega) (by have hrd := reads_new (w.alloc (.cells #[.bool false, .int .u64 mn, .int .u64 mx, .bool false] 26)) 0 5; rw [alloc_size] at hrd; exact hrd) (by simp; omega) ?_
    intro v1 x1 ho1 hg1
    obtain ⟨a1, cc1, hv1⟩ := row_one ho1
    rw [List.length_append] at hv1
    subst hv1
    have A1 := dw_app (b := b) (B := B) (w := ((w.alloc (.cells #[.bool false, .int .u64 mn, .int .u64 mx, .bool false] 26)).alloc (.cells #[.int .u8 0] 5))) (st := st) (N := N) (r := [0]) (heap_alloc O0.out _) (World.ownsRow.alloc R0.out _) h30 E0.out hlb0 (by simp; omega) ho1 hg1
    have q1 := cell_of A1.1 0
    have z1 := free_of A1.1 0
    simp at q1
    have HA1 : Hid (WT b B ((w.alloc (.cells #[.bool false, .int .u64 mn, .int .u64 mx, .bool false] 26)).alloc (.cells #[.int .u8 0] 5)) (x1.setCell ⟨b, 0, none⟩ (.slice a1 (l0.length + [(0 : Int)].length) cc1)) ∧ DW b B (x1.setCell ⟨b, 0, none⟩ (.slice a1 (l0.length + [(0 : Int)].length) cc1)) (thenW (st) (.ok [0])) (N + [(0 : Int)].length)) := A1.2
    have tt1 := A1.2.1
    have bxP1 : x1.heap[w.heap.size]? = some (.cells #[.bool false, .int .u64 mn, .int .u64 mx, .bool false] 26 (0, 0)) := (wt_grown (b := b) (World.ownsRow.alloc R0.out _) hg1).other (heap_alloc hbx _) hnP (NoT.of (heap_alloc hbx _) (by decide))
    have gP01 := cell_of bxP1 0
    have gP11 := cell_of bxP1 1
    have gP21 := cell_of bxP1 2
    have gP31 := cell_of bxP1 3
    simp at gP01 gP11 gP21 gP31
    clear A1 hg1 ho1 tt1 hbx)
  have T1 : Hid (WT b B w (x1.setCell ⟨b, 0, none⟩ (.slice a1 (l0.length + 1) cc1))) := (T0.out.trans (WT.of_grew ((Grew.refl _).alloc _))).trans HA1.out.1
  have S1 : Hid (DW b B (x1.setCell ⟨b, 0, none⟩ (.slice a1 (l0.length + 1) cc1)) (thenW (st) (.ok [0])) (N + 1)) := HA1.out.2
  clear HA1 T0 S0 c00 R0 O0 E0 hlb0 hBl0 h30
  have bxs := heap_other bxP1 (p := ⟨b, 0, none⟩) hnP (.slice a1 (l0.length + 1) cc1)
  skip
  refine (must_any S1.out true 4 (by decide)).mono ?_
  rintro en w2 ⟨rfl, t2, s2⟩
  have T2 : Hid (WT b B w w2) := T1.out.trans t2
  have S2 : Hid (DW b B w2 (thenW (thenW st (.ok [0])) (needW true 4)) (N + 1)) := s2
  have bx2 : w2.heap[w.heap.size]? = some (.cells #[.bool false, .int .u64 mn, .int .u64 mx, .bool false] 26 (0, 0)) := t2.other bxs hnP (NoT.of bxs (by decide))
  have f02 := cell_of bx2 0
  have f12 := cell_of bx2 1
  have f22 := cell_of bx2 2
  have f32 := cell_of bx2 3
  simp at f02 f12 f22 f32
  clear t2 s2 T1 S1 bxs gP01 gP11 gP21 gP31 bxP1 q1 z1
  go_wp2_with fail
  refine (du_any S2.out mn hn0 hn1 (by omega)).mono ?_
  rintro en w3 ⟨rfl, t3, s3⟩
  have T3 : Hid (WT b B w w3) := T2.out.trans t3
  have S3 : Hid (DW b B w3 (thenW (thenW (thenW st (.ok [0])) (needW true 4)) (.ok (PU mn))) (N + 1 + 11)) := s3
  have bx3 : w3.heap[w.heap.size]? = some (.cells #[.bool false, .int .u64 mn, .int .u64 mx, .bool false] 26 (0, 0)) := t3.other bx2 hnP (NoT.of bx2 (by decide))
  have f03 := cell_of bx3 0
  have f13 := cell_of bx3 1
  have f23 := cell_of bx3 2
  have f33 := cell_of bx3 3
  simp at f03 f13 f23 f33
  clear t3 s3 T2 S2 bx2 f02 f12 f22 f32
  go_wp2_with fail
  refine (must_any S3.out false 4 (by decide)).mono ?_
  rintro en w4 ⟨rfl, t4, s4⟩
  have T4 : Hid (WT b B w w4) := T3.out.trans t4
  have S4 : Hid (DW b B w4 (thenW (thenW (thenW (thenW st (.ok [0])) (needW true 4)) (.ok (PU mn))) (needW false 4)) (N + 1 + 11)) := s4
  have bx4 : w4.heap[w.heap.size]? = some (.cells #[.bool false, .int .u64 mn, .int .u64 mx, .bool false] 26 (0, 0)) := t4.other bx3 hnP (NoT.of bx3 (by decide))
  have f04 := cell_of bx4 0
  have f14 := cell_of bx4 1
  have f24 := cell_of bx4 2
  have f34 := cell_of bx4 3
  simp at f04 f14 f24 f34
  clear t4 s4 T3 S3 bx3 f03 f13 f23 f33
  go_wp2_with fail
  go_end0
  exact ⟨rfl, T4.out, by rw [← E.out]; exact S4.out.mono (by omega)⟩
set_option maxRecDepth 100000 in
set_option maxHeartbeats 2000000 in
theorem dl_ffgb {b B : Nat} {w : World} {st : Except Nat (List Int)} {N : Nat} (h : DW b B w st N) (mn : Int) (hn0 : 0 ≤ mn) (hn1 : mn ≤ 18446744073709551615) (mx : Int) (hx0 : 0 ≤ mx) (hx1 : mx ≤ 18446744073709551615) (hmn : mn ≤ 4294967295) (hmx : 4294967295 < mx) (hm0 : mx ≠ 0) (hN : N ≤ 17592186044000) :
    Calls Tryd.prog 21 #[.pointer (some ⟨b, 0, none⟩), .agg #[.bool false, .int .u64 mn, .int .u64 mx, .bool false]] w (DA b B w (thenW st (limW false mn mx false)) (N + 23)) := by
  have d1 : decide (mn < 4294967296) = true := by simp; omega
  have d2 : decide (mx < 4294967296) = false := by simp; omega
  have d3 : (mx == 0) = false := by simpa using hm0
  have E : Hid (thenW (thenW (thenW (thenW st (.ok [0])) (needW true 4)) (.ok (PU mn))) (needW false 4) = thenW st (limW false mn mx false)) := by
    show _ = _
    rw [limW, if_neg (by simp; omega)]
    cases st <;> simp [thenW, needW]
  have S0 : Hid (DW b B (w.alloc (.cells #[.bool false, .int .u64 mn, .int .u64 mx, .bool false] 26)) st N) := h.grew ((Grew.refl w).alloc _)
  have T0 : Hid (WT b B w (w.alloc (.cells #[.bool false, .int .u64 mn, .int .u64 mx, .bool false] 26))) := WT.of_grew ((Grew.refl w).alloc _)
  have hbx : (w.alloc (.cells #[.bool false, .int .u64 mn, .int .u64 mx, .bool false] 26)).heap[w.heap.size]? = some (.cells #[.bool false, .int .u64 mn, .int .u64 mx, .bool false] 26 (0, 0)) := heap_alloc_last w _
  have hb : b < w.heap.size := h.blt
  have hblt : b < B := h.lt
  have hnP : w.heap.size ≠ b := by omega
  clear h
  go_enter Tryd.func21, Tryd.ntmps21
  obtain ⟨o0, e0, l0, h10, h20, h30, h40⟩ := S0.out.ex
  obtain ⟨oa0, oc0, rfl⟩ := row_one h20
  have c00 := cell_of h10 0
  simp at c00
  have R0 : Hid ((w.alloc (.cells #[.bool false, .int .u64 mn, .int .u64 mx, .bool false] 26)).ownsRow B 5 1 (.slice oa0 l0.length oc0) l0.length (U8 l0)) := h20
  have O0 : Hid ((w.alloc (.cells #[.bool false, .int .u64 mn, .int .u64 mx, .bool false] 26)).heap[b]? = some (dob (.slice oa0 l0.length oc0) e0)) := h10
  have E0 : Hid (StE (st) l0 e0) := h40
  have hlb0 : b < B := S0.out.lt
  have hBl0 : B ≤ (w.alloc (.cells #[.bool false, .int .u64 mn, .int .u64 mx, .bool false] 26)).heap.size := S0.out.le
  clear h10 h20 h40
  rw [alloc_size] at hBl0
  go_wp2_with (
    at_builtin
    refine wp_appG (w := ((w.alloc (.cells #[.bool false, .int .u64 mn, .int .u64 mx, .bool false] 26)).alloc (.cells #[.int .u8 0] 5))) (v := .slice oa0 l0.length oc0) (u := .slice (some ⟨w.heap.size + 1, 0, none⟩) 1 1) (r := [0]) rfl _ _ rfl rfl rfl (World.ownsRow.alloc R0.out _) (by simp; omega) (by have hrd := reads_new (w.alloc (.cells #[.bool false, .int .u64 mn, .int .u64 mx, .bool false] 26)) 0 5; rw [alloc_size] at hrd; exact hrd) (by simp; omega) ?_
    intro v1 x1 ho1 hg1
    obtain ⟨a1, cc1, hv1⟩ := row_one ho1
    rw [List.length_append] at hv1
    subst hv1
    have A1 := dw_app (b := b) (B := B) (w := ((w.alloc (.cells #[.bool false, .int .u64 mn, .int .u64 mx, .bool false] 26)).alloc (.cells #[.int .u8 0] 5))) (st := st) (N := N) (r := [0]) (heap_alloc O0.out _) (World.ownsRow.alloc R0.out _) h30 E0.out hlb0 (by simp; omega) ho1 hg1
    have q1 := cell_of A1.1 0
    have z1 := free_of A1.1 0
    simp at q1
    have HA1 : Hid (WT b B ((w.alloc (.cells #[.bool false, .int .u64 mn, .int .u64 mx, .bool false] 26)).alloc (.cells #[.int .u8 0] 5)) (x1.setCell ⟨b, 0, none⟩ (.slice a1 (l0.length + [(0 : Int)].length) cc1)) ∧ DW b B (x1.setCell ⟨b, 0, none⟩ (.slice a1 (l0.length + [(0 : Int)].length) cc1)) (thenW (st) (.ok [0])) (N + [(0 : Int)].length)) := A1.2
    have tt1 := A1.2.1
    have bxP1 : x1.heap[w.heap.size]? = some (.cells #[.bool false, .int .u64 mn, .int .u64 mx, .bool false] 26 (0, 0)) := (wt_grown (b := b) (World.ownsRow.alloc R0.out _) hg1).other (heap_alloc hbx _) hnP (NoT.of (heap_alloc hbx _) (by decide))
    have gP01 := cell_of bxP1 0
    have gP11 := cell_of bxP1 1
    have gP21 := cell_of bxP1 2
    have gP31 := cell_of bxP1 3
    simp at gP01 gP11 gP21 gP31
    clear A1 hg1 ho1 tt1 hbx)
  have T1 : Hid (WT b B w (x1.setCell ⟨b, 0, none⟩ (.slice a1 (l0.length + 1) cc1))) := (T0.out.trans (WT.of_grew ((Grew.refl _).alloc _))).trans HA1.out.1
  have S1 : Hid (DW b B (x1.setCell ⟨b, 0, none⟩ (.slice a1 (l0.length + 1) cc1)) (thenW (st) (.ok [0])) (N + 1)) := HA1.out.2
  clear HA1 T0 S0 c00 R0 O0 E0 hlb0 hBl0 h30
  have bxs := heap_other bxP1 (p := ⟨b, 0, none⟩) hnP (.slice a1 (l0.length + 1) cc1)
  skip
  refine (must_any S1.out true 4 (by decide)).mono ?_
  rintro en w2 ⟨rfl, t2, s2⟩
  have T2 : Hid (WT b B w w2) := T1.out.trans t2
  have S2 : Hid (DW b B w2 (thenW (thenW st (.ok [0])) (needW true 4)) (N + 1)) := s2
  have bx2 : w2.heap[w.heap.size]? = some (.cells #[.bool false, .int .u64 mn, .int .u64 mx, .bool false] 26 (0, 0)) := t2.other bxs hnP (NoT.of bxs (by decide))
  have f02 := cell_of bx2 0
  have f12 := cell_of bx2 1
  have f22 := cell_of bx2 2
  have f32 := cell_of bx2 3
  simp at f02 f12 f22 f32
  clear t2 s2 T1 S1 bxs gP01 gP11 gP21 gP31 bxP1 q1 z1
  go_wp2_with fail
  refine (du_any S2.out mn hn0 hn1 (by omega)).mono ?_
  rintro en w3 ⟨rfl, t3, s3⟩
  have T3 : Hid (WT b B w w3) := T2.out.trans t3
  have S3 : Hid (DW b B w3 (thenW (thenW (thenW st (.ok [0])) (needW true 4)) (.ok (PU mn))) (N + 1 + 11)) := s3
  have bx3 : w3.heap[w.heap.size]? = some (.cells #[.bool false, .int .u64 mn, .int .u64 mx, .bool false] 26 (0, 0)) := t3.other bx2 hnP (NoT.of bx2 (by decide))
  have f03 := cell_of bx3 0
  have f13 := cell_of bx3 1
  have f23 := cell_of bx3 2
  have f33 := cell_of bx3 3
  simp at f03 f13 f23 f33
  clear t3 s3 T2 S2 bx2 f02 f12 f22 f32
  go_wp2_with fail
  refine (must_any S3.out false 4 (by decide)).mono ?_
  rintro en w4 ⟨rfl, t4, s4⟩
  have T4 : Hid (WT b B w w4) := T3.out.trans t4
  have S4 : Hid (DW b B w4 (thenW (thenW (thenW (thenW st (.ok [0])) (needW true 4)) (.ok (PU mn))) (needW false 4)) (N + 1 + 11)) := s4
  have bx4 : w4.heap[w.heap.size]? = some (.cells #[.bool false, .int .u64 mn, .int .u64 mx, .bool false] 26 (0, 0)) := t4.other bx3 hnP (NoT.of bx3 (by decide))
  have f04 := cell_of bx4 0
  have f14 := cell_of bx4 1
  have f24 := cell_of bx4 2
  have f34 := cell_of bx4 3
  simp at f04 f14 f24 f34
  clear t4 s4 T3 S3 bx3 f03 f13 f23 f33
  go_wp2_with fail
  go_end0
  exact ⟨rfl, T4.out, by rw [← E.out]; exact S4.out.mono (by omega)⟩
set_option maxRecDepth 100000 in
set_option maxHeartbeats 2000000 in
theorem dl_ftbs {b B : Nat} {w : World} {st : Except Nat (List Int)} {N : Nat} (h : DW b B w st N) (mn : Int) (hn0 : 0 ≤ mn) (hn1 : mn ≤ 18446744073709551615) (mx : Int) (hx0 : 0 ≤ mx) (hx1 : mx ≤ 18446744073709551615) (hmn : 4294967295 < mn) (hmx : mx ≤ 4294967295) (hN : N ≤ 17592186044000) :
    Calls Tryd.prog 21 #[.pointer (some ⟨b, 0, none⟩), .agg #[.bool false, .int .u64 mn, .int .u64 mx, .bool true]] w (DA b B w (thenW st (limW false mn mx true)) (N + 23)) := by
  have d1 : decide (mn < 4294967296) = false := by simp; omega
  have d2 : decide (mx < 4294967296) = true := by simp; omega
  have E : Hid (thenW (thenW (thenW (thenW (thenW st (.ok [1])) (needW false 4)) (.ok (PU mn))) (needW true 4)) (.ok (PU mx)) = thenW st (limW false mn mx true)) := by
    show _ = _
    rw [limW, if_neg (by simp; omega)]
    cases st <;> simp [thenW, needW]
  have S0 : Hid (DW b B (w.alloc (.cells #[.bool false, .int .u64 mn, .int .u64 mx, .bool true] 26)) st N) := h.grew ((Grew.refl w).alloc _)
  have T0 : Hid (WT b B w (w.alloc (.cells #[.bool false, .int .u64 mn, .int .u64 mx, .bool true] 26))) := WT.of_grew ((Grew.refl w).alloc _)
  have hbx : (w.alloc (.cells #[.bool false, .int .u64 mn, .int .u64 mx, .bool true] 26)).heap[w.heap.size]? = some (.cells #[.bool false, .int .u64 mn, .int .u64 mx, .bool true] 26 (0, 0)) := heap_alloc_last w _
  have hb : b < w.heap.size := h.blt
  have hblt : b < B := h.lt
  have hnP : w.heap.size ≠ b := by omega
  clear h
  go_enter Tryd.func21, Tryd.ntmps21
  obtain ⟨o0, e0, l0, h10, h20, h30, h40⟩ := S0.out.ex
  obtain ⟨oa0, oc0, rfl⟩ := row_one h20
  have c00 := cell_of h10 0
  simp at c00
  have R0 : Hid ((w.alloc (.cells #[.bool false, .int .u64 mn, .int .u64 mx, .bool true] 26)).ownsRow B 5 1 (.slice oa0 l0.length oc0) l0.length (U8 l0)) := h20
  have O0 : Hid ((w.alloc (.cells #[.bool false, .int .u64 mn, .int .u64 mx, .bool true] 26)).heap[b]? = some (dob (.slice oa0 l0.length oc0) e0)) := h10
  have E0 : Hid (StE (st) l0 e0) := h40
  have hlb0 : b < B := S0.out.lt
  have hBl0 : B ≤ (w.alloc (.cells #[.bool false, .int .u64 mn, .int .u64 mx, .bool true] 26)).heap.size := S0.out.le
  clear h10 h20 h40
  rw [alloc_size] at hBl0
  go_wp2_with (
    at_builtin
    refine wp_appG (w := ((w.alloc (.cells #[.bool false, .int .u64 mn, .int .u64 mx, .bool true] 26)).alloc (.cells #[.int .u8 1] 5))) (v := .slice oa0 l0.length oc0) (u := .slice (some ⟨w.heap.size + 1, 0, none⟩) 1 1) (r := [1]) rfl _ _ rfl rfl rfl (World.ownsRow.alloc R0.out _) (by simp; omega) (by have hrd := reads_new (w.alloc (.cells #[.bool false, .int .u64 mn, .int .u64 mx, .bool true] 26)) 1 5; rw [alloc_size] at hrd; exact hrd) (by simp; omega) ?_
    intro v1 x1 ho1 hg1
    obtain ⟨a1, cc1, hv1⟩ := row_one ho1
    rw [List.length_append] at hv1
    subst hv1
    have A1 := dw_app (b := b) (B := B) (w := ((w.alloc (.cells #[.bool false, .int .u64 mn, .int .u64 mx, .bool true] 26)).alloc (.cells #[.int .u8 1] 5))) (st := st) (N := N) (r := [1]) (heap_alloc O0.out _) (World.ownsRow.alloc R0.out _) h30 E0.out hlb0 (by simp; omega) ho1 hg1
    have q1 := cell_of A1.1 0
    have z1 := free_of A1.1 0
    simp at q1
    have HA1 : Hid (WT b B ((w.alloc (.cells #[.bool false, .int .u64 mn, .int .u64 mx, .bool true] 26)).alloc (.cells #[.int .u8 1] 5)) (x1.setCell ⟨b, 0, none⟩ (.slice a1 (l0.length + [(1 : Int)].length) cc1)) ∧ DW b B (x1.setCell ⟨b, 0, none⟩ (.slice a1 (l0.length + [(1 : Int)].length) cc1)) (thenW (st) (.ok [1])) (N + [(1 : Int)].length)) := A1.2
    have tt1 := A1.2.1
    have bxP1 : x1.heap[w.heap.size]? = some (.cells #[.bool false, .int .u64 mn, .int .u64 mx, .bool true] 26 (0, 0)) := (wt_grown (b := b) (World.ownsRow.alloc R0.out _) hg1).other (heap_alloc hbx _) hnP (NoT.of (heap_alloc hbx _) (by decide))
    have gP01 := cell_of bxP1 0
    have gP11 := cell_of bxP1 1
    have gP21 := cell_of bxP1 2
    have gP31 := cell_of bxP1 3
    simp at gP01 gP11 gP21 gP31
    clear A1 hg1 ho1 tt1 hbx)
  have T1 : Hid (WT b B w (x1.setCell ⟨b, 0, none⟩ (.slice a1 (l0.length + 1) cc1))) := (T0.out.trans (WT.of_grew ((Grew.refl _).alloc _))).trans HA1.out.1
  have S1 : Hid (DW b B (x1.setCell ⟨b, 0, none⟩ (.slice a1 (l0.length + 1) cc1)) (thenW (st) (.ok [1])) (N + 1)) := HA1.out.2
  clear HA1 T0 S0 c00 R0 O0 E0 hlb0 hBl0 h30
  have bxs := heap_other bxP1 (p := ⟨b, 0, none⟩) hnP (.slice a1 (l0.length + 1) cc1)
  skip
  refine (must_any S1.out false 4 (by decide)).mono ?_
  rintro en w2 ⟨rfl, t2, s2⟩
  have T2 : Hid (WT b B w w2) := T1.out.trans t2
  have S2 : Hid (DW b B w2 (thenW (thenW st (.ok [1])) (needW false 4)) (N + 1)) := s2
  have bx2 : w2.heap[w.heap.size]? = some (.cells #[.bool false, .int .u64 mn, .int .u64 mx, .bool true] 26 (0, 0)) := t2.other bxs hnP (NoT.of bxs (by decide))
  have f02 := cell_of bx2 0
  have f12 := cell_of bx2 1
  have f22 := cell_of bx2 2
  have f32 := cell_of bx2 3
  simp at f02 f12 f22 f32
  clear t2 s2 T1 S1 bxs gP01 gP11 gP21 gP31 bxP1 q1 z1
  go_wp2_with fail
  refine (du_any S2.out mn hn0 hn1 (by omega)).mono ?_
  rintro en w3 ⟨rfl, t3, s3⟩
  have T3 : Hid (WT b B w w3) := T2.out.trans t3
  have S3 : Hid (DW b B w3 (thenW (thenW (thenW st (.ok [1])) (needW false 4)) (.ok (PU mn))) (N + 1 + 11)) := s3
  have bx3 : w3.heap[w.heap.size]? = some (.cells #[.bool false, .int .u64 mn, .int .u64 mx, .bool true] 26 (0, 0)) := t3.other bx2 hnP (NoT.of bx2 (by decide))
  have f03 := cell_of bx3 0
  have f13 := cell_of bx3 1
  have f23 := cell_of bx3 2
  have f33 := cell_of bx3 3
  simp at f03 f13 f23 f33
  clear t3 s3 T2 S2 bx2 f02 f12 f22 f32
  go_wp2_with fail
  refine (must_any S3.out true 4 (by decide)).mono ?_
  rintro en w4 ⟨rfl, t4, s4⟩
  have T4 : Hid (WT b B w w4) := T3.out.trans t4
  have S4 : Hid (DW b B w4 (thenW (thenW (thenW (thenW st (.ok [1])) (needW false 4)) (.ok (PU mn))) (needW true 4)) (N + 1 + 11)) := s4
  have bx4 : w4.heap[w.heap.size]? = some (.cells #[.bool false, .int .u64 mn, .int .u64 mx, .bool true] 26 (0, 0)) := t4.other bx3 hnP (NoT.of bx3 (by decide))
  have f04 := cell_of bx4 0
  have f14 := cell_of bx4 1
  have f24 := cell_of bx4 2
  have f34 := cell_of bx4 3
  simp at f04 f14 f24 f34
  clear t4 s4 T3 S3 bx3 f03 f13 f23 f33
  go_wp2_with fail
  refine (du_any S4.out mx hx0 hx1 (by omega)).mono ?_
  rintro en w5 ⟨rfl, t5, s5⟩
  have T5 : Hid (WT b B w w5) := T4.out.trans t5
  have S5 : Hid (DW b B w5 (thenW (thenW (thenW (thenW (thenW st (.ok [1])) (needW false 4)) (.ok (PU mn))) (needW true 4)) (.ok (PU mx))) (N + 1 + 11 + 11)) := s5
  have bx5 : w5.heap[w.heap.size]? = some (.cells #[.bool false, .int .u64 mn, .int .u64 mx, .bool true] 26 (0, 0)) := t5.other bx4 hnP (NoT.of bx4 (by decide))
  have f05 := cell_of bx5 0
  have f15 := cell_of bx5 1
  have f25 := cell_of bx5 2
  have f35 := cell_of bx5 3
  simp at f05 f15 f25 f35
  clear t5 s5 T4 S4 bx4 f04 f14 f24 f34
  go_wp2_with fail
  go_end0
  exact ⟨rfl, T5.out, by rw [← E.out]; exact S5.out.mono (by omega)⟩
set_option maxRecDepth 100000 in
set_option maxHeartbeats 2000000 in
theorem dl_ftbb {b B : Nat} {w : World} {st : Except Nat (List Int)} {N : Nat} (h : DW b B w st N) (mn : Int) (hn0 : 0 ≤ mn) (hn1 : mn ≤ 18446744073709551615) (mx : Int) (hx0 : 0 ≤ mx) (hx1 : mx ≤ 18446744073709551615) (hmn : 4294967295 < mn) (hmx : 4294967295 < mx) (hN : N ≤ 17592186044000) :
    Calls Tryd.prog 21 #[.pointer (some ⟨b, 0, none⟩), .agg #[.bool false, .int .u64 mn, .int .u64 mx, .bool true]] w (DA b B w (thenW st (limW false mn mx true)) (N + 23)) := by
  have d1 : decide (mn < 4294967296) = false := by simp; omega
  have d2 : decide (mx < 4294967296) = false := by simp; omega
  have E : Hid (thenW (thenW (thenW (thenW (thenW st (.ok [1])) (needW false 4)) (.ok (PU mn))) (needW false 4)) (.ok (PU mx)) = thenW st (limW false mn mx true)) := by
    show _ = _
    rw [limW, if_neg (by simp; omega)]
    cases st <;> simp [thenW, needW]
  have S0 : Hid (DW b B (w.alloc (.cells #[.bool false, .int .u64 mn, .int .u64 mx, .bool true] 26)) st N) := h.grew ((Grew.refl w).alloc _)
  have T0 : Hid (WT b B w (w.alloc (.cells #[.bool false, .int .u64 mn, .int .u64 mx, .bool true] 26))) := WT.of_grew ((Grew.refl w).alloc _)
  have hbx : (w.alloc (.cells #[.bool false, .int .u64 mn, .int .u64 mx, .bool true] 26)).heap[w.heap.size]? = some (.cells #[.bool false, .int .u64 mn, .int .u64 mx, .bool true] 26 (0, 0)) := heap_alloc_last w _
  have hb : b < w.heap.size := h.blt
  have hblt : b < B := h.lt
  have hnP : w.heap.size ≠ b := by omega
  clear h
  go_enter Tryd.func21, Tryd.ntmps21
  obtain ⟨o0, e0, l0, h10, h20, h30, h40⟩ := S0.out.ex
  obtain ⟨oa0, oc0, rfl⟩ := row_one h20
  have c00 := cell_of h10 0
  simp at c00
  have R0 : Hid ((w.alloc (.cells #[.bool false, .int .u64 mn, .int .u64 mx, .bool true] 26)).ownsRow B 5 1 (.slice oa0 l0.length oc0) l0.length (U8 l0)) := h20
  have O0 : Hid ((w.alloc (.cells #[.bool false, .int .u64 mn, .int .u64 mx, .bool true] 26)).heap[b]? = some (dob (.slice oa0 l0.length oc0) e0)) := h10
  have E0 : Hid (StE (st) l0 e0) := h40
  have hlb0 : b < B := S0.out.lt
  have hBl0 : B ≤ (w.alloc (.cells #[.bool false, .int .u64 mn, .int .u64 mx, .bool true] 26)).heap.size := S0.out.le
  clear h10 h20 h40
  rw [alloc_size] at hBl0
  go_wp2_with (
    at_builtin
    refine wp_appG (w := ((w.alloc (.cells #[.bool false, .int .u64 mn, .int .u64 mx, .bool true] 26)).alloc (.cells #[.int .u8 1] 5))) (v := .slice oa0 l0.length oc0) (u := .slice (some ⟨w.heap.size + 1, 0, none⟩) 1 1) (r := [1]) rfl _ _ rfl rfl rfl (World.ownsRow.alloc R0.out _) (by simp; omega) (by have hrd := reads_new (w.alloc (.cells #[.bool false, .int .u64 mn, .int .u64 mx, .bool true] 26)) 1 5; rw [alloc_size] at hrd; exact hrd) (by simp; omega) ?_
    intro v1 x1 ho1 hg1
    obtain ⟨a1, cc1, hv1⟩ := row_one ho1
    rw [List.length_append] at hv1
    subst hv1
    have A1 := dw_app (b := b) (B := B) (w := ((w.alloc (.cells #[.bool false, .int .u64 mn, .int .u64 mx, .bool true] 26)).alloc (.cells #[.int .u8 1] 5))) (st := st) (N := N) (r := [1]) (heap_alloc O0.out _) (World.ownsRow.alloc R0.out _) h30 E0.out hlb0 (by simp; omega) ho1 hg1
    have q1 := cell_of A1.1 0
    have z1 := free_of A1.1 0
    simp at q1
    have HA1 : Hid (WT b B ((w.alloc (.cells #[.bool false, .int .u64 mn, .int .u64 mx, .bool true] 26)).alloc (.cells #[.int .u8 1] 5)) (x1.setCell ⟨b, 0, none⟩ (.slice a1 (l0.length + [(1 : Int)].length) cc1)) ∧ DW b B (x1.setCell ⟨b, 0, none⟩ (.slice a1 (l0.length + [(1 : Int)].length) cc1)) (thenW (st) (.ok [1])) (N + [(1 : Int)].length)) := A1.2
    have tt1 := A1.2.1
    have bxP1 : x1.heap[w.heap.size]? = some (.cells #[.bool false, .int .u64 mn, .int .u64 mx, .bool true] 26 (0, 0)) := (wt_grown (b := b) (World.ownsRow.alloc R0.out _) hg1).other (heap_alloc hbx _) hnP (NoT.of (heap_alloc hbx _) (by decide))
    have gP01 := cell_of bxP1 0
    have gP11 := cell_of bxP1 1
    have gP21 := cell_of bxP1 2
    have gP31 := cell_of bxP1 3
    simp at gP01 gP11 gP21 gP31
    clear A1 hg1 ho1 tt1 hbx)
  have T1 : Hid (WT b B w (x1.setCell ⟨b, 0, none⟩ (.slice a1 (l0.length + 1) cc1))) := (T0.out.trans (WT.of_grew ((Grew.refl _).alloc _))).trans HA1.out.1
  have S1 : Hid (DW b B (x1.setCell ⟨b, 0, none⟩ (.slice a1 (l0.length + 1) cc1)) (thenW (st) (.ok [1])) (N + 1)) := HA1.out.2
  clear HA1 T0 S0 c00 R0 O0 E0 hlb0 hBl0 h30
  have bxs := heap_other bxP1 (p := ⟨b, 0, none⟩) hnP (.slice a1 (l0.length + 1) cc1)
  skip
  refine (must_any S1.out false 4 (by decide)).mono ?_
  rintro en w2 ⟨rfl, t2, s2⟩
  have T2 : Hid (WT b B w w2) := T1.out.trans t2
  have S2 : Hid (DW b B w2 (thenW (thenW st (.ok [1])) (needW false 4)) (N + 1)) := s2
  have bx2 : w2.heap[w.heap.size]? = some (.cells #[.bool false, .int .u64 mn, .int .u64 mx, .bool true] 26 (0, 0)) := t2.other bxs hnP (NoT.of bxs (by decide))
  have f02 := cell_of bx2 0
  have f12 := cell_of bx2 1
  have f22 := cell_of bx2 2
  have f32 := cell_of bx2 3
  simp at f02 f12 f22 f32
  clear t2 s2 T1 S1 bxs gP01 gP11 gP21 gP31 bxP1 q1 z1
  go_wp2_with fail
  refine (du_any S2.out mn hn0 hn1 (by omega)).mono ?_
  rintro en w3 ⟨rfl, t3, s3⟩
  have T3 : Hid (WT b B w w3) := T2.out.trans t3
  have S3 : Hid (DW b B w3 (thenW (thenW (thenW st (.ok [1])) (needW false 4)) (.ok (PU mn))) (N + 1 + 11)) := s3
  have bx3 : w3.heap[w.heap.size]? = some (.cells #[.bool false, .int .u64 mn, .int .u64 mx, .bool true] 26 (0, 0)) := t3.other bx2 hnP (NoT.of bx2 (by decide))
  have f03 := cell_of bx3 0
  have f13 := cell_of bx3 1
  have f23 := cell_of bx3 2
  have f33 := cell_of bx3 3
  simp at f03 f13 f23 f33
  clear t3 s3 T2 S2 bx2 f02 f12 f22 f32
  go_wp2_with fail
  refine (must_any S3.out false 4 (by decide)).mono ?_
  rintro en w4 ⟨rfl, t4, s4⟩
  have T4 : Hid (WT b B w w4) := T3.out.trans t4
  have S4 : Hid (DW b B w4 (thenW (thenW (thenW (thenW st (.ok [1])) (needW false 4)) (.ok (PU mn))) (needW false 4)) (N + 1 + 11)) := s4
  have bx4 : w4.heap[w.heap.size]? = some (.cells #[.bool false, .int .u64 mn, .int .u64 mx, .bool true] 26 (0, 0)) := t4.other bx3 hnP (NoT.of bx3 (by decide))
  have f04 := cell_of bx4 0
  have f14 := cell_of bx4 1
  have f24 := cell_of bx4 2
  have f34 := cell_of bx4 3
  simp at f04 f14 f24 f34
  clear t4 s4 T3 S3 bx3 f03 f13 f23 f33
  go_wp2_with fail
  refine (du_any S4.out mx hx0 hx1 (by omega)).mono ?_
  rintro en w5 ⟨rfl, t5, s5⟩
  have T5 : Hid (WT b B w w5) := T4.out.trans t5
  have S5 : Hid (DW b B w5 (thenW (thenW (thenW (thenW (thenW st (.ok [1])) (needW false 4)) (.ok (PU mn))) (needW false 4)) (.ok (PU mx))) (N + 1 + 11 + 11)) := s5
  have bx5 : w5.heap[w.heap.size]? = some (.cells #[.bool false, .int .u64 mn, .int .u64 mx, .bool true] 26 (0, 0)) := t5.other bx4 hnP (NoT.of bx4 (by decide))
  have f05 := cell_of bx5 0
  have f15 := cell_of bx5 1
  have f25 := cell_of bx5 2
  have f35 := cell_of bx5 3
  simp at f05 f15 f25 f35
  clear t5 s5 T4 S4 bx4 f04 f14 f24 f34
  go_wp2_with fail
  go_end0
  exact ⟨rfl, T5.out, by rw [← E.out]; exact S5.out.mono (by omega)⟩
set_option maxRecDepth 100000 in
set_option maxHeartbeats 2000000 in
theorem dl_ffb0 {b B : Nat} {w : World} {st : Except Nat (List Int)} {N : Nat} (h : DW b B w st N) (mn : Int) (hn0 : 0 ≤ mn) (hn1 : mn ≤ 18446744073709551615) (hmn : 4294967295 < mn) (hN : N ≤ 17592186044000) :
    Calls Tryd.prog 21 #[.pointer (some ⟨b, 0, none⟩), .agg #[.bool false, .int .u64 mn, .int .u64 0, .bool false]] w (DA b B w (thenW st (limW false mn 0 false)) (N + 23)) := by
  have d1 : decide (mn < 4294967296) = false := by simp; omega
  have E : Hid (thenW (thenW (thenW (thenW st (.ok [0])) (needW false 4)) (.ok (PU mn))) (needW true 4) = thenW st (limW false mn 0 false)) := by
    show _ = _
    rw [limW, if_neg (by simp; omega)]
    cases st <;> simp [thenW, needW]
  have S0 : Hid (DW b B (w.alloc (.cells #[.bool false, .int .u64 mn, .int .u64 0, .bool false] 26)) st N) := h.grew ((Grew.refl w).alloc _)
  have T0 : Hid (WT b B w (w.alloc (.cells #[.bool false, .int .u64 mn, .int .u64 0, .bool false] 26))) := WT.of_grew ((Grew.refl w).alloc _)
  have hbx : (w.alloc (.cells #[.bool false, .int .u64 mn, .int .u64 0, .bool false] 26)).heap[w.heap.size]? = some (.cells #[.bool false, .int .u64 mn, .int .u64 0, .bool false] 26 (0, 0)) := heap_alloc_last w _
  have hb : b < w.heap.size := h.blt
  have hblt : b < B := h.lt
  have hnP : w.heap.size ≠ b := by omega
  clear h
  go_enter Tryd.func21, Tryd.ntmps21
  obtain ⟨o0, e0, l0, h10, h20, h30, h40⟩ := S0.out.ex
  obtain ⟨oa0, oc0, rfl⟩ := row_one h20
  have c00 := cell_of h10 0
  simp at c00
  have R0 : Hid ((w.alloc (.cells #[.bool false, .int .u64 mn, .int .u64 0, .bool false] 26)).ownsRow B 5 1 (.slice oa0 l0.length oc0) l0.length (U8 l0)) := h20
  have O0 : Hid ((w.alloc (.cells #[.bool false, .int .u64 mn, .int .u64 0, .bool false] 26)).heap[b]? = some (dob (.slice oa0 l0.length oc0) e0)) := h10
  have E0 : Hid (StE (st) l0 e0) := h40
  have hlb0 : b < B := S0.out.lt
  have hBl0 : B ≤ (w.alloc (.cells #[.bool false, .int .u64 mn, .int .u64 0, .bool false] 26)).heap.size := S0.out.le
  clear h10 h20 h40
  rw [alloc_size] at hBl0
  go_wp2_with (
    at_builtin
    refine wp_appG (w := ((w.alloc (.cells #[.bool false, .int .u64 mn, .int .u64 0, .bool false] 26)).alloc (.cells #[.int .u8 0] 5))) (v := .slice oa0 l0.length oc0) (u := .slice (some ⟨w.heap.size + 1, 0, none⟩) 1 1) (r := [0]) rfl _ _ rfl rfl rfl (World.ownsRow.alloc R0.out _) (by simp; omega) (by have hrd := reads_new (w.alloc (.cells #[.bool false, .int .u64 mn, .int .u64 0, .bool false] 26)) 0 5; rw [alloc_size] at hrd; exact hrd) (by simp; omega) ?_
    intro v1 x1 ho1 hg1
    obtain ⟨a1, cc1, hv1⟩ := row_one ho1
    rw [List.length_append] at hv1
    subst hv1
    have A1 := dw_app (b := b) (B := B) (w := ((w.alloc (.cells #[.bool false, .int .u64 mn, .int .u64 0, .bool false] 26)).alloc (.cells #[.int .u8 0] 5))) (st := st) (N := N) (r := [0]) (heap_alloc O0.out _) (World.ownsRow.alloc R0.out _) h30 E0.out hlb0 (by simp; omega) ho1 hg1
    have q1 := cell_of A1.1 0
    have z1 := free_of A1.1 0
    simp at q1
    have HA1 : Hid (WT b B ((w.alloc (.cells #[.bool false, .int .u64 mn, .int .u64 0, .bool false] 26)).alloc (.cells #[.int .u8 0] 5)) (x1.setCell ⟨b, 0, none⟩ (.slice a1 (l0.length + [(0 : Int)].length) cc1)) ∧ DW b B (x1.setCell ⟨b, 0, none⟩ (.slice a1 (l0.length + [(0 : Int)].length) cc1)) (thenW (st) (.ok [0])) (N + [(0 : Int)].length)) := A1.2
    have tt1 := A1.2.1
    have bxP1 : x1.heap[w.heap.size]? = some (.cells #[.bool false, .int .u64 mn, .int .u64 0, .bool false] 26 (0, 0)) := (wt_grown (b := b) (World.ownsRow.alloc R0.out _) hg1).other (heap_alloc hbx _) hnP (NoT.of (heap_alloc hbx _) (by decide))
    have gP01 := cell_of bxP1 0
    have gP11 := cell_of bxP1 1
    have gP21 := cell_of bxP1 2
    have gP31 := cell_of bxP1 3
    simp at gP01 gP11 gP21 gP31
    clear A1 hg1 ho1 tt1 hbx)
  have T1 : Hid (WT b B w (x1.setCell ⟨b, 0, none⟩ (.slice a1 (l0.length + 1) cc1))) := (T0.out.trans (WT.of_grew ((Grew.refl _).alloc _))).trans HA1.out.1
  have S1 : Hid (DW b B (x1.setCell ⟨b, 0, none⟩ (.slice a1 (l0.length + 1) cc1)) (thenW (st) (.ok [0])) (N + 1)) := HA1.out.2
  clear HA1 T0 S0 c00 R0 O0 E0 hlb0 hBl0 h30
  have bxs := heap_other bxP1 (p := ⟨b, 0, none⟩) hnP (.slice a1 (l0.length + 1) cc1)
  skip
  refine (must_any S1.out false 4 (by decide)).mono ?_
  rintro en w2 ⟨rfl, t2, s2⟩
  have T2 : Hid (WT b B w w2) := T1.out.trans t2
  have S2 : Hid (DW b B w2 (thenW (thenW st (.ok [0])) (needW false 4)) (N + 1)) := s2
  have bx2 : w2.heap[w.heap.size]? = some (.cells #[.bool false, .int .u64 mn, .int .u64 0, .bool false] 26 (0, 0)) := t2.other bxs hnP (NoT.of bxs (by decide))
  have f02 := cell_of bx2 0
  have f12 := cell_of bx2 1
  have f22 := cell_of bx2 2
  have f32 := cell_of bx2 3
  simp at f02 f12 f22 f32
  clear t2 s2 T1 S1 bxs gP01 gP11 gP21 gP31 bxP1 q1 z1
  go_wp2_with fail
  refine (du_any S2.out mn hn0 hn1 (by omega)).mono ?_
  rintro en w3 ⟨rfl, t3, s3⟩
  have T3 : Hid (WT b B w w3) := T2.out.trans t3
  have S3 : Hid (DW b B w3 (thenW (thenW (thenW st (.ok [0])) (needW false 4)) (.ok (PU mn))) (N + 1 + 11)) := s3
  have bx3 : w3.heap[w.heap.size]? = some (.cells #[.bool false, .int .u64 mn, .int .u64 0, .bool false] 26 (0, 0)) := t3.other bx2 hnP (NoT.of bx2 (by decide))
  have f03 := cell_of bx3 0
  have f13 := cell_of bx3 1
  have f23 := cell_of bx3 2
  have f33 := cell_of bx3 3
  simp at f03 f13 f23 f33
  clear t3 s3 T2 S2 bx2 f02 f12 f22 f32
  go_wp2_with fail
  refine (must_any S3.out true 4 (by decide)).mono ?_
  rintro en w4 ⟨rfl, t4, s4⟩
  have T4 : Hid (WT b B w w4) := T3.out.trans t4
  have S4 : Hid (DW b B w4 (thenW (thenW (thenW (thenW st (.ok [0])) (needW false 4)) (.ok (PU mn))) (needW true 4)) (N + 1 + 11)) := s4
  have bx4 : w4.heap[w.heap.size]? = some (.cells #[.bool false, .int .u64 mn, .int .u64 0, .bool false] 26 (0, 0)) := t4.other bx3 hnP (NoT.of bx3 (by decide))
  have f04 := cell_of bx4 0
  have f14 := cell_of bx4 1
  have f24 := cell_of bx4 2
  have f34 := cell_of bx4 3
  simp at f04 f14 f24 f34
  clear t4 s4 T3 S3 bx3 f03 f13 f23 f33
  go_wp2_with fail
  go_end0
  exact ⟨rfl, T4.out, by rw [← E.out]; exact S4.out.mono (by omega)⟩
set_option maxRecDepth 100000 in
set_option maxHeartbeats 2000000 in
theorem dl_ffbs {b B : Nat} {w : World} {st : Except Nat (List Int)} {N : Nat} (h : DW b B w st N) (mn : Int) (hn0 : 0 ≤ mn) (hn1 : mn ≤ 18446744073709551615) (mx : Int) (hx0 : 0 ≤ mx) (hx1 : mx ≤ 18446744073709551615) (hmn : 4294967295 < mn) (hmx : mx ≤ 4294967295) (hm0 : mx ≠ 0) (hN : N ≤ 17592186044000) :
    Calls Tryd.prog 21 #[.pointer (some ⟨b, 0, none⟩), .agg #[.bool false, .int .u64 mn, .int .u64 mx, .bool false]] w (DA b B w (thenW st (limW false mn mx false)) (N + 23)) := by
  have d1 : decide (mn < 4294967296) = false := by simp; omega
  have d2 : decide (mx < 4294967296) = true := by simp; omega
  have d3 : (mx == 0) = false := by simpa using hm0
  have E : Hid (thenW (thenW (thenW (thenW st (.ok [0])) (needW false 4)) (.ok (PU mn))) (needW false 4) = thenW st (limW false mn mx false)) := by
    show _ = _
    rw [limW, if_neg (by simp; omega)]
    cases st <;> simp [thenW, needW]
  have S0 : Hid (DW b B (w.alloc (.cells #[.bool false, .int .u64 mn, .int .u64 mx, .bool false] 26)) st N) := h.grew ((Grew.refl w).alloc _)
  have T0 : Hid (WT b B w (w.alloc (.cells #[.bool false, .int .u64 mn, .int .u64 mx, .bool false] 26))) := WT.of_grew ((Grew.refl w).alloc _)
  have hbx : (w.alloc (.cells #[.bool false, .int .u64 mn, .int .u64 mx, .bool false] 26)).heap[w.heap.size]? = some (.cells #[.bool false, .int .u64 mn, .int .u64 mx, .bool false] 26 (0, 0)) := heap_alloc_last w _
  have hb : b < w.heap.size := h.blt
  have hblt : b < B := h.lt
  have hnP : w.heap.size ≠ b := by omega
  clear h
  go_enter Tryd.func21, Tryd.ntmps21
  obtain ⟨o0, e0, l0, h10, h20, h30, h40⟩ := S0.out.ex
  obtain ⟨oa0, oc0, rfl⟩ := row_one h20
  have c00 := cell_of h10 0
  simp at c00
  have R0 : Hid ((w.alloc (.cells #[.bool false, .int .u64 mn, .int .u64 mx, .bool false] 26)).ownsRow B 5 1 (.slice oa0 l0.length oc0) l0.length (U8 l0)) := h20
  have O0 : Hid ((w.alloc (.cells #[.bool false, .int .u64 mn, .int .u64 mx, .bool false] 26)).heap[b]? = some (dob (.slice oa0 l0.length oc0) e0)) := h10
  have E0 : Hid (StE (st) l0 e0) := h40
  have hlb0 : b < B := S0.out.lt
  have hBl0 : B ≤ (w.alloc (.cells #[.bool false, .int .u64 mn, .int .u64 mx, .bool false] 26)).heap.size := S0.out.le
  clear h10 h20 h40
  rw [alloc_size] at hBl0
  go_wp2_with (
    at_builtin
    refine wp_appG (w := ((w.alloc (.cells #[.bool false, .int .u64 mn, .int .u64 mx, .bool false] 26)).alloc (.cells #[.int .u8 0] 5))) (v := .slice oa0 l0.length oc0) (u := .slice (some ⟨w.heap.size + 1, 0, none⟩) 1 1) (r := [0]) rfl _ _ rfl rfl rfl (World.ownsRow.alloc R0.out _) (by simp; omega) (by have hrd := reads_new (w.alloc (.cells #[.bool false, .int .u64 mn, .int .u64 mx, .bool false] 26)) 0 5; rw [alloc_size] at hrd; exact hrd) (by simp; omega) ?_
    intro v1 x1 ho1 hg1
    obtain ⟨a1, cc1, hv1⟩ := row_one ho1
    rw [List.length_append] at hv1
    subst hv1
    have A1 := dw_app (b := b) (B := B) (w := ((w.alloc (.cells #[.bool false, .int .u64 mn, .int .u64 mx, .bool false] 26)).alloc (.cells #[.int .u8 0] 5))) (st := st) (N := N) (r := [0]) (heap_alloc O0.out _) (World.ownsRow.alloc R0.out _) h30 E0.out hlb0 (by simp; omega) ho1 hg1
    have q1 := cell_of A1.1 0
    have z1 := free_of A1.1 0
    simp at q1
    have HA1 : Hid (WT b B ((w.alloc (.cells #[.bool false, .int .u64 mn, .int .u64 mx, .bool false] 26)).alloc (.cells #[.int .u8 0] 5)) (x1.setCell ⟨b, 0, none⟩ (.slice a1 (l0.length + [(0 : Int)].length) cc1)) ∧ DW b B (x1.setCell ⟨b, 0, none⟩ (.slice a1 (l0.length + [(0 : Int)].length) cc1)) (thenW (st) (.ok [0])) (N + [(0 : Int)].length)) := A1.2
    have tt1 := A1.2.1
    have bxP1 : x1.heap[w.heap.size]? = some (.cells #[.bool false, .int .u64 mn, .int .u64 mx, .bool false] 26 (0, 0)) := (wt_grown (b := b) (World.ownsRow.alloc R0.out _) hg1).other (heap_alloc hbx _) hnP (NoT.of (heap_alloc hbx _) (by decide))
    have gP01 := cell_of bxP1 0
    have gP11 := cell_of bxP1 1
    have gP21 := cell_of bxP1 2
    have gP31 := cell_of bxP1 3
    simp at gP01 gP11 gP21 gP31
    clear A1 hg1 ho1 tt1 hbx)
  have T1 : Hid (WT b B w (x1.setCell ⟨b, 0, none⟩ (.slice a1 (l0.length + 1) cc1))) := (T0.out.trans (WT.of_grew ((Grew.refl _).alloc _))).trans HA1.out.1
  have S1 : Hid (DW b B (x1.setCell ⟨b, 0, none⟩ (.slice a1 (l0.length + 1) cc1)) (thenW (st) (.ok [0])) (N + 1)) := HA1.out.2
  clear HA1 T0 S0 c00 R0 O0 E0 hlb0 hBl0 h30
  have bxs := heap_other bxP1 (p := ⟨b, 0, none⟩) hnP (.slice a1 (l0.length + 1) cc1)
  skip
  refine (must_any S1.out false 4 (by decide)).mono ?_
  rintro en w2 ⟨rfl, t2, s2⟩
  have T2 : Hid (WT b B w w2) := T1.out.trans t2
  have S2 : Hid (DW b B w2 (thenW (thenW st (.ok [0])) (needW false 4)) (N + 1)) := s2
  have bx2 : w2.heap[w.heap.size]? = some (.cells #[.bool false, .int .u64 mn, .int .u64 mx, .bool false] 26 (0, 0)) := t2.other bxs hnP (NoT.of bxs (by decide))
  have f02 := cell_of bx2 0
  have f12 := cell_of bx2 1
  have f22 := cell_of bx2 2
  have f32 := cell_of bx2 3
  simp at f02 f12 f22 f32
  clear t2 s2 T1 S1 bxs gP01 gP11 gP21 gP31 bxP1 q1 z1
  go_wp2_with fail
  refine (du_any S2.out mn hn0 hn1 (by omega)).mono ?_
  rintro en w3 ⟨rfl, t3, s3⟩
  have T3 : Hid (WT b B w w3) := T2.out.trans t3
  have S3 : Hid (DW b B w3 (thenW (thenW (thenW st (.ok [0])) (needW false 4)) (.ok (PU mn))) (N + 1 + 11)) := s3
  have bx3 : w3.heap[w.heap.size]? = some (.cells #[.bool false, .int .u64 mn, .int .u64 mx, .bool false] 26 (0, 0)) := t3.other bx2 hnP (NoT.of bx2 (by decide))
  have f03 := cell_of bx3 0
  have f13 := cell_of bx3 1
  have f23 := cell_of bx3 2
  have f33 := cell_of bx3 3
  simp at f03 f13 f23 f33
  clear t3 s3 T2 S2 bx2 f02 f12 f22 f32
  go_wp2_with fail
  refine (must_any S3.out false 4 (by decide)).mono ?_
  rintro en w4 ⟨rfl, t4, s4⟩
  have T4 : Hid (WT b B w w4) := T3.out.trans t4
  have S4 : Hid (DW b B w4 (thenW (thenW (thenW (thenW st (.ok [0])) (needW false 4)) (.ok (PU mn))) (needW false 4)) (N + 1 + 11)) := s4
  have bx4 : w4.heap[w.heap.size]? = some (.cells #[.bool false, .int .u64 mn, .int .u64 mx, .bool false] 26 (0, 0)) := t4.other bx3 hnP (NoT.of bx3 (by decide))
  have f04 := cell_of bx4 0
  have f14 := cell_of bx4 1
  have f24 := cell_of bx4 2
  have f34 := cell_of bx4 3
  simp at f04 f14 f24 f34
  clear t4 s4 T3 S3 bx3 f03 f13 f23 f33
  go_wp2_with fail
  go_end0
  exact ⟨rfl, T4.out, by rw [← E.out]; exact S4.out.mono (by omega)⟩
set_option maxRecDepth 100000 in
set_option maxHeartbeats 2000000 in
theorem dl_ffbb {b B : Nat} {w : World} {st : Except Nat (List Int)} {N : Nat} (h : DW b B w st N) (mn : Int) (hn0 : 0 ≤ mn) (hn1 : mn ≤ 18446744073709551615) (mx : Int) (hx0 : 0 ≤ mx) (hx1 : mx ≤ 18446744073709551615) (hmn : 4294967295 < mn) (hmx : 4294967295 < mx) (hm0 : mx ≠ 0) (hN : N ≤ 17592186044000) :
    Calls Tryd.prog 21 #[.pointer (some ⟨b, 0, none⟩), .agg #[.bool false, .int .u64 mn, .int .u64 mx, .bool false]] w (DA b B w (thenW st (limW false mn mx false)) (N + 23)) := by
  have d1 : decide (mn < 4294967296) = false := by simp; omega
  have d2 : decide (mx < 4294967296) = false := by simp; omega
  have d3 : (mx == 0) = false := by simpa using hm0
  have E : Hid (thenW (thenW (thenW (thenW st (.ok [0])) (needW false 4)) (.ok (PU mn))) (needW false 4) = thenW st (limW false mn mx false)) := by
    show _ = _
    rw [limW, if_neg (by simp; omega)]
    cases st <;> simp [thenW, needW]
  have S0 : Hid (DW b B (w.alloc (.cells #[.bool false, .int .u64 mn, .int .u64 mx, .bool false] 26)) st N) := h.grew ((Grew.refl w).alloc _)
  have T0 : Hid (WT b B w (w.alloc (.cells #[.bool false, .int .u64 mn, .int .u64 mx, .bool false] 26))) := WT.of_grew ((Grew.refl w).alloc _)
  have hbx : (w.alloc (.cells #[.bool false, .int .u64 mn, .int .u64 mx, .bool false] 26)).heap[w.heap.size]? = some (.cells #[.bool false, .int .u64 mn, .int .u64 mx, .bool false] 26 (0, 0)) := heap_alloc_last w _
  have hb : b < w.heap.size := h.blt
  have hblt : b < B := h.lt
  have hnP : w.heap.size ≠ b := by omega
  clear h
  go_enter Tryd.func21, Tryd.ntmps21
  obtain ⟨o0, e0, l0, h10, h20, h30, h40⟩ := S0.out.ex
  obtain ⟨oa0, oc0, rfl⟩ := row_one h20
  have c00 := cell_of h10 0
  simp at c00
  have R0 : Hid ((w.alloc (.cells #[.bool false, .int .u64 mn, .int .u64 mx, .bool false] 26)).ownsRow B 5 1 (.slice oa0 l0.length oc0) l0.length (U8 l0)) := h20
  have O0 : Hid ((w.alloc (.cells #[.bool false, .int .u64 mn, .int .u64 mx, .bool false] 26)).heap[b]? = some (dob (.slice oa0 l0.length oc0) e0)) := h10
  have E0 : Hid (StE (st) l0 e0) := h40
  have hlb0 : b < B := S0.out.lt
  have hBl0 : B ≤ (w.alloc (.cells #[.bool false, .int .u64 mn, .int .u64 mx, .bool false] 26)).heap.size := S0.out.le
  clear h10 h20 h40
  rw [alloc_size] at hBl0
  go_wp2_with (
    at_builtin
    refine wp_appG (w := ((w.alloc (.cells #[.bool false, .int .u64 mn, .int .u64 mx, .bool false] 26)).alloc (.cells #[.int .u8 0] 5))) (v := .slice oa0 l0.length oc0) (u := .slice (some ⟨w.heap.size + 1, 0, none⟩) 1 1) (r := [0]) rfl _ _ rfl rfl rfl (World.ownsRow.alloc R0.out _) (by simp; omega) (by have hrd := reads_new (w.alloc (.cells #[.bool false, .int .u64 mn, .int .u64 mx, .bool false] 26)) 0 5; rw [alloc_size] at hrd; exact hrd) (by simp; omega) ?_
    intro v1 x1 ho1 hg1
    obtain ⟨a1, cc1, hv1⟩ := row_one ho1
    rw [List.length_append] at hv1
    subst hv1
    have A1 := dw_app (b := b) (B := B) (w := ((w.alloc (.cells #[.bool false, .int .u64 mn, .int .u64 mx, .bool false] 26)).alloc (.cells #[.int .u8 0] 5))) (st := st) (N := N) (r := [0]) (heap_alloc O0.out _) (World.ownsRow.alloc R0.out _) h30 E0.out hlb0 (by simp; omega) ho1 hg1
    have q1 := cell_of A1.1 0
    have z1 := free_of A1.1 0
    simp at q1
    have HA1 : Hid (WT b B ((w.alloc (.cells #[.bool false, .int .u64 mn, .int .u64 mx, .bool false] 26)).alloc (.cells #[.int .u8 0] 5)) (x1.setCell ⟨b, 0, none⟩ (.slice a1 (l0.length + [(0 : Int)].length) cc1)) ∧ DW b B (x1.setCell ⟨b, 0, none⟩ (.slice a1 (l0.length + [(0 : Int)].length) cc1)) (thenW (st) (.ok [0])) (N + [(0 : Int)].length)) := A1.2
    have tt1 := A1.2.1
    have bxP1 : x1.heap[w.heap.size]? = some (.cells #[.bool false, .int .u64 mn, .int .u64 mx, .bool false] 26 (0, 0)) := (wt_grown (b := b) (World.ownsRow.alloc R0.out _) hg1).other (heap_alloc hbx _) hnP (NoT.of (heap_alloc hbx _) (by decide))
    have gP01 := cell_of bxP1 0
    have gP11 := cell_of bxP1 1
    have gP21 := cell_of bxP1 2
    have gP31 := cell_of bxP1 3
    simp at gP01 gP11 gP21 gP31
    clear A1 hg1 ho1 tt1 hbx)
  have T1 : Hid (WT b B w (x1.setCell ⟨b, 0, none⟩ (.slice a1 (l0.length + 1) cc1))) := (T0.out.trans (WT.of_grew ((Grew.refl _).alloc _))).trans HA1.out.1
  have S1 : Hid (DW b B (x1.setCell ⟨b, 0, none⟩ (.slice a1 (l0.length + 1) cc1)) (thenW (st) (.ok [0])) (N + 1)) := HA1.out.2
  clear HA1 T0 S0 c00 R0 O0 E0 hlb0 hBl0 h30
  have bxs := heap_other bxP1 (p := ⟨b, 0, none⟩) hnP (.slice a1 (l0.length + 1) cc1)
  skip
  refine (must_any S1.out false 4 (by decide)).mono ?_
  rintro en w2 ⟨rfl, t2, s2⟩
  have T2 : Hid (WT b B w w2) := T1.out.trans t2
  have S2 : Hid (DW b B w2 (thenW (thenW st (.ok [0])) (needW false 4)) (N + 1)) := s2
  have bx2 : w2.heap[w.heap.size]? = some (.cells #[.bool false, .int .u64 mn, .int .u64 mx, .bool false] 26 (0, 0)) := t2.other bxs hnP (NoT.of bxs (by decide))
  have f02 := cell_of bx2 0
  have f12 := cell_of bx2 1
  have f22 := cell_of bx2 2
  have f32 := cell_of bx2 3
  simp at f02 f12 f22 f32
  clear t2 s2 T1 S1 bxs gP01 gP11 gP21 gP31 bxP1 q1 z1
  go_wp2_with fail
  refine (du_any S2.out mn hn0 hn1 (by omega)).mono ?_
  rintro en w3 ⟨rfl, t3, s3⟩
  have T3 : Hid (WT b B w w3) := T2.out.trans t3
  have S3 : Hid (DW b B w3 (thenW (thenW (thenW st (.ok [0])) (needW false 4)) (.ok (PU mn))) (N + 1 + 11)) := s3
  have bx3 : w3.heap[w.heap.size]? = some (.cells #[.bool false, .int .u64 mn, .int .u64 mx, .bool false] 26 (0, 0)) := t3.other bx2 hnP (NoT.of bx2 (by decide))
  have f03 := cell_of bx3 0
  have f13 := cell_of bx3 1
  have f23 := cell_of bx3 2
  have f33 := cell_of bx3 3
  simp at f03 f13 f23 f33
  clear t3 s3 T2 S2 bx2 f02 f12 f22 f32
  go_wp2_with fail
  refine (must_any S3.out false 4 (by decide)).mono ?_
  rintro en w4 ⟨rfl, t4, s4⟩
  have T4 : Hid (WT b B w w4) := T3.out.trans t4
  have S4 : Hid (DW b B w4 (thenW (thenW (thenW (thenW st (.ok [0])) (needW false 4)) (.ok (PU mn))) (needW false 4)) (N + 1 + 11)) := s4
  have bx4 : w4.heap[w.heap.size]? = some (.cells #[.bool false, .int .u64 mn, .int .u64 mx, .bool false] 26 (0, 0)) := t4.other bx3 hnP (NoT.of bx3 (by decide))
  have f04 := cell_of bx4 0
  have f14 := cell_of bx4 1
  have f24 := cell_of bx4 2
  have f34 := cell_of bx4 3
  simp at f04 f14 f24 f34
  clear t4 s4 T3 S3 bx3 f03 f13 f23 f33
  go_wp2_with fail
  go_end0
  exact ⟨rfl, T4.out, by rw [← E.out]; exact S4.out.mono (by omega)⟩
theorem dwLimits_any {b B : Nat} {w : World} {st : Except Nat (List Int)} {N : Nat} (h : DW b B w st N) (wide hm : Bool) (mn mx : Int) (hn0 : 0 ≤ mn) (hn1 : mn ≤ 18446744073709551615) (hx0 : 0 ≤ mx) (hx1 : mx ≤ 18446744073709551615) (hN : N ≤ 17592186044000) :
    Calls Tryd.prog 21 #[.pointer (some ⟨b, 0, none⟩), .agg #[.bool wide, .int .u64 mn, .int .u64 mx, .bool hm]] w (DA b B w (thenW st (limW wide mn mx hm)) (N + 23)) := by
  cases wide with
  | true =>
    cases hm with
    | true => exact dl_tt h mn hn0 hn1 mx hx0 hx1 hN
    | false =>
      by_cases h0 : mx = 0
      · subst h0; exact dl_tf0 h mn hn0 hn1 hN
      · exact dl_tf1 h mn hn0 hn1 mx hx0 hx1 h0 hN
  | false =>
    by_cases hmn : mn ≤ 4294967295
    · cases hm with
      | true =>
        by_cases hmx : mx ≤ 4294967295
        · exact dl_ftgs h mn hn0 hn1 mx hx0 hx1 hmn hmx hN
        · exact dl_ftgb h mn hn0 hn1 mx hx0 hx1 hmn (by omega) hN
      | false =>
        by_cases h0 : mx = 0
        · subst h0; exact dl_ffg0 h mn hn0 hn1 hmn hN
        · by_cases hmx : mx ≤ 4294967295
          · exact dl_ffgs h mn hn0 hn1 mx hx0 hx1 hmn hmx h0 hN
          · exact dl_ffgb h mn hn0 hn1 mx hx0 hx1 hmn (by omega) h0 hN
    · cases hm with
      | true =>
        by_cases hmx : mx ≤ 4294967295
        · exact dl_ftbs h mn hn0 hn1 mx hx0 hx1 (by omega) hmx hN
        · exact dl_ftbb h mn hn0 hn1 mx hx0 hx1 (by omega) (by omega) hN
      | false =>
        by_cases h0 : mx = 0
        · subst h0; exact dl_ffb0 h mn hn0 hn1 (by omega) hN
        · by_cases hmx : mx ≤ 4294967295
          · exact dl_ffbs h mn hn0 hn1 mx hx0 hx1 (by omega) hmx h0 hN
          · exact dl_ffbb h mn hn0 hn1 mx hx0 hx1 (by omega) (by omega) h0 hN
end Go.Proofs.YtfnfbioenngjoaaDoor
