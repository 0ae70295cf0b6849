/-
  The document's writer: the walks of val whole and of field; no statement is proved here.
-/
import Derived.Test.YtfnfbioenngjoaaDoorDw4
namespace Go.Proofs.YtfnfbioenngjoaaDoor
open Go.RowKit
set_option linter.unusedVariables false
set_option linter.unusedSimpArgs false
set_option linter.constructorNameAsVariable false

theorem wt_grown {b B : Nat} {w w1 : World} {o : Value} {l : List Int} (hr : w.ownsRow B 5 1 o l.length (U8 l)) (hg1 : w.grownBy w1 o.ownBlock) : WT b B w w1 :=
  ⟨hg1.os, hg1.tape, hg1.output, hg1.size, fun k hk _ h2 => hg1.block k hk (fun hh => by
      rcases h2 with h2 | h2
      · have := (World.ownsRow.lt hr k hh.symm).1; omega
      · obtain ⟨_, ⟨e, _⟩ | ⟨g, cap, cur, e, _, hgg, _⟩⟩ := hr
        · rw [e] at hh; cases hh
        · rw [e] at hh
          have : k = g := by simpa [Value.ownBlock] using hh
          subst this
          exact h2 _ _ hgg)⟩
theorem sv_ref {fld : Bool} {nul : Bool} {hp : Int} : svW fld ⟨5, nul, hp⟩ = thenW (if nul = false then .ok [100] else if 0 ≤ hp then .ok [99] else .ok []) (heapW hp) := by
  have e : valW ⟨5, nul, hp⟩ = thenW (if nul = false then .ok [100] else if 0 ≤ hp then .ok [99] else .ok []) (heapW hp) := by
    unfold valW refW
    rw [if_pos rfl, if_pos rfl, code_50, code_51]
  unfold svW
  cases fld with
  | true => rw [if_pos rfl]; unfold storW; rw [if_neg (by simp), e]
  | false => rw [if_neg (by simp), e]
set_option maxRecDepth 100000 in
set_option maxHeartbeats 2000000 in
theorem dv_ref_no {b B : Nat} {w : World} {st : Except Nat (List Int)} {N : Nat} (h : DW b B w st N) (fld : Bool) (hp : Int) (hn0 : -9223372036854775808 ≤ hp) (hn1 : hp ≤ 9223372036854775807)  (hN : N ≤ 17592186044400) :
    Calls Tryd.prog 36 #[.pointer (some ⟨b, 0, none⟩), .agg #[.int .i64 5, .bool false, .int .i64 hp], .bool fld] w (DA b B w (thenW st (svW fld ⟨5, false, hp⟩)) (N + 12)) := by
  have E : Hid (thenW (thenW st (.ok [100])) (heapW hp) = thenW st (svW fld ⟨5, false, hp⟩)) := by show _ = _; rw [sv_ref, if_pos rfl, thenW_assoc]
  have S0 : Hid (DW b B (w.alloc (.cells #[.int .i64 5, .bool false, .int .i64 hp] 23)) st N) := h.grew ((Grew.refl w).alloc _)
  have T0 : Hid (WT b B w (w.alloc (.cells #[.int .i64 5, .bool false, .int .i64 hp] 23))) := WT.of_grew ((Grew.refl w).alloc _)
  have hbx : (w.alloc (.cells #[.int .i64 5, .bool false, .int .i64 hp] 23)).heap[w.heap.size]? = some (.cells #[.int .i64 5, .bool false, .int .i64 hp] 23 (0, 0)) := heap_alloc_last w _
  have hb : b < w.heap.size := h.blt
  have hnP : w.heap.size ≠ b := by omega
  clear h
  go_enter Tryd.func36, Tryd.ntmps36
  obtain ⟨o0, e0, l0, h10, h20, h30, h40⟩ := S0.out.ex
  obtain ⟨oa0, oc0, rfl⟩ := row_one h20
  have c00 := cell_of h10 0
  simp at c00
  have R0 : Hid ((w.alloc (.cells #[.int .i64 5, .bool false, .int .i64 hp] 23)).ownsRow B 5 1 (.slice oa0 l0.length oc0) l0.length (U8 l0)) := h20
  have O0 : Hid ((w.alloc (.cells #[.int .i64 5, .bool false, .int .i64 hp] 23)).heap[b]? = some (dob (.slice oa0 l0.length oc0) e0)) := h10
  have E0 : Hid (StE (st) l0 e0) := h40
  have hlb0 : b < B := S0.out.lt
  have hBl0 : B ≤ (w.alloc (.cells #[.int .i64 5, .bool false, .int .i64 hp] 23)).heap.size := S0.out.le
  clear h10 h20 h40
  rw [alloc_size] at hBl0
  go_wp2_with (
    at_builtin
    refine wp_appG (w := ((w.alloc (.cells #[.int .i64 5, .bool false, .int .i64 hp] 23)).alloc (.cells #[.int .u8 100] 5))) (v := .slice oa0 l0.length oc0) (u := .slice (some ⟨w.heap.size + 1, 0, none⟩) 1 1) (r := [100]) rfl _ _ rfl rfl rfl (World.ownsRow.alloc R0.out _) (by simp; omega) (by have hrd := reads_new (w.alloc (.cells #[.int .i64 5, .bool false, .int .i64 hp] 23)) 100 5; rw [alloc_size] at hrd; exact hrd) (by simp; omega) ?_
    intro v1 x1 ho1 hg1
    obtain ⟨a1, cc1, hv1⟩ := row_one ho1
    rw [List.length_append] at hv1
    subst hv1
    have A1 := dw_app (b := b) (B := B) (w := ((w.alloc (.cells #[.int .i64 5, .bool false, .int .i64 hp] 23)).alloc (.cells #[.int .u8 100] 5))) (st := st) (N := N) (r := [100]) (heap_alloc O0.out _) (World.ownsRow.alloc R0.out _) h30 E0.out hlb0 (by simp; omega) ho1 hg1
    have q1 := cell_of A1.1 0
    have z1 := free_of A1.1 0
    simp at q1
    have HA1 : Hid (WT b B ((w.alloc (.cells #[.int .i64 5, .bool false, .int .i64 hp] 23)).alloc (.cells #[.int .u8 100] 5)) (x1.setCell ⟨b, 0, none⟩ (.slice a1 (l0.length + [(100 : Int)].length) cc1)) ∧ DW b B (x1.setCell ⟨b, 0, none⟩ (.slice a1 (l0.length + [(100 : Int)].length) cc1)) (thenW (st) (.ok [100])) (N + [(100 : Int)].length)) := A1.2
    have tt1 := A1.2.1
    have bxP1 : x1.heap[w.heap.size]? = some (.cells #[.int .i64 5, .bool false, .int .i64 hp] 23 (0, 0)) := (wt_grown (b := b) (World.ownsRow.alloc R0.out _) hg1).other (heap_alloc hbx _) hnP (NoT.of (heap_alloc hbx _) (by decide))
    have gP01 := cell_of bxP1 0
    have gP11 := cell_of bxP1 1
    have gP21 := cell_of bxP1 2
    simp at gP01 gP11 gP21
    clear A1 hg1 ho1 tt1 hbx)
  have T1 : Hid (WT b B w (x1.setCell ⟨b, 0, none⟩ (.slice a1 (l0.length + 1) cc1))) := (T0.out.trans (WT.of_grew ((Grew.refl _).alloc _))).trans HA1.out.1
  have S1 : Hid (DW b B (x1.setCell ⟨b, 0, none⟩ (.slice a1 (l0.length + 1) cc1)) (thenW (st) (.ok [100])) (N + 1)) := HA1.out.2
  clear HA1 T0 S0 c00 R0 O0 E0 hlb0 hBl0 h30
  skip
  refine (dwHeap_any S1.out hp hn0 hn1 (by omega)).mono ?_
  rintro en w2 ⟨rfl, t2, s2⟩
  have T2 : Hid (WT b B w w2) := T1.out.trans t2
  have S2 : Hid (DW b B w2 (thenW (thenW st (.ok [100])) (heapW hp)) (N + 1 + 11)) := s2
  clear t2 s2 T1 S1
  go_wp2_with fail
  go_end0
  exact ⟨rfl, T2.out, by rw [← E.out]; exact S2.out.mono (by omega)⟩
set_option maxRecDepth 100000 in
set_option maxHeartbeats 2000000 in
theorem dv_ref_yes {b B : Nat} {w : World} {st : Except Nat (List Int)} {N : Nat} (h : DW b B w st N) (fld : Bool) (hp : Int) (hn0 : -9223372036854775808 ≤ hp) (hn1 : hp ≤ 9223372036854775807) (h0 : 0 ≤ hp) (hN : N ≤ 17592186044400) :
    Calls Tryd.prog 36 #[.pointer (some ⟨b, 0, none⟩), .agg #[.int .i64 5, .bool true, .int .i64 hp], .bool fld] w (DA b B w (thenW st (svW fld ⟨5, true, hp⟩)) (N + 12)) := by
  have d0 : decide (hp < 0) = false := by simp; omega
  have E : Hid (thenW (thenW st (.ok [99])) (heapW hp) = thenW st (svW fld ⟨5, true, hp⟩)) := by show _ = _; rw [sv_ref, if_neg (by simp), if_pos h0, thenW_assoc]
  have S0 : Hid (DW b B (w.alloc (.cells #[.int .i64 5, .bool true, .int .i64 hp] 23)) st N) := h.grew ((Grew.refl w).alloc _)
  have T0 : Hid (WT b B w (w.alloc (.cells #[.int .i64 5, .bool true, .int .i64 hp] 23))) := WT.of_grew ((Grew.refl w).alloc _)
  have hbx : (w.alloc (.cells #[.int .i64 5, .bool true, .int .i64 hp] 23)).heap[w.heap.size]? = some (.cells #[.int .i64 5, .bool true, .int .i64 hp] 23 (0, 0)) := heap_alloc_last w _
  have hb : b < w.heap.size := h.blt
  have hnP : w.heap.size ≠ b := by omega
  clear h
  go_enter Tryd.func36, Tryd.ntmps36
  obtain ⟨o0, e0, l0, h10, h20, h30, h40⟩ := S0.out.ex
  obtain ⟨oa0, oc0, rfl⟩ := row_one h20
  have c00 := cell_of h10 0
  simp at c00
  have R0 : Hid ((w.alloc (.cells #[.int .i64 5, .bool true, .int .i64 hp] 23)).ownsRow B 5 1 (.slice oa0 l0.length oc0) l0.length (U8 l0)) := h20
  have O0 : Hid ((w.alloc (.cells #[.int .i64 5, .bool true, .int .i64 hp] 23)).heap[b]? = some (dob (.slice oa0 l0.length oc0) e0)) := h10
  have E0 : Hid (StE (st) l0 e0) := h40
  have hlb0 : b < B := S0.out.lt
  have hBl0 : B ≤ (w.alloc (.cells #[.int .i64 5, .bool true, .int .i64 hp] 23)).heap.size := S0.out.le
  clear h10 h20 h40
  rw [alloc_size] at hBl0
  go_wp2_with (
    at_builtin
    refine wp_appG (w := ((w.alloc (.cells #[.int .i64 5, .bool true, .int .i64 hp] 23)).alloc (.cells #[.int .u8 99] 5))) (v := .slice oa0 l0.length oc0) (u := .slice (some ⟨w.heap.size + 1, 0, none⟩) 1 1) (r := [99]) rfl _ _ rfl rfl rfl (World.ownsRow.alloc R0.out _) (by simp; omega) (by have hrd := reads_new (w.alloc (.cells #[.int .i64 5, .bool true, .int .i64 hp] 23)) 99 5; rw [alloc_size] at hrd; exact hrd) (by simp; omega) ?_
    intro v1 x1 ho1 hg1
    obtain ⟨a1, cc1, hv1⟩ := row_one ho1
    rw [List.length_append] at hv1
    subst hv1
    have A1 := dw_app (b := b) (B := B) (w := ((w.alloc (.cells #[.int .i64 5, .bool true, .int .i64 hp] 23)).alloc (.cells #[.int .u8 99] 5))) (st := st) (N := N) (r := [99]) (heap_alloc O0.out _) (World.ownsRow.alloc R0.out _) h30 E0.out hlb0 (by simp; omega) ho1 hg1
    have q1 := cell_of A1.1 0
    have z1 := free_of A1.1 0
    simp at q1
    have HA1 : Hid (WT b B ((w.alloc (.cells #[.int .i64 5, .bool true, .int .i64 hp] 23)).alloc (.cells #[.int .u8 99] 5)) (x1.setCell ⟨b, 0, none⟩ (.slice a1 (l0.length + [(99 : Int)].length) cc1)) ∧ DW b B (x1.setCell ⟨b, 0, none⟩ (.slice a1 (l0.length + [(99 : Int)].length) cc1)) (thenW (st) (.ok [99])) (N + [(99 : Int)].length)) := A1.2
    have tt1 := A1.2.1
    have bxP1 : x1.heap[w.heap.size]? = some (.cells #[.int .i64 5, .bool true, .int .i64 hp] 23 (0, 0)) := (wt_grown (b := b) (World.ownsRow.alloc R0.out _) hg1).other (heap_alloc hbx _) hnP (NoT.of (heap_alloc hbx _) (by decide))
    have gP01 := cell_of bxP1 0
    have gP11 := cell_of bxP1 1
    have gP21 := cell_of bxP1 2
    simp at gP01 gP11 gP21
    clear A1 hg1 ho1 tt1 hbx)
  have T1 : Hid (WT b B w (x1.setCell ⟨b, 0, none⟩ (.slice a1 (l0.length + 1) cc1))) := (T0.out.trans (WT.of_grew ((Grew.refl _).alloc _))).trans HA1.out.1
  have S1 : Hid (DW b B (x1.setCell ⟨b, 0, none⟩ (.slice a1 (l0.length + 1) cc1)) (thenW (st) (.ok [99])) (N + 1)) := HA1.out.2
  clear HA1 T0 S0 c00 R0 O0 E0 hlb0 hBl0 h30
  skip
  refine (dwHeap_any S1.out hp hn0 hn1 (by omega)).mono ?_
  rintro en w2 ⟨rfl, t2, s2⟩
  have T2 : Hid (WT b B w w2) := T1.out.trans t2
  have S2 : Hid (DW b B w2 (thenW (thenW st (.ok [99])) (heapW hp)) (N + 1 + 11)) := s2
  clear t2 s2 T1 S1
  go_wp2_with fail
  go_end0
  exact ⟨rfl, T2.out, by rw [← E.out]; exact S2.out.mono (by omega)⟩
set_option maxRecDepth 100000 in
set_option maxHeartbeats 2000000 in
theorem dv_ref_abs {b B : Nat} {w : World} {st : Except Nat (List Int)} {N : Nat} (h : DW b B w st N) (fld : Bool) (hp : Int) (hn0 : -9223372036854775808 ≤ hp) (hn1 : hp ≤ 9223372036854775807) (h0 : hp < 0) (hN : N ≤ 17592186044400) :
    Calls Tryd.prog 36 #[.pointer (some ⟨b, 0, none⟩), .agg #[.int .i64 5, .bool true, .int .i64 hp], .bool fld] w (DA b B w (thenW st (svW fld ⟨5, true, hp⟩)) (N + 12)) := by
  have d0 : decide (hp < 0) = true := by simpa using h0
  have E : Hid (thenW st (heapW hp) = thenW st (svW fld ⟨5, true, hp⟩)) := by show _ = _; rw [sv_ref, if_neg (by simp), if_neg (by omega), thenW_assoc, thenW_nil]
  have S0 : Hid (DW b B (w.alloc (.cells #[.int .i64 5, .bool true, .int .i64 hp] 23)) st N) := h.grew ((Grew.refl w).alloc _)
  have T0 : Hid (WT b B w (w.alloc (.cells #[.int .i64 5, .bool true, .int .i64 hp] 23))) := WT.of_grew ((Grew.refl w).alloc _)
  have hbx : (w.alloc (.cells #[.int .i64 5, .bool true, .int .i64 hp] 23)).heap[w.heap.size]? = some (.cells #[.int .i64 5, .bool true, .int .i64 hp] 23 (0, 0)) := heap_alloc_last w _
  have hb : b < w.heap.size := h.blt
  have hnP : w.heap.size ≠ b := by omega
  clear h
  go_enter Tryd.func36, Tryd.ntmps36
  go_wp2_with fail
  refine (dwHeap_any S0.out hp hn0 hn1 (by omega)).mono ?_
  rintro en w1 ⟨rfl, t1, s1⟩
  have T1 : Hid (WT b B w w1) := T0.out.trans t1
  have S1 : Hid (DW b B w1 (thenW st (heapW hp)) (N + 11)) := s1
  clear t1 s1 T0 S0
  go_wp2_with fail
  go_end0
  exact ⟨rfl, T1.out, by rw [← E.out]; exact S1.out.mono (by omega)⟩
def okV (t : VT) : Prop := -9223372036854775808 ≤ t.heap ∧ t.heap ≤ 9223372036854775807
theorem DA.up {b B : Nat} {w : World} {st : Except Nat (List Int)} {N M : Nat} {n : FuncId} {args : Array Value} (h : Calls Tryd.prog n args w (DA b B w st N)) (hM : N ≤ M) : Calls Tryd.prog n args w (DA b B w st M) := h.mono fun _ _ ⟨h1, h2, h3⟩ => ⟨h1, h2, h3.mono hM⟩
theorem dwVal_any {b B : Nat} {w : World} {st : Except Nat (List Int)} {N : Nat} (h : DW b B w st N) (t : VT) (fld : Bool) (ht : okV t) (hN : N ≤ 17592186044400) :
    Calls Tryd.prog 36 #[.pointer (some ⟨b, 0, none⟩), t.v, .bool fld] w (DA b B w (thenW st (svW fld t)) (N + 12)) := by
  obtain ⟨n, nul, hp⟩ := t
  obtain ⟨hn0, hn1⟩ := ht
  simp only at hn0 hn1
  unfold VT.v vt
  simp only
  by_cases h5 : n = 5
  · subst h5
    cases nul with
    | false => exact dv_ref_no h fld hp hn0 hn1 hN
    | true =>
      by_cases h0 : 0 ≤ hp
      · exact dv_ref_yes h fld hp hn0 hn1 h0 hN
      · exact dv_ref_abs h fld hp hn0 hn1 (by omega) hN
  · by_cases h6 : n = 6
    · subst h6
      cases fld with
      | true =>
        cases nul with
        | true => exact DA.up (dv_six_t_null h hp hN) (by omega)
        | false =>
          by_cases hh : hp = 0
          · subst hh; exact DA.up (dv_six_t_good h hN) (by omega)
          · exact DA.up (dv_six_t_heap h hp hh hN) (by omega)
      | false =>
        cases nul with
        | true => exact DA.up (dv_six_f_null h hp hN) (by omega)
        | false =>
          by_cases hh : hp = 0
          · subst hh; exact DA.up (dv_six_f_good h hN) (by omega)
          · exact DA.up (dv_six_f_heap h hp hh hN) (by omega)
    · by_cases h7 : n = 7
      · subst h7
        cases fld with
        | true =>
          cases nul with
          | true => exact DA.up (dv_seven_t_null h hp hN) (by omega)
          | false =>
            by_cases hh : hp = 0
            · subst hh; exact DA.up (dv_seven_t_good h hN) (by omega)
            · exact DA.up (dv_seven_t_heap h hp hh hN) (by omega)
        | false =>
          cases nul with
          | true => exact DA.up (dv_seven_f_null h hp hN) (by omega)
          | false =>
            by_cases hh : hp = 0
            · subst hh; exact DA.up (dv_seven_f_good h hN) (by omega)
            · exact DA.up (dv_seven_f_heap h hp hh hN) (by omega)
      · by_cases hl : n < 1
        · skip
          cases fld with
          | true =>
            cases nul with
            | true => exact DA.up (dv_lo_t_null h n hl hp hN) (by omega)
            | false =>
              by_cases hh : hp = 0
              · subst hh; exact DA.up (dv_lo_t_good h n hl hN) (by omega)
              · exact DA.up (dv_lo_t_heap h n hl hp hh hN) (by omega)
          | false =>
            cases nul with
            | true => exact DA.up (dv_lo_f_null h n hl hp hN) (by omega)
            | false =>
              by_cases hh : hp = 0
              · subst hh; exact DA.up (dv_lo_f_good h n hl hN) (by omega)
              · exact DA.up (dv_lo_f_heap h n hl hp hh hN) (by omega)
        · by_cases hh7 : 7 < n
          · skip
            cases fld with
            | true =>
              cases nul with
              | true => exact DA.up (dv_hi_t_null h n hh7 hp hN) (by omega)
              | false =>
                by_cases hh : hp = 0
                · subst hh; exact DA.up (dv_hi_t_good h n hh7 hN) (by omega)
                · exact DA.up (dv_hi_t_heap h n hh7 hp hh hN) (by omega)
            | false =>
              cases nul with
              | true => exact DA.up (dv_hi_f_null h n hh7 hp hN) (by omega)
              | false =>
                by_cases hh : hp = 0
                · subst hh; exact DA.up (dv_hi_f_good h n hh7 hN) (by omega)
                · exact DA.up (dv_hi_f_heap h n hh7 hp hh hN) (by omega)
          · have a1 : 1 ≤ n := by omega
            have a4 : n ≤ 4 := by omega
            cases fld with
            | true =>
              cases nul with
              | true => exact DA.up (dv_one_t_null h n a1 a4 hp hN) (by omega)
              | false =>
                by_cases hh : hp = 0
                · subst hh; exact DA.up (dv_one_t_good h n a1 a4 hN) (by omega)
                · exact DA.up (dv_one_t_heap h n a1 a4 hp hh hN) (by omega)
            | false =>
              cases nul with
              | true => exact DA.up (dv_one_f_null h n a1 a4 hp hN) (by omega)
              | false =>
                by_cases hh : hp = 0
                · subst hh; exact DA.up (dv_one_f_good h n a1 a4 hN) (by omega)
                · exact DA.up (dv_one_f_heap h n a1 a4 hp hh hN) (by omega)
end Go.Proofs.YtfnfbioenngjoaaDoor
