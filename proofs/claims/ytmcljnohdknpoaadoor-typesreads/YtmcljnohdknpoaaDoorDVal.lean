/-
  The document's reading: the walks of heap, val, done; the ties to the program's reader; no statement is proved here.
-/
import Derived.Test.YtmcljnohdknpoaaDoorDHeap
import Derived.Test.YtmcljnohdknpoaaDoorVal
namespace Go.Proofs.YtmcljnohdknpoaaDoor
open Go.RowKit
set_option linter.unusedVariables false
set_option linter.unusedSimpArgs false
set_option linter.constructorNameAsVariable false

theorem heapW_plain : ∀ k : Fin 12, num9 (heapW k.1).data.toList = none ∧ isRec (heapW k.1) = false := by decide +kernel
theorem rec_none {x : ByteArray} (h : isRec x = true) : num9 x.data.toList = none := by
  have h2 := of_decide_eq_true h
  have hl : (x.extract 0 4).data.toList = [114, 101, 99, 46] := by rw [h2.2]; rfl
  have h0 : 0 < x.size := by have := h2.1; omega
  have hb : (x[0]'h0).toNat = 114 := by
    have e := byte_at (x.extract 0 4) 0 (by rw [ByteArray.size_extract]; omega)
    rw [hl] at e
    simp only [List.getElem?_cons_zero, Option.some.injEq] at e
    rw [ByteArray.getElem_extract] at e
    simp only [Nat.zero_add] at e
    rw [← e]
    rfl
  unfold num9
  split
  · exact decFrom_bad _ 0 _ 0 (byte_at x 0 h0) (digit_no (by omega))
  · rfl
theorem rec_short {x : ByteArray} (h : isRec x = true) (h4 : ¬ 4 < x.size) : num9 (x.extract 4 x.size).data.toList = none := by
  have h2 := (of_decide_eq_true h).1
  have : (x.extract 4 x.size).data.toList = [] := by
    apply List.eq_nil_of_length_eq_zero
    rw [Array.length_toList]
    show (x.extract 4 x.size).size = 0
    rw [ByteArray.size_extract]
    omega
  rw [this]
  rfl
theorem rec_idx {x : ByteArray} (h : isRec x = true) : heapIdx x = none := by
  cases hm : heapIdx x with
  | none => rfl
  | some m =>
    obtain ⟨h12, hx, _⟩ := heapIdx_some hm
    have := (heapW_plain ⟨m, h12⟩).2
    simp only at this
    rw [hx, h] at this
    cases this
theorem ho_true (x : ByteArray) : ho true x = heapOf x := by
  unfold ho heapOf numAt
  cases hm : heapIdx x with
  | some m =>
    obtain ⟨h12, hx, _⟩ := heapIdx_some hm
    have h1 := (heapW_plain ⟨m, h12⟩).1
    have h2 := (heapW_plain ⟨m, h12⟩).2
    simp only at h1 h2
    rw [hx] at h1 h2
    rw [h1]
    simp only
    rw [if_neg (fun h => by rw [h2] at h; exact absurd h.1 (by decide))]
    simp
  | none =>
    by_cases hr : isRec x = true
    · rw [rec_none hr, if_pos hr]
      simp only
      by_cases h4 : 4 < x.size
      · rw [if_pos ⟨hr, h4⟩]
      · rw [if_neg (fun h => h4 h.2), rec_short hr h4]
        rfl
    · rw [if_neg hr]
      cases num9 x.data.toList with
      | some u => rfl
      | none =>
        simp only
        rw [if_neg (fun h => hr h.1)]
        rfl
theorem ho_false (x : ByteArray) : ho false x = numAt x := by
  unfold ho numAt
  by_cases hr : isRec x = true
  · rw [rec_none hr, if_pos hr]
    simp only
    by_cases h4 : 4 < x.size
    · rw [if_pos ⟨hr, h4⟩]
    · rw [if_neg (fun h => h4 h.2), rec_short hr h4]
      rfl
  · rw [if_neg hr]
    cases num9 x.data.toList with
    | some u => rfl
    | none =>
      simp only
      rw [if_neg (fun h => hr h.1)]
      rfl
theorem ho_empty (n : Bool) : ho n E0 = none := by cases n <;> decide +kernel
/- What the document's heap answers, and where it stands behind. -/
def heapV (s : ByteArray) : Except Nat Nat → Int
  | .ok p => (heapOf (tk s p)).getD 0
  | .error _ => 0
def heapT (s : ByteArray) : Except Nat Nat → Except Nat Nat
  | .ok p => match heapOf (tk s p) with
    | some _ => .ok (nx s p)
    | none => .error p
  | .error f => .error f
theorem tokS_size {w : World} {b : Nat} {s : ByteArray} {st : Except Nat Nat} (h : ST w b s st) (hs : s.size ≤ 65536) : (tokS s st).size ≤ 65536 := by
  cases st with
  | ok p =>
    have ha := h.at_
    have := tk_size s p ha.1
    have h2 := tend_size s p ha.1
    show (tk s p).size ≤ 65536
    omega
  | error f => exact (show E0.size ≤ 65536 by decide)
set_option maxRecDepth 100000 in
theorem dheap_ok {w : World} {b : Nat} {s : ByteArray} {p : Nat} {h : Int} (hg : GD w b s p) (hs : s.size ≤ 65536) (hh : heapOf (tk s p) = some h) :
    Calls Tryd.prog 41 #[.pointer (some ⟨b, 0, none⟩)] w fun en w' => en = .returned (.int .i64 h) ∧ Turn [b] w w' ∧ GD w' b s (nx s p) := by
  have hat := hg.at_
  have hts := tokS_size (st := .ok p) hg hs
  have C : Calls Tryd.prog 42 #[.pointer (some ⟨b, 0, none⟩)] w fun en w' => en = .returned (.string (tk s p)) ∧ Turn [b] w w' ∧ w'.heap[b]? = some (rdg s p false) := by
    obtain ⟨q, h1, h2, rfl⟩ := hg
    exact token_good b s q w h1 h2 hs
  have D := fun w => heapOf_any (tk s p) true w hts
  rw [ho_true, hh] at D
  have hz := tk_size s p hat.1
  have hle := tend_le s p
  have hte := tend_size s p hat.1
  have HZ : Hid (p + (tk s p).size = tend s p ∧ tend s p ≤ s.size) := ⟨by omega, hte⟩
  have hb1 : p + (tk s p).size ≤ 65536 := by omega
  clear hz hle hte hat hg hts hh
  generalize tk s p = x at *
  go_enter Tryd.func41, Tryd.ntmps41
  go_wp2_with fail
  refine C.mono ?_
  rintro en w1 ⟨rfl, t1, h1⟩
  have T1 : Hid (Turn [b] w w1) := t1
  have H1 : Hid (w1.heap[b]? = some (rdg s p false)) := h1
  have c1 := cell_of h1 1
  have z1 := free_of h1 1
  simp at c1
  clear t1 h1 C
  go_wp2_with fail
  refine (D _).mono ?_
  rintro en w2 ⟨h2, n, rfl, hn⟩
  obtain rfl := h2.symm
  obtain rfl := hn h rfl
  clear D hn
  go_wp2_with fail
  go_ret
  refine ⟨by simp, T1.out.set (p := ⟨b, 1, none⟩) (Or.inl (by simp)) _, tend s p, ?_, HZ.out.2, rfl⟩
  have := rdg_set1 H1.out (p + x.size)
  rw [← HZ.out.1]
  simpa using this
set_option maxRecDepth 100000 in
theorem dheap_no {w : World} {b : Nat} {s : ByteArray} {st : Except Nat Nat} {f : Nat} (x : ByteArray) (hx : x.size ≤ 65536) (hh : ho true x = none) (bad : Bool)
    (C : Calls Tryd.prog 42 #[.pointer (some ⟨b, 0, none⟩)] w fun en w' => en = .returned (.string x) ∧ Turn [b] w w' ∧ w'.heap[b]? = some (rdg s f bad)) :
    Calls Tryd.prog 41 #[.pointer (some ⟨b, 0, none⟩)] w fun en w' => en = .returned (.int .i64 0) ∧ Turn [b] w w' ∧ BD w' b s f := by
  have D := fun w => heapOf_any x true w hx
  rw [hh] at D
  clear hh
  go_enter Tryd.func41, Tryd.ntmps41
  go_wp2_with fail
  refine C.mono ?_
  rintro en w1 ⟨rfl, t1, h1⟩
  have T1 : Hid (Turn [b] w w1) := t1
  have H1 : Hid (w1.heap[b]? = some (rdg s f bad)) := h1
  have c2 := cell_of h1 2
  have z2 := free_of h1 2
  simp at c2
  clear t1 h1 C
  go_wp2_with fail
  refine (D _).mono ?_
  rintro en w2 ⟨h2, n, rfl, hn⟩
  obtain rfl := h2.symm
  clear D hn
  go_wp2_with fail
  go_ret
  exact ⟨by simp, T1.out.set (p := ⟨b, 2, none⟩) (Or.inl (by simp)) _, rdg_set2 H1.out true⟩
theorem dheap_any {w : World} {b : Nat} {s : ByteArray} {st : Except Nat Nat} (h : ST w b s st) (hs : s.size ≤ 65536) :
    Calls Tryd.prog 41 #[.pointer (some ⟨b, 0, none⟩)] w fun en w' => en = .returned (.int .i64 (heapV s st)) ∧ Turn [b] w w' ∧ ST w' b s (heapT s st) := by
  have hts := tokS_size h hs
  cases st with
  | ok p =>
    cases hh : heapOf (tk s p) with
    | some x =>
      have h1 : heapV s (.ok p) = x := by unfold heapV; simp only [hh]; rfl
      have h2 : heapT s (.ok p) = .ok (nx s p) := by unfold heapT; simp only [hh]
      rw [h1, h2]
      exact dheap_ok h hs hh
    | none =>
      have h1 : heapV s (.ok p) = 0 := by unfold heapV; simp only [hh]; rfl
      have h2 : heapT s (.ok p) = .error p := by unfold heapT; simp only [hh]
      rw [h1, h2]
      refine dheap_no (st := .ok p) (tk s p) hts (by rw [ho_true]; exact hh) false ?_
      obtain ⟨q, g1, g2, rfl⟩ := h
      exact token_good b s q w g1 g2 hs
  | error f =>
    refine dheap_no (st := .error f) E0 (by decide) (ho_empty true) true ?_
    refine (token_bad b s f w h).mono ?_
    rintro en w' ⟨rfl, n, rfl⟩
    exact ⟨rfl, (Turn.refl _ _).drewN n, h⟩
/- What the document's val answers behind an opening bracket, and where it stands. -/
def refT (s : ByteArray) (p : Nat) : Except Nat Nat := mustS s RP (heapT s (isS s WNULL (mustS s WREF (.ok p))))
def refV (s : ByteArray) (p : Nat) : VT := ⟨5, isB s WNULL (mustS s WREF (.ok p)), heapV s (isS s WNULL (mustS s WREF (.ok p)))⟩
set_option maxRecDepth 100000 in
set_option maxHeartbeats 1000000 in
theorem dval_ref {w : World} {b : Nat} {s : ByteArray} {p : Nat} (hg : GD w b s p) (hs : s.size ≤ 65536) (h1 : tk s p = LP) :
    Calls Tryd.prog 23 #[.pointer (some ⟨b, 0, none⟩)] w fun en w' => en = .returned (refV s (nx s p)).v ∧ Turn [b] w w' ∧ ST w' b s (refT s (nx s p)) := by
  have hb : b < w.heap.size := ST.lt (st := .ok p) hg
  have S0 : Hid (ST (w.alloc (.cells #[.int .i64 0, .bool false, .int .i64 0] 23)) b s (.ok p)) := ST.grew (st := .ok p) hg ((Grew.refl w).alloc _)
  have T0 : Hid (Turn [b] w (w.alloc (.cells #[.int .i64 0, .bool false, .int .i64 0] 23))) := (Turn.refl [b] w).alloc _
  have N0 : Hid ((w.alloc (.cells #[.int .i64 0, .bool false, .int .i64 0] 23)).heap[w.heap.size]? = some (.cells #[.int .i64 0, .bool false, .int .i64 0] 23 (0, 0))) := heap_alloc_last _ _
  have C := is_yes S0.out hs LP h1 (by decide)
  clear hg h1 S0
  obtain ⟨X, hX⟩ : ∃ X, X = refV s (nx s p) := ⟨_, rfl⟩
  obtain ⟨Y, hY⟩ : ∃ Y, Y = refT s (nx s p) := ⟨_, rfl⟩
  rw [← hX, ← hY]
  have HX : Hid (X = refV s (nx s p)) := hX
  have HY : Hid (Y = refT s (nx s p)) := hY
  clear hX hY
  unfold refV at HX
  unfold refT at HY
  go_enter Tryd.func23, Tryd.ntmps23
  go_wp2_with fail
  refine C.mono ?_
  rintro en w1 ⟨rfl, t1, g1⟩
  have T1 : Hid (Turn [b] w w1) := T0.out.trans t1
  have N1 : Hid (w1.heap[w.heap.size]? = some (.cells #[.int .i64 0, .bool false, .int .i64 0] 23 (0, 0))) := t1.other N0.out (by simp; omega)
  have D := must_any (st := .ok (nx s p)) g1 hs WREF
  clear C t1 g1 T0 N0
  go_wp2_with fail
  refine D.mono ?_
  rintro en w2 ⟨rfl, t2, s2⟩
  have T2 : Hid (Turn [b] w w2) := T1.out.trans t2
  have N2 : Hid (w2.heap[w.heap.size]? = some (.cells #[.int .i64 0, .bool false, .int .i64 0] 23 (0, 0))) := t2.other N1.out (by simp; omega)
  have F := is_any s2 hs WNULL
  clear D t2 s2 T1 N1
  generalize mustS s WREF (.ok (nx s p)) = st2 at *
  go_wp2_with fail
  refine F.mono ?_
  rintro en w3 ⟨rfl, t3, s3⟩
  have T3 : Hid (Turn [b] w w3) := T2.out.trans t3
  have N3 : Hid (w3.heap[w.heap.size]? = some (.cells #[.int .i64 0, .bool false, .int .i64 0] 23 (0, 0))) := t3.other N2.out (by simp; omega)
  have S3 : Hid (ST w3 b s (isS s WNULL st2)) := s3
  clear F t3 s3 T2 N2
  generalize isS s WNULL st2 = st3 at *
  generalize isB s WNULL st2 = nul at *
  have hle3 := T3.out.size
  have hlt3 : w.heap.size < w3.heap.size := lt_of_obj N3.out
  go_wp2_with fail
  generalize hw4 : w3.alloc (.cells #[.int .i64 5, .bool nul, .int .i64 0] 23) = w4
  have g4 : Grew w3 w4 := by rw [← hw4]; exact (Grew.refl w3).alloc _
  have T4 : Hid (Turn [b] w w4) := T3.out.trans (g4.turn _)
  have N4 : Hid (w4.heap[w.heap.size]? = some (.cells #[.int .i64 0, .bool false, .int .i64 0] 23 (0, 0))) := (g4.turn []).other N3.out (by simp)
  have M4 : Hid (w4.heap[w3.heap.size]? = some (.cells #[.int .i64 5, .bool nul, .int .i64 0] 23 (0, 0))) := by rw [← hw4]; exact heap_alloc_last _ _
  have D := dheap_any (S3.out.grew g4) hs
  clear hw4 g4 T3 N3 S3
  refine D.mono ?_
  rintro en w5 ⟨rfl, t5, s5⟩
  have T5 : Hid (Turn [b] w w5) := T4.out.trans t5
  have N5 : Hid (w5.heap[w.heap.size]? = some (.cells #[.int .i64 0, .bool false, .int .i64 0] 23 (0, 0))) := t5.other N4.out (by simp; omega)
  have m5 := t5.other M4.out (by simp; omega)
  have M5 : Hid (w5.heap[w3.heap.size]? = some (.cells #[.int .i64 5, .bool nul, .int .i64 0] 23 (0, 0))) := m5
  have S5 : Hid (ST w5 b s (heapT s st3)) := s5
  have c2 := cell_of m5 2
  have z2 := free_of m5 2
  simp at c2
  clear D t5 s5 m5 T4 N4 M4
  generalize heapT s st3 = st5 at *
  generalize heapV s st3 = hv at *
  go_wp2_with fail
  generalize hw6 : w5.setCell { block := w3.heap.size, off := 2 } (Value.int .i64 hv) = w6
  have T6 : Hid (Turn [b] w w6) := by rw [← hw6]; exact T5.out.set (p := ⟨w3.heap.size, 2, none⟩) (Or.inr hle3) _
  have S6 : Hid (ST w6 b s st5) := by rw [← hw6]; exact S5.out.set (q := ⟨w3.heap.size, 2, none⟩) (by simp; omega) _
  have M6 : Hid (w6.heap[w3.heap.size]? = some (.cells #[.int .i64 5, .bool nul, .int .i64 hv] 23 (0, 0))) := by rw [← hw6, heap_set M5.out]; rfl
  have N6 : Hid (w6.heap[w.heap.size]? = some (.cells #[.int .i64 0, .bool false, .int .i64 0] 23 (0, 0))) := by rw [← hw6]; exact heap_other N5.out (by simp; omega) _
  clear hw6 c2 z2 T5 N5 M5 S5
  have D := must_any S6.out hs RP
  refine D.mono ?_
  rintro en w7 ⟨rfl, t7, s7⟩
  have T7 : Hid (Turn [b] w w7) := T6.out.trans t7
  have n7 := t7.other N6.out (by simp; omega)
  have m7 := t7.other M6.out (by simp; omega)
  have S7 : Hid (ST w7 b s (mustS s RP st5)) := s7
  have m0 := cell_of m7 0
  have m1 := cell_of m7 1
  have m2 := cell_of m7 2
  have c0 := cell_of n7 0
  have c1 := cell_of n7 1
  have c2 := cell_of n7 2
  have z0 := free_of n7 0
  have z1 := free_of n7 1
  have z2 := free_of n7 2
  simp at m0 m1 m2 c0 c1 c2
  clear D t7 s7 n7 m7
  go_wp2_with fail
  refine bodyPost_ret (v := vt 5 nul hv) (by simp [results, Tryd.results23, go_sem, vt, c0, c1, c2]) rfl ?_
  rw [HX.out, HY.out]
  exact ⟨rfl, T7.out.set3 _ (Nat.le_refl _) _ _ _, ((S7.out.set (q := ⟨w.heap.size, 0, none⟩) (by simp; omega) _).set (q := ⟨w.heap.size, 1, none⟩) (by simp; omega) _).set (q := ⟨w.heap.size, 2, none⟩) (by simp; omega) _⟩
end Go.Proofs.YtmcljnohdknpoaaDoor
