/-
  The document's reading: the walk of extern; no statement is proved here.
-/
import Derived.Test.YtemaeigfhmnapaaGreatDoorDNam
import Derived.Test.YtemaeigfhmnapaaGreatDoorCurE
namespace Go.Proofs.YtemaeigfhmnapaaGreatDoor
open Go.RowKit
set_option linter.unusedVariables false
set_option linter.unusedSimpArgs false
set_option linter.constructorNameAsVariable false

theorem FinD.row {b : Nat} {v : Value} {l : List Int} {w w' : World} {st0 st : Except (Nat × Nat) Nat} (h : FinD b v l w w' st) (h0 : DR w b v l st0) {g : Nat} (hg : w.heap.size ≤ g) (cs : Array Value) : FinD b v l w (w'.setRow g cs) st :=
  ⟨h.1.row hg cs, h0.of (h.1.row hg cs) (h.2.st.same (setRow_other _ _ _ _ (by have := h0.lt; omega)))⟩
set_option maxRecDepth 100000 in
set_option maxHeartbeats 1000000 in
theorem dext_0 {w : World} {b : Nat} {v : Value} {l : List Int} {p q : Nat} (h : DR w b v l (.ok p)) (hs : belowR ((4 : Nat) + 1 : Int) l p = .ok (0, q)) :
    Calls Tryz.prog 35 #[.pointer (some ⟨b, 0, none⟩)] w (DAns XT.v b v l w (extK 0 l q)) := by
  have H : Hid (DR w b v l (.ok p)) := h
  have hb : b < w.heap.size := h.lt
  have hl := h.len
  clear h
  cases hx : tyU l q with
  | error y =>
    obtain ⟨f, e⟩ := y
    rw [show extK 0 l q = .error (f, e) by unfold extK; rw [hx]; rfl]
    have S0 : Hid (DR (w.alloc (.cells #[.int .i64 0, .int .i64 0, .int .i64 0, .bool false, .int .i64 0, .bool false, .int .u64 0, .int .u64 0, .bool false, .bool false, .int .u64 0, .int .u64 0, .bool false, .int .i64 0, .bool false, .int .i64 0, .bool false] 50)) b v l (.ok p)) := H.out.grew ((Grew.refl w).alloc _)
    have T0 : Hid (Turn [b] w (w.alloc (.cells #[.int .i64 0, .int .i64 0, .int .i64 0, .bool false, .int .i64 0, .bool false, .int .u64 0, .int .u64 0, .bool false, .bool false, .int .u64 0, .int .u64 0, .bool false, .int .i64 0, .bool false, .int .i64 0, .bool false] 50))) := (Turn.refl [b] w).alloc _
    have N0 : Hid ((w.alloc (.cells #[.int .i64 0, .int .i64 0, .int .i64 0, .bool false, .int .i64 0, .bool false, .int .u64 0, .int .u64 0, .bool false, .bool false, .int .u64 0, .int .u64 0, .bool false, .int .i64 0, .bool false, .int .i64 0, .bool false] 50)).heap[w.heap.size]? = some (.cells #[.int .i64 0, .int .i64 0, .int .i64 0, .bool false, .int .i64 0, .bool false, .int .u64 0, .int .u64 0, .bool false, .bool false, .int .u64 0, .int .u64 0, .bool false, .int .i64 0, .bool false, .int .i64 0, .bool false] 50 (0, 0))) := heap_alloc_last _ _
    go_enter Tryz.func35, Tryz.ntmps35
    go_wp2_with fail
    refine (Calls.dok (dsmall_any S0.out 4 (by decide)) hs).mono ?_
    rintro en w1 ⟨rfl, t1, s1⟩
    have T1 : Hid (Turn [b] w w1) := T0.out.trans t1
    have S1 : Hid (DR w1 b v l (.ok q)) := s1
    have N1 : Hid (w1.heap[w.heap.size]? = some (.cells #[.int .i64 0, .int .i64 0, .int .i64 0, .bool false, .int .i64 0, .bool false, .int .u64 0, .int .u64 0, .bool false, .bool false, .int .u64 0, .int .u64 0, .bool false, .int .i64 0, .bool false, .int .i64 0, .bool false] 50 (0, 0))) := t1.other N0.out (by simp; try omega)
    clear t1 s1 T0 S0 N0
    clear hs
    have c3_1 := cell_of S1.out.st.1 3
    simp at c3_1
    have hs1 : b < w1.heap.size := S1.out.lt
    have hs2 : ¬ b = w1.heap.size := by omega
    go_wp2_with fail
    generalize hw2 : w1.alloc (.cells #[.int .i64 0, .int .i64 0, .int .i64 0, .bool false, .int .i64 0, .bool false, .int .u64 0, .int .u64 0, .bool false, .bool false, .int .u64 0, .int .u64 0, .bool false, .int .i64 0, .bool false, .int .i64 0, .bool false] 50) = w2
    have g2 : Grew w1 w2 := by rw [← hw2]; exact (Grew.refl _).alloc _
    have T2 : Hid (Turn [b] w w2) := T1.out.trans (g2.turn _)
    have S2 : Hid (DR w2 b v l (.ok q)) := S1.out.grew g2
    have N2 : Hid (w2.heap[w.heap.size]? = some (.cells #[.int .i64 0, .int .i64 0, .int .i64 0, .bool false, .int .i64 0, .bool false, .int .u64 0, .int .u64 0, .bool false, .bool false, .int .u64 0, .int .u64 0, .bool false, .int .i64 0, .bool false, .int .i64 0, .bool false] 50 (0, 0))) := (g2.turn []).other N1.out (by simp)
    have M2 : Hid (w2.heap[w1.heap.size]? = some (.cells #[.int .i64 0, .int .i64 0, .int .i64 0, .bool false, .int .i64 0, .bool false, .int .u64 0, .int .u64 0, .bool false, .bool false, .int .u64 0, .int .u64 0, .bool false, .int .i64 0, .bool false, .int .i64 0, .bool false] 50 (0, 0))) := by rw [← hw2]; exact heap_alloc_last _ _
    have hMs : b < w1.heap.size := S1.out.lt
    have hM1 : ¬ b = w1.heap.size := by omega
    have hMb : w.heap.size ≤ w1.heap.size := T1.out.size
    have hMN : w.heap.size < w1.heap.size := lt_of_obj N1.out
    have h01 : ¬ w.heap.size = w1.heap.size := by omega
    have h10 : ¬ w1.heap.size = w.heap.size := by omega
    clear hw2 g2 T1 S1 N1
    generalize hMM : w1.heap.size = MM at *
    clear hMM
    refine (Calls.der (dtypeAt_any S2.out) hx).mono ?_
    rintro en w3 ⟨⟨y, rfl⟩, t3, s3⟩
    have T3 : Hid (Turn [b] w w3) := T2.out.trans t3
    have S3 : Hid (DR w3 b v l (.error (f, e))) := s3
    have N3 : Hid (w3.heap[w.heap.size]? = some (.cells #[.int .i64 0, .int .i64 0, .int .i64 0, .bool false, .int .i64 0, .bool false, .int .u64 0, .int .u64 0, .bool false, .bool false, .int .u64 0, .int .u64 0, .bool false, .int .i64 0, .bool false, .int .i64 0, .bool false] 50 (0, 0))) := t3.other N2.out (by simp; try omega)
    have M3 : Hid (w3.heap[MM]? = some (.cells #[.int .i64 0, .int .i64 0, .int .i64 0, .bool false, .int .i64 0, .bool false, .int .u64 0, .int .u64 0, .bool false, .bool false, .int .u64 0, .int .u64 0, .bool false, .int .i64 0, .bool false, .int .i64 0, .bool false] 50 (0, 0))) := t3.other M2.out (by simp; try omega)
    clear t3 s3 T2 S2 N2 M2
    clear hx
    have x1_3 := free_of M3.out 1
    have m1_3 := cell_of M3.out 1
    simp at m1_3
    go_wp2_with (first
      | with_reducible refine stop_load 50 rfl ?_
      | fail)
    generalize hw4 : (w3.setCell ⟨MM, 1, none⟩ (.int .i64 y)) = w4
    have f4 : FinD b v l w w4 (.error (f, e)) := by rw [← hw4]; exact ((FinD.mk_ T3.out S3.out).set H.out hMb)
    have T4 : Hid (Turn [b] w w4) := f4.1
    have S4 : Hid (DR w4 b v l (.error (f, e))) := f4.2
    have N4 : Hid (w4.heap[w.heap.size]? = some (.cells #[.int .i64 0, .int .i64 0, .int .i64 0, .bool false, .int .i64 0, .bool false, .int .u64 0, .int .u64 0, .bool false, .bool false, .int .u64 0, .int .u64 0, .bool false, .int .i64 0, .bool false, .int .i64 0, .bool false] 50 (0, 0))) := by rw [← hw4]; exact (heap_other N3.out (by simpa using h01) _)
    have M4 : Hid (w4.heap[MM]? = some (.cells #[.int .i64 0, .int .i64 y, .int .i64 0, .bool false, .int .i64 0, .bool false, .int .u64 0, .int .u64 0, .bool false, .bool false, .int .u64 0, .int .u64 0, .bool false, .int .i64 0, .bool false, .int .i64 0, .bool false] 50 (0, 0))) := by rw [← hw4]; exact (heap_set M3.out 1 _).trans rfl
    clear hw4 f4 x1_3 m1_3 T3 S3 M3 N3
    unfold Stop
    refine wpList_load_row rfl 50 _ rfl MM rfl 50 #[.int .i64 0, .int .i64 y, .int .i64 0, .bool false, .int .i64 0, .bool false, .int .u64 0, .int .u64 0, .bool false, .bool false, .int .u64 0, .int .u64 0, .bool false, .int .i64 0, .bool false, .int .i64 0, .bool false] (0, 0) _ M4.out Tryz.underlying50 rfl (by kernel_rfl) ?_
    go_wp2_with (first
      | with_reducible refine stop_store 50 rfl ?_
      | fail)
    unfold Stop
    refine wpList_store_row rfl 50 _ _ rfl w.heap.size #[.int .i64 0, .int .i64 y, .int .i64 0, .bool false, .int .i64 0, .bool false, .int .u64 0, .int .u64 0, .bool false, .bool false, .int .u64 0, .int .u64 0, .bool false, .int .i64 0, .bool false, .int .i64 0, .bool false] rfl rfl 50 #[.int .i64 0, .int .i64 0, .int .i64 0, .bool false, .int .i64 0, .bool false, .int .u64 0, .int .u64 0, .bool false, .bool false, .int .u64 0, .int .u64 0, .bool false, .int .i64 0, .bool false, .int .i64 0, .bool false] N4.out (by kernel_rfl) rfl (by first | rfl | decide | simp [Value.oneCell']) ?_
    go_wp2_with fail
    refine bodyPost_ret (v := .agg #[.int .i64 0, .int .i64 y, .int .i64 0, .bool false, .int .i64 0, .bool false, .int .u64 0, .int .u64 0, .bool false, .bool false, .int .u64 0, .int .u64 0, .bool false, .int .i64 0, .bool false, .int .i64 0, .bool false]) ?_ ?_ ?_
    · exact results_cell_row Tryz.results35 _ _ w.heap.size 50 _ (0, 0) _ rfl (heap_setRow N4.out) Tryz.underlying50 rfl (by kernel_rfl)
    · rfl
    exact ⟨⟨⟨0, y, T0_, L0, G0_⟩, rfl⟩, (FinD.mk_ T4.out S4.out).row H.out (Nat.le_refl _) _⟩
  | ok y =>
    obtain ⟨t, r⟩ := y
    rw [show extK 0 l q = .ok (⟨0, t, T0_, L0, G0_⟩, r) by unfold extK; rw [hx]; rfl]
    have S0 : Hid (DR (w.alloc (.cells #[.int .i64 0, .int .i64 0, .int .i64 0, .bool false, .int .i64 0, .bool false, .int .u64 0, .int .u64 0, .bool false, .bool false, .int .u64 0, .int .u64 0, .bool false, .int .i64 0, .bool false, .int .i64 0, .bool false] 50)) b v l (.ok p)) := H.out.grew ((Grew.refl w).alloc _)
    have T0 : Hid (Turn [b] w (w.alloc (.cells #[.int .i64 0, .int .i64 0, .int .i64 0, .bool false, .int .i64 0, .bool false, .int .u64 0, .int .u64 0, .bool false, .bool false, .int .u64 0, .int .u64 0, .bool false, .int .i64 0, .bool false, .int .i64 0, .bool false] 50))) := (Turn.refl [b] w).alloc _
    have N0 : Hid ((w.alloc (.cells #[.int .i64 0, .int .i64 0, .int .i64 0, .bool false, .int .i64 0, .bool false, .int .u64 0, .int .u64 0, .bool false, .bool false, .int .u64 0, .int .u64 0, .bool false, .int .i64 0, .bool false, .int .i64 0, .bool false] 50)).heap[w.heap.size]? = some (.cells #[.int .i64 0, .int .i64 0, .int .i64 0, .bool false, .int .i64 0, .bool false, .int .u64 0, .int .u64 0, .bool false, .bool false, .int .u64 0, .int .u64 0, .bool false, .int .i64 0, .bool false, .int .i64 0, .bool false] 50 (0, 0))) := heap_alloc_last _ _
    go_enter Tryz.func35, Tryz.ntmps35
    go_wp2_with fail
    refine (Calls.dok (dsmall_any S0.out 4 (by decide)) hs).mono ?_
    rintro en w1 ⟨rfl, t1, s1⟩
    have T1 : Hid (Turn [b] w w1) := T0.out.trans t1
    have S1 : Hid (DR w1 b v l (.ok q)) := s1
    have N1 : Hid (w1.heap[w.heap.size]? = some (.cells #[.int .i64 0, .int .i64 0, .int .i64 0, .bool false, .int .i64 0, .bool false, .int .u64 0, .int .u64 0, .bool false, .bool false, .int .u64 0, .int .u64 0, .bool false, .int .i64 0, .bool false, .int .i64 0, .bool false] 50 (0, 0))) := t1.other N0.out (by simp; try omega)
    clear t1 s1 T0 S0 N0
    clear hs
    have c3_1 := cell_of S1.out.st.1 3
    simp at c3_1
    have hs1 : b < w1.heap.size := S1.out.lt
    have hs2 : ¬ b = w1.heap.size := by omega
    go_wp2_with fail
    generalize hw2 : w1.alloc (.cells #[.int .i64 0, .int .i64 0, .int .i64 0, .bool false, .int .i64 0, .bool false, .int .u64 0, .int .u64 0, .bool false, .bool false, .int .u64 0, .int .u64 0, .bool false, .int .i64 0, .bool false, .int .i64 0, .bool false] 50) = w2
    have g2 : Grew w1 w2 := by rw [← hw2]; exact (Grew.refl _).alloc _
    have T2 : Hid (Turn [b] w w2) := T1.out.trans (g2.turn _)
    have S2 : Hid (DR w2 b v l (.ok q)) := S1.out.grew g2
    have N2 : Hid (w2.heap[w.heap.size]? = some (.cells #[.int .i64 0, .int .i64 0, .int .i64 0, .bool false, .int .i64 0, .bool false, .int .u64 0, .int .u64 0, .bool false, .bool false, .int .u64 0, .int .u64 0, .bool false, .int .i64 0, .bool false, .int .i64 0, .bool false] 50 (0, 0))) := (g2.turn []).other N1.out (by simp)
    have M2 : Hid (w2.heap[w1.heap.size]? = some (.cells #[.int .i64 0, .int .i64 0, .int .i64 0, .bool false, .int .i64 0, .bool false, .int .u64 0, .int .u64 0, .bool false, .bool false, .int .u64 0, .int .u64 0, .bool false, .int .i64 0, .bool false, .int .i64 0, .bool false] 50 (0, 0))) := by rw [← hw2]; exact heap_alloc_last _ _
    have hMs : b < w1.heap.size := S1.out.lt
    have hM1 : ¬ b = w1.heap.size := by omega
    have hMb : w.heap.size ≤ w1.heap.size := T1.out.size
    have hMN : w.heap.size < w1.heap.size := lt_of_obj N1.out
    have h01 : ¬ w.heap.size = w1.heap.size := by omega
    have h10 : ¬ w1.heap.size = w.heap.size := by omega
    clear hw2 g2 T1 S1 N1
    generalize hMM : w1.heap.size = MM at *
    clear hMM
    refine (Calls.dok (dtypeAt_any S2.out) hx).mono ?_
    rintro en w3 ⟨rfl, t3, s3⟩
    have T3 : Hid (Turn [b] w w3) := T2.out.trans t3
    have S3 : Hid (DR w3 b v l (.ok r)) := s3
    have N3 : Hid (w3.heap[w.heap.size]? = some (.cells #[.int .i64 0, .int .i64 0, .int .i64 0, .bool false, .int .i64 0, .bool false, .int .u64 0, .int .u64 0, .bool false, .bool false, .int .u64 0, .int .u64 0, .bool false, .int .i64 0, .bool false, .int .i64 0, .bool false] 50 (0, 0))) := t3.other N2.out (by simp; try omega)
    have M3 : Hid (w3.heap[MM]? = some (.cells #[.int .i64 0, .int .i64 0, .int .i64 0, .bool false, .int .i64 0, .bool false, .int .u64 0, .int .u64 0, .bool false, .bool false, .int .u64 0, .int .u64 0, .bool false, .int .i64 0, .bool false, .int .i64 0, .bool false] 50 (0, 0))) := t3.other M2.out (by simp; try omega)
    clear t3 s3 T2 S2 N2 M2
    clear hx
    have x1_3 := free_of M3.out 1
    have m1_3 := cell_of M3.out 1
    simp at m1_3
    go_wp2_with (first
      | with_reducible refine stop_load 50 rfl ?_
      | fail)
    generalize hw4 : (w3.setCell ⟨MM, 1, none⟩ (.int .i64 t)) = w4
    have f4 : FinD b v l w w4 (.ok r) := by rw [← hw4]; exact ((FinD.mk_ T3.out S3.out).set H.out hMb)
    have T4 : Hid (Turn [b] w w4) := f4.1
    have S4 : Hid (DR w4 b v l (.ok r)) := f4.2
    have N4 : Hid (w4.heap[w.heap.size]? = some (.cells #[.int .i64 0, .int .i64 0, .int .i64 0, .bool false, .int .i64 0, .bool false, .int .u64 0, .int .u64 0, .bool false, .bool false, .int .u64 0, .int .u64 0, .bool false, .int .i64 0, .bool false, .int .i64 0, .bool false] 50 (0, 0))) := by rw [← hw4]; exact (heap_other N3.out (by simpa using h01) _)
    have M4 : Hid (w4.heap[MM]? = some (.cells #[.int .i64 0, .int .i64 t, .int .i64 0, .bool false, .int .i64 0, .bool false, .int .u64 0, .int .u64 0, .bool false, .bool false, .int .u64 0, .int .u64 0, .bool false, .int .i64 0, .bool false, .int .i64 0, .bool false] 50 (0, 0))) := by rw [← hw4]; exact (heap_set M3.out 1 _).trans rfl
    clear hw4 f4 x1_3 m1_3 T3 S3 M3 N3
    unfold Stop
    refine wpList_load_row rfl 50 _ rfl MM rfl 50 #[.int .i64 0, .int .i64 t, .int .i64 0, .bool false, .int .i64 0, .bool false, .int .u64 0, .int .u64 0, .bool false, .bool false, .int .u64 0, .int .u64 0, .bool false, .int .i64 0, .bool false, .int .i64 0, .bool false] (0, 0) _ M4.out Tryz.underlying50 rfl (by kernel_rfl) ?_
    go_wp2_with (first
      | with_reducible refine stop_store 50 rfl ?_
      | fail)
    unfold Stop
    refine wpList_store_row rfl 50 _ _ rfl w.heap.size #[.int .i64 0, .int .i64 t, .int .i64 0, .bool false, .int .i64 0, .bool false, .int .u64 0, .int .u64 0, .bool false, .bool false, .int .u64 0, .int .u64 0, .bool false, .int .i64 0, .bool false, .int .i64 0, .bool false] rfl rfl 50 #[.int .i64 0, .int .i64 0, .int .i64 0, .bool false, .int .i64 0, .bool false, .int .u64 0, .int .u64 0, .bool false, .bool false, .int .u64 0, .int .u64 0, .bool false, .int .i64 0, .bool false, .int .i64 0, .bool false] N4.out (by kernel_rfl) rfl (by first | rfl | decide | simp [Value.oneCell']) ?_
    go_wp2_with fail
    refine bodyPost_ret (v := .agg #[.int .i64 0, .int .i64 t, .int .i64 0, .bool false, .int .i64 0, .bool false, .int .u64 0, .int .u64 0, .bool false, .bool false, .int .u64 0, .int .u64 0, .bool false, .int .i64 0, .bool false, .int .i64 0, .bool false]) ?_ ?_ ?_
    · exact results_cell_row Tryz.results35 _ _ w.heap.size 50 _ (0, 0) _ rfl (heap_setRow N4.out) Tryz.underlying50 rfl (by kernel_rfl)
    · rfl
    exact ⟨rfl, (FinD.mk_ T4.out S4.out).row H.out (Nat.le_refl _) _⟩
set_option maxRecDepth 100000 in
set_option maxHeartbeats 1000000 in
theorem dext_1 {w : World} {b : Nat} {v : Value} {l : List Int} {p q : Nat} (h : DR w b v l (.ok p)) (hs : belowR ((4 : Nat) + 1 : Int) l p = .ok (1, q)) :
    Calls Tryz.prog 35 #[.pointer (some ⟨b, 0, none⟩)] w (DAns XT.v b v l w (extK 1 l q)) := by
  have H : Hid (DR w b v l (.ok p)) := h
  have hb : b < w.heap.size := h.lt
  have hl := h.len
  clear h
  cases hx : tabR l q with
  | error y =>
    obtain ⟨f, e⟩ := y
    rw [show extK 1 l q = .error (f, e) by unfold extK; rw [hx]; rfl]
    have S0 : Hid (DR (w.alloc (.cells #[.int .i64 0, .int .i64 0, .int .i64 0, .bool false, .int .i64 0, .bool false, .int .u64 0, .int .u64 0, .bool false, .bool false, .int .u64 0, .int .u64 0, .bool false, .int .i64 0, .bool false, .int .i64 0, .bool false] 50)) b v l (.ok p)) := H.out.grew ((Grew.refl w).alloc _)
    have T0 : Hid (Turn [b] w (w.alloc (.cells #[.int .i64 0, .int .i64 0, .int .i64 0, .bool false, .int .i64 0, .bool false, .int .u64 0, .int .u64 0, .bool false, .bool false, .int .u64 0, .int .u64 0, .bool false, .int .i64 0, .bool false, .int .i64 0, .bool false] 50))) := (Turn.refl [b] w).alloc _
    have N0 : Hid ((w.alloc (.cells #[.int .i64 0, .int .i64 0, .int .i64 0, .bool false, .int .i64 0, .bool false, .int .u64 0, .int .u64 0, .bool false, .bool false, .int .u64 0, .int .u64 0, .bool false, .int .i64 0, .bool false, .int .i64 0, .bool false] 50)).heap[w.heap.size]? = some (.cells #[.int .i64 0, .int .i64 0, .int .i64 0, .bool false, .int .i64 0, .bool false, .int .u64 0, .int .u64 0, .bool false, .bool false, .int .u64 0, .int .u64 0, .bool false, .int .i64 0, .bool false, .int .i64 0, .bool false] 50 (0, 0))) := heap_alloc_last _ _
    go_enter Tryz.func35, Tryz.ntmps35
    go_wp2_with fail
    refine (Calls.dok (dsmall_any S0.out 4 (by decide)) hs).mono ?_
    rintro en w1 ⟨rfl, t1, s1⟩
    have T1 : Hid (Turn [b] w w1) := T0.out.trans t1
    have S1 : Hid (DR w1 b v l (.ok q)) := s1
    have N1 : Hid (w1.heap[w.heap.size]? = some (.cells #[.int .i64 0, .int .i64 0, .int .i64 0, .bool false, .int .i64 0, .bool false, .int .u64 0, .int .u64 0, .bool false, .bool false, .int .u64 0, .int .u64 0, .bool false, .int .i64 0, .bool false, .int .i64 0, .bool false] 50 (0, 0))) := t1.other N0.out (by simp; try omega)
    clear t1 s1 T0 S0 N0
    clear hs
    have c3_1 := cell_of S1.out.st.1 3
    simp at c3_1
    have hs1 : b < w1.heap.size := S1.out.lt
    have hs2 : ¬ b = w1.heap.size := by omega
    go_wp2_with fail
    generalize hw2 : w1.alloc (.cells #[.int .i64 1, .int .i64 0, .int .i64 0, .bool false, .int .i64 0, .bool false, .int .u64 0, .int .u64 0, .bool false, .bool false, .int .u64 0, .int .u64 0, .bool false, .int .i64 0, .bool false, .int .i64 0, .bool false] 50) = w2
    have g2 : Grew w1 w2 := by rw [← hw2]; exact (Grew.refl _).alloc _
    have T2 : Hid (Turn [b] w w2) := T1.out.trans (g2.turn _)
    have S2 : Hid (DR w2 b v l (.ok q)) := S1.out.grew g2
    have N2 : Hid (w2.heap[w.heap.size]? = some (.cells #[.int .i64 0, .int .i64 0, .int .i64 0, .bool false, .int .i64 0, .bool false, .int .u64 0, .int .u64 0, .bool false, .bool false, .int .u64 0, .int .u64 0, .bool false, .int .i64 0, .bool false, .int .i64 0, .bool false] 50 (0, 0))) := (g2.turn []).other N1.out (by simp)
    have M2 : Hid (w2.heap[w1.heap.size]? = some (.cells #[.int .i64 1, .int .i64 0, .int .i64 0, .bool false, .int .i64 0, .bool false, .int .u64 0, .int .u64 0, .bool false, .bool false, .int .u64 0, .int .u64 0, .bool false, .int .i64 0, .bool false, .int .i64 0, .bool false] 50 (0, 0))) := by rw [← hw2]; exact heap_alloc_last _ _
    have hMs : b < w1.heap.size := S1.out.lt
    have hM1 : ¬ b = w1.heap.size := by omega
    have hMb : w.heap.size ≤ w1.heap.size := T1.out.size
    have hMN : w.heap.size < w1.heap.size := lt_of_obj N1.out
    have h01 : ¬ w.heap.size = w1.heap.size := by omega
    have h10 : ¬ w1.heap.size = w.heap.size := by omega
    clear hw2 g2 T1 S1 N1
    generalize hMM : w1.heap.size = MM at *
    clear hMM
    refine (Calls.der (dtable_any S2.out) hx).mono ?_
    rintro en w3 ⟨⟨y, rfl⟩, t3, s3⟩
    have T3 : Hid (Turn [b] w w3) := T2.out.trans t3
    have S3 : Hid (DR w3 b v l (.error (f, e))) := s3
    have N3 : Hid (w3.heap[w.heap.size]? = some (.cells #[.int .i64 0, .int .i64 0, .int .i64 0, .bool false, .int .i64 0, .bool false, .int .u64 0, .int .u64 0, .bool false, .bool false, .int .u64 0, .int .u64 0, .bool false, .int .i64 0, .bool false, .int .i64 0, .bool false] 50 (0, 0))) := t3.other N2.out (by simp; try omega)
    have M3 : Hid (w3.heap[MM]? = some (.cells #[.int .i64 1, .int .i64 0, .int .i64 0, .bool false, .int .i64 0, .bool false, .int .u64 0, .int .u64 0, .bool false, .bool false, .int .u64 0, .int .u64 0, .bool false, .int .i64 0, .bool false, .int .i64 0, .bool false] 50 (0, 0))) := t3.other M2.out (by simp; try omega)
    clear t3 s3 T2 S2 N2 M2
    obtain ⟨⟨tn, tz, th⟩, ⟨tw, tp, tq, tm⟩⟩ := y
    clear hx
    unfold TT.v
    have x2_3 := free_of M3.out 2
    have x3_3 := free_of M3.out 3
    have x4_3 := free_of M3.out 4
    have x5_3 := free_of M3.out 5
    have x6_3 := free_of M3.out 6
    have x7_3 := free_of M3.out 7
    have x8_3 := free_of M3.out 8
    have m2_3 := cell_of M3.out 2
    have m3_3 := cell_of M3.out 3
    have m4_3 := cell_of M3.out 4
    have m5_3 := cell_of M3.out 5
    have m6_3 := cell_of M3.out 6
    have m7_3 := cell_of M3.out 7
    have m8_3 := cell_of M3.out 8
    simp at m2_3 m3_3 m4_3 m5_3 m6_3 m7_3 m8_3
    go_wp2_with (first
      | with_reducible refine stop_load 50 rfl ?_
      | fail)
    generalize hw4 : (((((((w3.setCell ⟨MM, 2, none⟩ (.int .i64 tn)).setCell ⟨MM, 3, none⟩ (.bool tz)).setCell ⟨MM, 4, none⟩ (.int .i64 th)).setCell ⟨MM, 5, none⟩ (.bool tw)).setCell ⟨MM, 6, none⟩ (.int .u64 tp)).setCell ⟨MM, 7, none⟩ (.int .u64 tq)).setCell ⟨MM, 8, none⟩ (.bool tm)) = w4
    have f4 : FinD b v l w w4 (.error (f, e)) := by rw [← hw4]; exact ((((((((FinD.mk_ T3.out S3.out).set H.out hMb).set H.out hMb).set H.out hMb).set H.out hMb).set H.out hMb).set H.out hMb).set H.out hMb)
    have T4 : Hid (Turn [b] w w4) := f4.1
    have S4 : Hid (DR w4 b v l (.error (f, e))) := f4.2
    have N4 : Hid (w4.heap[w.heap.size]? = some (.cells #[.int .i64 0, .int .i64 0, .int .i64 0, .bool false, .int .i64 0, .bool false, .int .u64 0, .int .u64 0, .bool false, .bool false, .int .u64 0, .int .u64 0, .bool false, .int .i64 0, .bool false, .int .i64 0, .bool false] 50 (0, 0))) := by rw [← hw4]; exact (heap_other (heap_other (heap_other (heap_other (heap_other (heap_other (heap_other N3.out (by simpa using h01) _) (by simpa using h01) _) (by simpa using h01) _) (by simpa using h01) _) (by simpa using h01) _) (by simpa using h01) _) (by simpa using h01) _)
    have M4 : Hid (w4.heap[MM]? = some (.cells #[.int .i64 1, .int .i64 0, .int .i64 tn, .bool tz, .int .i64 th, .bool tw, .int .u64 tp, .int .u64 tq, .bool tm, .bool false, .int .u64 0, .int .u64 0, .bool false, .int .i64 0, .bool false, .int .i64 0, .bool false] 50 (0, 0))) := by rw [← hw4]; exact (heap_set (heap_set (heap_set (heap_set (heap_set (heap_set (heap_set M3.out 2 _) 3 _) 4 _) 5 _) 6 _) 7 _) 8 _).trans rfl
    clear hw4 f4 x2_3 m2_3 x3_3 m3_3 x4_3 m4_3 x5_3 m5_3 x6_3 m6_3 x7_3 m7_3 x8_3 m8_3 T3 S3 M3 N3
    unfold Stop
    refine wpList_load_row rfl 50 _ rfl MM rfl 50 #[.int .i64 1, .int .i64 0, .int .i64 tn, .bool tz, .int .i64 th, .bool tw, .int .u64 tp, .int .u64 tq, .bool tm, .bool false, .int .u64 0, .int .u64 0, .bool false, .int .i64 0, .bool false, .int .i64 0, .bool false] (0, 0) _ M4.out Tryz.underlying50 rfl (by kernel_rfl) ?_
    go_wp2_with (first
      | with_reducible refine stop_store 50 rfl ?_
      | fail)
    unfold Stop
    refine wpList_store_row rfl 50 _ _ rfl w.heap.size #[.int .i64 1, .int .i64 0, .int .i64 tn, .bool tz, .int .i64 th, .bool tw, .int .u64 tp, .int .u64 tq, .bool tm, .bool false, .int .u64 0, .int .u64 0, .bool false, .int .i64 0, .bool false, .int .i64 0, .bool false] rfl rfl 50 #[.int .i64 0, .int .i64 0, .int .i64 0, .bool false, .int .i64 0, .bool false, .int .u64 0, .int .u64 0, .bool false, .bool false, .int .u64 0, .int .u64 0, .bool false, .int .i64 0, .bool false, .int .i64 0, .bool false] N4.out (by kernel_rfl) rfl (by first | rfl | decide | simp [Value.oneCell']) ?_
    go_wp2_with fail
    refine bodyPost_ret (v := .agg #[.int .i64 1, .int .i64 0, .int .i64 tn, .bool tz, .int .i64 th, .bool tw, .int .u64 tp, .int .u64 tq, .bool tm, .bool false, .int .u64 0, .int .u64 0, .bool false, .int .i64 0, .bool false, .int .i64 0, .bool false]) ?_ ?_ ?_
    · exact results_cell_row Tryz.results35 _ _ w.heap.size 50 _ (0, 0) _ rfl (heap_setRow N4.out) Tryz.underlying50 rfl (by kernel_rfl)
    · rfl
    exact ⟨⟨⟨1, 0, ⟨⟨tn, tz, th⟩, ⟨tw, tp, tq, tm⟩⟩, L0, G0_⟩, rfl⟩, (FinD.mk_ T4.out S4.out).row H.out (Nat.le_refl _) _⟩
  | ok y =>
    obtain ⟨⟨⟨tn, tz, th⟩, ⟨tw, tp, tq, tm⟩⟩, r⟩ := y
    rw [show extK 1 l q = .ok (⟨1, 0, ⟨⟨tn, tz, th⟩, ⟨tw, tp, tq, tm⟩⟩, L0, G0_⟩, r) by unfold extK; rw [hx]; rfl]
    have S0 : Hid (DR (w.alloc (.cells #[.int .i64 0, .int .i64 0, .int .i64 0, .bool false, .int .i64 0, .bool false, .int .u64 0, .int .u64 0, .bool false, .bool false, .int .u64 0, .int .u64 0, .bool false, .int .i64 0, .bool false, .int .i64 0, .bool false] 50)) b v l (.ok p)) := H.out.grew ((Grew.refl w).alloc _)
    have T0 : Hid (Turn [b] w (w.alloc (.cells #[.int .i64 0, .int .i64 0, .int .i64 0, .bool false, .int .i64 0, .bool false, .int .u64 0, .int .u64 0, .bool false, .bool false, .int .u64 0, .int .u64 0, .bool false, .int .i64 0, .bool false, .int .i64 0, .bool false] 50))) := (Turn.refl [b] w).alloc _
    have N0 : Hid ((w.alloc (.cells #[.int .i64 0, .int .i64 0, .int .i64 0, .bool false, .int .i64 0, .bool false, .int .u64 0, .int .u64 0, .bool false, .bool false, .int .u64 0, .int .u64 0, .bool false, .int .i64 0, .bool false, .int .i64 0, .bool false] 50)).heap[w.heap.size]? = some (.cells #[.int .i64 0, .int .i64 0, .int .i64 0, .bool false, .int .i64 0, .bool false, .int .u64 0, .int .u64 0, .bool false, .bool false, .int .u64 0, .int .u64 0, .bool false, .int .i64 0, .bool false, .int .i64 0, .bool false] 50 (0, 0))) := heap_alloc_last _ _
    go_enter Tryz.func35, Tryz.ntmps35
    go_wp2_with fail
    refine (Calls.dok (dsmall_any S0.out 4 (by decide)) hs).mono ?_
    rintro en w1 ⟨rfl, t1, s1⟩
    have T1 : Hid (Turn [b] w w1) := T0.out.trans t1
    have S1 : Hid (DR w1 b v l (.ok q)) := s1
    have N1 : Hid (w1.heap[w.heap.size]? = some (.cells #[.int .i64 0, .int .i64 0, .int .i64 0, .bool false, .int .i64 0, .bool false, .int .u64 0, .int .u64 0, .bool false, .bool false, .int .u64 0, .int .u64 0, .bool false, .int .i64 0, .bool false, .int .i64 0, .bool false] 50 (0, 0))) := t1.other N0.out (by simp; try omega)
    clear t1 s1 T0 S0 N0
    clear hs
    have c3_1 := cell_of S1.out.st.1 3
    simp at c3_1
    have hs1 : b < w1.heap.size := S1.out.lt
    have hs2 : ¬ b = w1.heap.size := by omega
    go_wp2_with fail
    generalize hw2 : w1.alloc (.cells #[.int .i64 1, .int .i64 0, .int .i64 0, .bool false, .int .i64 0, .bool false, .int .u64 0, .int .u64 0, .bool false, .bool false, .int .u64 0, .int .u64 0, .bool false, .int .i64 0, .bool false, .int .i64 0, .bool false] 50) = w2
    have g2 : Grew w1 w2 := by rw [← hw2]; exact (Grew.refl _).alloc _
    have T2 : Hid (Turn [b] w w2) := T1.out.trans (g2.turn _)
    have S2 : Hid (DR w2 b v l (.ok q)) := S1.out.grew g2
    have N2 : Hid (w2.heap[w.heap.size]? = some (.cells #[.int .i64 0, .int .i64 0, .int .i64 0, .bool false, .int .i64 0, .bool false, .int .u64 0, .int .u64 0, .bool false, .bool false, .int .u64 0, .int .u64 0, .bool false, .int .i64 0, .bool false, .int .i64 0, .bool false] 50 (0, 0))) := (g2.turn []).other N1.out (by simp)
    have M2 : Hid (w2.heap[w1.heap.size]? = some (.cells #[.int .i64 1, .int .i64 0, .int .i64 0, .bool false, .int .i64 0, .bool false, .int .u64 0, .int .u64 0, .bool false, .bool false, .int .u64 0, .int .u64 0, .bool false, .int .i64 0, .bool false, .int .i64 0, .bool false] 50 (0, 0))) := by rw [← hw2]; exact heap_alloc_last _ _
    have hMs : b < w1.heap.size := S1.out.lt
    have hM1 : ¬ b = w1.heap.size := by omega
    have hMb : w.heap.size ≤ w1.heap.size := T1.out.size
    have hMN : w.heap.size < w1.heap.size := lt_of_obj N1.out
    have h01 : ¬ w.heap.size = w1.heap.size := by omega
    have h10 : ¬ w1.heap.size = w.heap.size := by omega
    clear hw2 g2 T1 S1 N1
    generalize hMM : w1.heap.size = MM at *
    clear hMM
    refine (Calls.dok (dtable_any S2.out) hx).mono ?_
    rintro en w3 ⟨rfl, t3, s3⟩
    have T3 : Hid (Turn [b] w w3) := T2.out.trans t3
    have S3 : Hid (DR w3 b v l (.ok r)) := s3
    have N3 : Hid (w3.heap[w.heap.size]? = some (.cells #[.int .i64 0, .int .i64 0, .int .i64 0, .bool false, .int .i64 0, .bool false, .int .u64 0, .int .u64 0, .bool false, .bool false, .int .u64 0, .int .u64 0, .bool false, .int .i64 0, .bool false, .int .i64 0, .bool false] 50 (0, 0))) := t3.other N2.out (by simp; try omega)
    have M3 : Hid (w3.heap[MM]? = some (.cells #[.int .i64 1, .int .i64 0, .int .i64 0, .bool false, .int .i64 0, .bool false, .int .u64 0, .int .u64 0, .bool false, .bool false, .int .u64 0, .int .u64 0, .bool false, .int .i64 0, .bool false, .int .i64 0, .bool false] 50 (0, 0))) := t3.other M2.out (by simp; try omega)
    clear t3 s3 T2 S2 N2 M2
    clear hx
    unfold TT.v
    have x2_3 := free_of M3.out 2
    have x3_3 := free_of M3.out 3
    have x4_3 := free_of M3.out 4
    have x5_3 := free_of M3.out 5
    have x6_3 := free_of M3.out 6
    have x7_3 := free_of M3.out 7
    have x8_3 := free_of M3.out 8
    have m2_3 := cell_of M3.out 2
    have m3_3 := cell_of M3.out 3
    have m4_3 := cell_of M3.out 4
    have m5_3 := cell_of M3.out 5
    have m6_3 := cell_of M3.out 6
    have m7_3 := cell_of M3.out 7
    have m8_3 := cell_of M3.out 8
    simp at m2_3 m3_3 m4_3 m5_3 m6_3 m7_3 m8_3
    go_wp2_with (first
      | with_reducible refine stop_load 50 rfl ?_
      | fail)
    generalize hw4 : (((((((w3.setCell ⟨MM, 2, none⟩ (.int .i64 tn)).setCell ⟨MM, 3, none⟩ (.bool tz)).setCell ⟨MM, 4, none⟩ (.int .i64 th)).setCell ⟨MM, 5, none⟩ (.bool tw)).setCell ⟨MM, 6, none⟩ (.int .u64 tp)).setCell ⟨MM, 7, none⟩ (.int .u64 tq)).setCell ⟨MM, 8, none⟩ (.bool tm)) = w4
    have f4 : FinD b v l w w4 (.ok r) := by rw [← hw4]; exact ((((((((FinD.mk_ T3.out S3.out).set H.out hMb).set H.out hMb).set H.out hMb).set H.out hMb).set H.out hMb).set H.out hMb).set H.out hMb)
    have T4 : Hid (Turn [b] w w4) := f4.1
    have S4 : Hid (DR w4 b v l (.ok r)) := f4.2
    have N4 : Hid (w4.heap[w.heap.size]? = some (.cells #[.int .i64 0, .int .i64 0, .int .i64 0, .bool false, .int .i64 0, .bool false, .int .u64 0, .int .u64 0, .bool false, .bool false, .int .u64 0, .int .u64 0, .bool false, .int .i64 0, .bool false, .int .i64 0, .bool false] 50 (0, 0))) := by rw [← hw4]; exact (heap_other (heap_other (heap_other (heap_other (heap_other (heap_other (heap_other N3.out (by simpa using h01) _) (by simpa using h01) _) (by simpa using h01) _) (by simpa using h01) _) (by simpa using h01) _) (by simpa using h01) _) (by simpa using h01) _)
    have M4 : Hid (w4.heap[MM]? = some (.cells #[.int .i64 1, .int .i64 0, .int .i64 tn, .bool tz, .int .i64 th, .bool tw, .int .u64 tp, .int .u64 tq, .bool tm, .bool false, .int .u64 0, .int .u64 0, .bool false, .int .i64 0, .bool false, .int .i64 0, .bool false] 50 (0, 0))) := by rw [← hw4]; exact (heap_set (heap_set (heap_set (heap_set (heap_set (heap_set (heap_set M3.out 2 _) 3 _) 4 _) 5 _) 6 _) 7 _) 8 _).trans rfl
    clear hw4 f4 x2_3 m2_3 x3_3 m3_3 x4_3 m4_3 x5_3 m5_3 x6_3 m6_3 x7_3 m7_3 x8_3 m8_3 T3 S3 M3 N3
    unfold Stop
    refine wpList_load_row rfl 50 _ rfl MM rfl 50 #[.int .i64 1, .int .i64 0, .int .i64 tn, .bool tz, .int .i64 th, .bool tw, .int .u64 tp, .int .u64 tq, .bool tm, .bool false, .int .u64 0, .int .u64 0, .bool false, .int .i64 0, .bool false, .int .i64 0, .bool false] (0, 0) _ M4.out Tryz.underlying50 rfl (by kernel_rfl) ?_
    go_wp2_with (first
      | with_reducible refine stop_store 50 rfl ?_
      | fail)
    unfold Stop
    refine wpList_store_row rfl 50 _ _ rfl w.heap.size #[.int .i64 1, .int .i64 0, .int .i64 tn, .bool tz, .int .i64 th, .bool tw, .int .u64 tp, .int .u64 tq, .bool tm, .bool false, .int .u64 0, .int .u64 0, .bool false, .int .i64 0, .bool false, .int .i64 0, .bool false] rfl rfl 50 #[.int .i64 0, .int .i64 0, .int .i64 0, .bool false, .int .i64 0, .bool false, .int .u64 0, .int .u64 0, .bool false, .bool false, .int .u64 0, .int .u64 0, .bool false, .int .i64 0, .bool false, .int .i64 0, .bool false] N4.out (by kernel_rfl) rfl (by first | rfl | decide | simp [Value.oneCell']) ?_
    go_wp2_with fail
    refine bodyPost_ret (v := .agg #[.int .i64 1, .int .i64 0, .int .i64 tn, .bool tz, .int .i64 th, .bool tw, .int .u64 tp, .int .u64 tq, .bool tm, .bool false, .int .u64 0, .int .u64 0, .bool false, .int .i64 0, .bool false, .int .i64 0, .bool false]) ?_ ?_ ?_
    · exact results_cell_row Tryz.results35 _ _ w.heap.size 50 _ (0, 0) _ rfl (heap_setRow N4.out) Tryz.underlying50 rfl (by kernel_rfl)
    · rfl
    exact ⟨rfl, (FinD.mk_ T4.out S4.out).row H.out (Nat.le_refl _) _⟩
set_option maxRecDepth 100000 in
set_option maxHeartbeats 1000000 in
theorem dext_2 {w : World} {b : Nat} {v : Value} {l : List Int} {p q : Nat} (h : DR w b v l (.ok p)) (hs : belowR ((4 : Nat) + 1 : Int) l p = .ok (2, q)) :
    Calls Tryz.prog 35 #[.pointer (some ⟨b, 0, none⟩)] w (DAns XT.v b v l w (extK 2 l q)) := by
  have H : Hid (DR w b v l (.ok p)) := h
  have hb : b < w.heap.size := h.lt
  have hl := h.len
  clear h
  cases hx : limsR l q with
  | error y =>
    obtain ⟨f, e⟩ := y
    rw [show extK 2 l q = .error (f, e) by unfold extK; rw [hx]; rfl]
    have S0 : Hid (DR (w.alloc (.cells #[.int .i64 0, .int .i64 0, .int .i64 0, .bool false, .int .i64 0, .bool false, .int .u64 0, .int .u64 0, .bool false, .bool false, .int .u64 0, .int .u64 0, .bool false, .int .i64 0, .bool false, .int .i64 0, .bool false] 50)) b v l (.ok p)) := H.out.grew ((Grew.refl w).alloc _)
    have T0 : Hid (Turn [b] w (w.alloc (.cells #[.int .i64 0, .int .i64 0, .int .i64 0, .bool false, .int .i64 0, .bool false, .int .u64 0, .int .u64 0, .bool false, .bool false, .int .u64 0, .int .u64 0, .bool false, .int .i64 0, .bool false, .int .i64 0, .bool false] 50))) := (Turn.refl [b] w).alloc _
    have N0 : Hid ((w.alloc (.cells #[.int .i64 0, .int .i64 0, .int .i64 0, .bool false, .int .i64 0, .bool false, .int .u64 0, .int .u64 0, .bool false, .bool false, .int .u64 0, .int .u64 0, .bool false, .int .i64 0, .bool false, .int .i64 0, .bool false] 50)).heap[w.heap.size]? = some (.cells #[.int .i64 0, .int .i64 0, .int .i64 0, .bool false, .int .i64 0, .bool false, .int .u64 0, .int .u64 0, .bool false, .bool false, .int .u64 0, .int .u64 0, .bool false, .int .i64 0, .bool false, .int .i64 0, .bool false] 50 (0, 0))) := heap_alloc_last _ _
    go_enter Tryz.func35, Tryz.ntmps35
    go_wp2_with fail
    refine (Calls.dok (dsmall_any S0.out 4 (by decide)) hs).mono ?_
    rintro en w1 ⟨rfl, t1, s1⟩
    have T1 : Hid (Turn [b] w w1) := T0.out.trans t1
    have S1 : Hid (DR w1 b v l (.ok q)) := s1
    have N1 : Hid (w1.heap[w.heap.size]? = some (.cells #[.int .i64 0, .int .i64 0, .int .i64 0, .bool false, .int .i64 0, .bool false, .int .u64 0, .int .u64 0, .bool false, .bool false, .int .u64 0, .int .u64 0, .bool false, .int .i64 0, .bool false, .int .i64 0, .bool false] 50 (0, 0))) := t1.other N0.out (by simp; try omega)
    clear t1 s1 T0 S0 N0
    clear hs
    have c3_1 := cell_of S1.out.st.1 3
    simp at c3_1
    have hs1 : b < w1.heap.size := S1.out.lt
    have hs2 : ¬ b = w1.heap.size := by omega
    go_wp2_with fail
    generalize hw2 : w1.alloc (.cells #[.int .i64 2, .int .i64 0, .int .i64 0, .bool false, .int .i64 0, .bool false, .int .u64 0, .int .u64 0, .bool false, .bool false, .int .u64 0, .int .u64 0, .bool false, .int .i64 0, .bool false, .int .i64 0, .bool false] 50) = w2
    have g2 : Grew w1 w2 := by rw [← hw2]; exact (Grew.refl _).alloc _
    have T2 : Hid (Turn [b] w w2) := T1.out.trans (g2.turn _)
    have S2 : Hid (DR w2 b v l (.ok q)) := S1.out.grew g2
    have N2 : Hid (w2.heap[w.heap.size]? = some (.cells #[.int .i64 0, .int .i64 0, .int .i64 0, .bool false, .int .i64 0, .bool false, .int .u64 0, .int .u64 0, .bool false, .bool false, .int .u64 0, .int .u64 0, .bool false, .int .i64 0, .bool false, .int .i64 0, .bool false] 50 (0, 0))) := (g2.turn []).other N1.out (by simp)
    have M2 : Hid (w2.heap[w1.heap.size]? = some (.cells #[.int .i64 2, .int .i64 0, .int .i64 0, .bool false, .int .i64 0, .bool false, .int .u64 0, .int .u64 0, .bool false, .bool false, .int .u64 0, .int .u64 0, .bool false, .int .i64 0, .bool false, .int .i64 0, .bool false] 50 (0, 0))) := by rw [← hw2]; exact heap_alloc_last _ _
    have hMs : b < w1.heap.size := S1.out.lt
    have hM1 : ¬ b = w1.heap.size := by omega
    have hMb : w.heap.size ≤ w1.heap.size := T1.out.size
    have hMN : w.heap.size < w1.heap.size := lt_of_obj N1.out
    have h01 : ¬ w.heap.size = w1.heap.size := by omega
    have h10 : ¬ w1.heap.size = w.heap.size := by omega
    clear hw2 g2 T1 S1 N1
    generalize hMM : w1.heap.size = MM at *
    clear hMM
    refine (Calls.der (dlimits_ok S2.out) hx).mono ?_
    rintro en w3 ⟨⟨y, rfl⟩, t3, s3⟩
    have T3 : Hid (Turn [b] w w3) := T2.out.trans t3
    have S3 : Hid (DR w3 b v l (.error (f, e))) := s3
    have N3 : Hid (w3.heap[w.heap.size]? = some (.cells #[.int .i64 0, .int .i64 0, .int .i64 0, .bool false, .int .i64 0, .bool false, .int .u64 0, .int .u64 0, .bool false, .bool false, .int .u64 0, .int .u64 0, .bool false, .int .i64 0, .bool false, .int .i64 0, .bool false] 50 (0, 0))) := t3.other N2.out (by simp; try omega)
    have M3 : Hid (w3.heap[MM]? = some (.cells #[.int .i64 2, .int .i64 0, .int .i64 0, .bool false, .int .i64 0, .bool false, .int .u64 0, .int .u64 0, .bool false, .bool false, .int .u64 0, .int .u64 0, .bool false, .int .i64 0, .bool false, .int .i64 0, .bool false] 50 (0, 0))) := t3.other M2.out (by simp; try omega)
    clear t3 s3 T2 S2 N2 M2
    obtain ⟨mw, mp, mq, mm⟩ := y
    clear hx
    unfold LM.v
    have x9_3 := free_of M3.out 9
    have x10_3 := free_of M3.out 10
    have x11_3 := free_of M3.out 11
    have x12_3 := free_of M3.out 12
    have m9_3 := cell_of M3.out 9
    have m10_3 := cell_of M3.out 10
    have m11_3 := cell_of M3.out 11
    have m12_3 := cell_of M3.out 12
    simp at m9_3 m10_3 m11_3 m12_3
    go_wp2_with (first
      | with_reducible refine stop_load 50 rfl ?_
      | fail)
    generalize hw4 : ((((w3.setCell ⟨MM, 9, none⟩ (.bool mw)).setCell ⟨MM, 10, none⟩ (.int .u64 mp)).setCell ⟨MM, 11, none⟩ (.int .u64 mq)).setCell ⟨MM, 12, none⟩ (.bool mm)) = w4
    have f4 : FinD b v l w w4 (.error (f, e)) := by rw [← hw4]; exact (((((FinD.mk_ T3.out S3.out).set H.out hMb).set H.out hMb).set H.out hMb).set H.out hMb)
    have T4 : Hid (Turn [b] w w4) := f4.1
    have S4 : Hid (DR w4 b v l (.error (f, e))) := f4.2
    have N4 : Hid (w4.heap[w.heap.size]? = some (.cells #[.int .i64 0, .int .i64 0, .int .i64 0, .bool false, .int .i64 0, .bool false, .int .u64 0, .int .u64 0, .bool false, .bool false, .int .u64 0, .int .u64 0, .bool false, .int .i64 0, .bool false, .int .i64 0, .bool false] 50 (0, 0))) := by rw [← hw4]; exact (heap_other (heap_other (heap_other (heap_other N3.out (by simpa using h01) _) (by simpa using h01) _) (by simpa using h01) _) (by simpa using h01) _)
    have M4 : Hid (w4.heap[MM]? = some (.cells #[.int .i64 2, .int .i64 0, .int .i64 0, .bool false, .int .i64 0, .bool false, .int .u64 0, .int .u64 0, .bool false, .bool mw, .int .u64 mp, .int .u64 mq, .bool mm, .int .i64 0, .bool false, .int .i64 0, .bool false] 50 (0, 0))) := by rw [← hw4]; exact (heap_set (heap_set (heap_set (heap_set M3.out 9 _) 10 _) 11 _) 12 _).trans rfl
    clear hw4 f4 x9_3 m9_3 x10_3 m10_3 x11_3 m11_3 x12_3 m12_3 T3 S3 M3 N3
    unfold Stop
    refine wpList_load_row rfl 50 _ rfl MM rfl 50 #[.int .i64 2, .int .i64 0, .int .i64 0, .bool false, .int .i64 0, .bool false, .int .u64 0, .int .u64 0, .bool false, .bool mw, .int .u64 mp, .int .u64 mq, .bool mm, .int .i64 0, .bool false, .int .i64 0, .bool false] (0, 0) _ M4.out Tryz.underlying50 rfl (by kernel_rfl) ?_
    go_wp2_with (first
      | with_reducible refine stop_store 50 rfl ?_
      | fail)
    unfold Stop
    refine wpList_store_row rfl 50 _ _ rfl w.heap.size #[.int .i64 2, .int .i64 0, .int .i64 0, .bool false, .int .i64 0, .bool false, .int .u64 0, .int .u64 0, .bool false, .bool mw, .int .u64 mp, .int .u64 mq, .bool mm, .int .i64 0, .bool false, .int .i64 0, .bool false] rfl rfl 50 #[.int .i64 0, .int .i64 0, .int .i64 0, .bool false, .int .i64 0, .bool false, .int .u64 0, .int .u64 0, .bool false, .bool false, .int .u64 0, .int .u64 0, .bool false, .int .i64 0, .bool false, .int .i64 0, .bool false] N4.out (by kernel_rfl) rfl (by first | rfl | decide | simp [Value.oneCell']) ?_
    go_wp2_with fail
    refine bodyPost_ret (v := .agg #[.int .i64 2, .int .i64 0, .int .i64 0, .bool false, .int .i64 0, .bool false, .int .u64 0, .int .u64 0, .bool false, .bool mw, .int .u64 mp, .int .u64 mq, .bool mm, .int .i64 0, .bool false, .int .i64 0, .bool false]) ?_ ?_ ?_
    · exact results_cell_row Tryz.results35 _ _ w.heap.size 50 _ (0, 0) _ rfl (heap_setRow N4.out) Tryz.underlying50 rfl (by kernel_rfl)
    · rfl
    exact ⟨⟨⟨2, 0, T0_, ⟨mw, mp, mq, mm⟩, G0_⟩, rfl⟩, (FinD.mk_ T4.out S4.out).row H.out (Nat.le_refl _) _⟩
  | ok y =>
    obtain ⟨⟨mw, mp, mq, mm⟩, r⟩ := y
    rw [show extK 2 l q = .ok (⟨2, 0, T0_, ⟨mw, mp, mq, mm⟩, G0_⟩, r) by unfold extK; rw [hx]; rfl]
    have S0 : Hid (DR (w.alloc (.cells #[.int .i64 0, .int .i64 0, .int .i64 0, .bool false, .int .i64 0, .bool false, .int .u64 0, .int .u64 0, .bool false, .bool false, .int .u64 0, .int .u64 0, .bool false, .int .i64 0, .bool false, .int .i64 0, .bool false] 50)) b v l (.ok p)) := H.out.grew ((Grew.refl w).alloc _)
    have T0 : Hid (Turn [b] w (w.alloc (.cells #[.int .i64 0, .int .i64 0, .int .i64 0, .bool false, .int .i64 0, .bool false, .int .u64 0, .int .u64 0, .bool false, .bool false, .int .u64 0, .int .u64 0, .bool false, .int .i64 0, .bool false, .int .i64 0, .bool false] 50))) := (Turn.refl [b] w).alloc _
    have N0 : Hid ((w.alloc (.cells #[.int .i64 0, .int .i64 0, .int .i64 0, .bool false, .int .i64 0, .bool false, .int .u64 0, .int .u64 0, .bool false, .bool false, .int .u64 0, .int .u64 0, .bool false, .int .i64 0, .bool false, .int .i64 0, .bool false] 50)).heap[w.heap.size]? = some (.cells #[.int .i64 0, .int .i64 0, .int .i64 0, .bool false, .int .i64 0, .bool false, .int .u64 0, .int .u64 0, .bool false, .bool false, .int .u64 0, .int .u64 0, .bool false, .int .i64 0, .bool false, .int .i64 0, .bool false] 50 (0, 0))) := heap_alloc_last _ _
    go_enter Tryz.func35, Tryz.ntmps35
    go_wp2_with fail
    refine (Calls.dok (dsmall_any S0.out 4 (by decide)) hs).mono ?_
    rintro en w1 ⟨rfl, t1, s1⟩
    have T1 : Hid (Turn [b] w w1) := T0.out.trans t1
    have S1 : Hid (DR w1 b v l (.ok q)) := s1
    have N1 : Hid (w1.heap[w.heap.size]? = some (.cells #[.int .i64 0, .int .i64 0, .int .i64 0, .bool false, .int .i64 0, .bool false, .int .u64 0, .int .u64 0, .bool false, .bool false, .int .u64 0, .int .u64 0, .bool false, .int .i64 0, .bool false, .int .i64 0, .bool false] 50 (0, 0))) := t1.other N0.out (by simp; try omega)
    clear t1 s1 T0 S0 N0
    clear hs
    have c3_1 := cell_of S1.out.st.1 3
    simp at c3_1
    have hs1 : b < w1.heap.size := S1.out.lt
    have hs2 : ¬ b = w1.heap.size := by omega
    go_wp2_with fail
    generalize hw2 : w1.alloc (.cells #[.int .i64 2, .int .i64 0, .int .i64 0, .bool false, .int .i64 0, .bool false, .int .u64 0, .int .u64 0, .bool false, .bool false, .int .u64 0, .int .u64 0, .bool false, .int .i64 0, .bool false, .int .i64 0, .bool false] 50) = w2
    have g2 : Grew w1 w2 := by rw [← hw2]; exact (Grew.refl _).alloc _
    have T2 : Hid (Turn [b] w w2) := T1.out.trans (g2.turn _)
    have S2 : Hid (DR w2 b v l (.ok q)) := S1.out.grew g2
    have N2 : Hid (w2.heap[w.heap.size]? = some (.cells #[.int .i64 0, .int .i64 0, .int .i64 0, .bool false, .int .i64 0, .bool false, .int .u64 0, .int .u64 0, .bool false, .bool false, .int .u64 0, .int .u64 0, .bool false, .int .i64 0, .bool false, .int .i64 0, .bool false] 50 (0, 0))) := (g2.turn []).other N1.out (by simp)
    have M2 : Hid (w2.heap[w1.heap.size]? = some (.cells #[.int .i64 2, .int .i64 0, .int .i64 0, .bool false, .int .i64 0, .bool false, .int .u64 0, .int .u64 0, .bool false, .bool false, .int .u64 0, .int .u64 0, .bool false, .int .i64 0, .bool false, .int .i64 0, .bool false] 50 (0, 0))) := by rw [← hw2]; exact heap_alloc_last _ _
    have hMs : b < w1.heap.size := S1.out.lt
    have hM1 : ¬ b = w1.heap.size := by omega
    have hMb : w.heap.size ≤ w1.heap.size := T1.out.size
    have hMN : w.heap.size < w1.heap.size := lt_of_obj N1.out
    have h01 : ¬ w.heap.size = w1.heap.size := by omega
    have h10 : ¬ w1.heap.size = w.heap.size := by omega
    clear hw2 g2 T1 S1 N1
    generalize hMM : w1.heap.size = MM at *
    clear hMM
    refine (Calls.dok (dlimits_ok S2.out) hx).mono ?_
    rintro en w3 ⟨rfl, t3, s3⟩
    have T3 : Hid (Turn [b] w w3) := T2.out.trans t3
    have S3 : Hid (DR w3 b v l (.ok r)) := s3
    have N3 : Hid (w3.heap[w.heap.size]? = some (.cells #[.int .i64 0, .int .i64 0, .int .i64 0, .bool false, .int .i64 0, .bool false, .int .u64 0, .int .u64 0, .bool false, .bool false, .int .u64 0, .int .u64 0, .bool false, .int .i64 0, .bool false, .int .i64 0, .bool false] 50 (0, 0))) := t3.other N2.out (by simp; try omega)
    have M3 : Hid (w3.heap[MM]? = some (.cells #[.int .i64 2, .int .i64 0, .int .i64 0, .bool false, .int .i64 0, .bool false, .int .u64 0, .int .u64 0, .bool false, .bool false, .int .u64 0, .int .u64 0, .bool false, .int .i64 0, .bool false, .int .i64 0, .bool false] 50 (0, 0))) := t3.other M2.out (by simp; try omega)
    clear t3 s3 T2 S2 N2 M2
    clear hx
    unfold LM.v
    have x9_3 := free_of M3.out 9
    have x10_3 := free_of M3.out 10
    have x11_3 := free_of M3.out 11
    have x12_3 := free_of M3.out 12
    have m9_3 := cell_of M3.out 9
    have m10_3 := cell_of M3.out 10
    have m11_3 := cell_of M3.out 11
    have m12_3 := cell_of M3.out 12
    simp at m9_3 m10_3 m11_3 m12_3
    go_wp2_with (first
      | with_reducible refine stop_load 50 rfl ?_
      | fail)
    generalize hw4 : ((((w3.setCell ⟨MM, 9, none⟩ (.bool mw)).setCell ⟨MM, 10, none⟩ (.int .u64 mp)).setCell ⟨MM, 11, none⟩ (.int .u64 mq)).setCell ⟨MM, 12, none⟩ (.bool mm)) = w4
    have f4 : FinD b v l w w4 (.ok r) := by rw [← hw4]; exact (((((FinD.mk_ T3.out S3.out).set H.out hMb).set H.out hMb).set H.out hMb).set H.out hMb)
    have T4 : Hid (Turn [b] w w4) := f4.1
    have S4 : Hid (DR w4 b v l (.ok r)) := f4.2
    have N4 : Hid (w4.heap[w.heap.size]? = some (.cells #[.int .i64 0, .int .i64 0, .int .i64 0, .bool false, .int .i64 0, .bool false, .int .u64 0, .int .u64 0, .bool false, .bool false, .int .u64 0, .int .u64 0, .bool false, .int .i64 0, .bool false, .int .i64 0, .bool false] 50 (0, 0))) := by rw [← hw4]; exact (heap_other (heap_other (heap_other (heap_other N3.out (by simpa using h01) _) (by simpa using h01) _) (by simpa using h01) _) (by simpa using h01) _)
    have M4 : Hid (w4.heap[MM]? = some (.cells #[.int .i64 2, .int .i64 0, .int .i64 0, .bool false, .int .i64 0, .bool false, .int .u64 0, .int .u64 0, .bool false, .bool mw, .int .u64 mp, .int .u64 mq, .bool mm, .int .i64 0, .bool false, .int .i64 0, .bool false] 50 (0, 0))) := by rw [← hw4]; exact (heap_set (heap_set (heap_set (heap_set M3.out 9 _) 10 _) 11 _) 12 _).trans rfl
    clear hw4 f4 x9_3 m9_3 x10_3 m10_3 x11_3 m11_3 x12_3 m12_3 T3 S3 M3 N3
    unfold Stop
    refine wpList_load_row rfl 50 _ rfl MM rfl 50 #[.int .i64 2, .int .i64 0, .int .i64 0, .bool false, .int .i64 0, .bool false, .int .u64 0, .int .u64 0, .bool false, .bool mw, .int .u64 mp, .int .u64 mq, .bool mm, .int .i64 0, .bool false, .int .i64 0, .bool false] (0, 0) _ M4.out Tryz.underlying50 rfl (by kernel_rfl) ?_
    go_wp2_with (first
      | with_reducible refine stop_store 50 rfl ?_
      | fail)
    unfold Stop
    refine wpList_store_row rfl 50 _ _ rfl w.heap.size #[.int .i64 2, .int .i64 0, .int .i64 0, .bool false, .int .i64 0, .bool false, .int .u64 0, .int .u64 0, .bool false, .bool mw, .int .u64 mp, .int .u64 mq, .bool mm, .int .i64 0, .bool false, .int .i64 0, .bool false] rfl rfl 50 #[.int .i64 0, .int .i64 0, .int .i64 0, .bool false, .int .i64 0, .bool false, .int .u64 0, .int .u64 0, .bool false, .bool false, .int .u64 0, .int .u64 0, .bool false, .int .i64 0, .bool false, .int .i64 0, .bool false] N4.out (by kernel_rfl) rfl (by first | rfl | decide | simp [Value.oneCell']) ?_
    go_wp2_with fail
    refine bodyPost_ret (v := .agg #[.int .i64 2, .int .i64 0, .int .i64 0, .bool false, .int .i64 0, .bool false, .int .u64 0, .int .u64 0, .bool false, .bool mw, .int .u64 mp, .int .u64 mq, .bool mm, .int .i64 0, .bool false, .int .i64 0, .bool false]) ?_ ?_ ?_
    · exact results_cell_row Tryz.results35 _ _ w.heap.size 50 _ (0, 0) _ rfl (heap_setRow N4.out) Tryz.underlying50 rfl (by kernel_rfl)
    · rfl
    exact ⟨rfl, (FinD.mk_ T4.out S4.out).row H.out (Nat.le_refl _) _⟩
set_option maxRecDepth 100000 in
set_option maxHeartbeats 1000000 in
theorem dext_3 {w : World} {b : Nat} {v : Value} {l : List Int} {p q : Nat} (h : DR w b v l (.ok p)) (hs : belowR ((4 : Nat) + 1 : Int) l p = .ok (3, q)) :
    Calls Tryz.prog 35 #[.pointer (some ⟨b, 0, none⟩)] w (DAns XT.v b v l w (extK 3 l q)) := by
  have H : Hid (DR w b v l (.ok p)) := h
  have hb : b < w.heap.size := h.lt
  have hl := h.len
  clear h
  cases hx : gloR l q with
  | error y =>
    obtain ⟨f, e⟩ := y
    rw [show extK 3 l q = .error (f, e) by unfold extK; rw [hx]; rfl]
    have S0 : Hid (DR (w.alloc (.cells #[.int .i64 0, .int .i64 0, .int .i64 0, .bool false, .int .i64 0, .bool false, .int .u64 0, .int .u64 0, .bool false, .bool false, .int .u64 0, .int .u64 0, .bool false, .int .i64 0, .bool false, .int .i64 0, .bool false] 50)) b v l (.ok p)) := H.out.grew ((Grew.refl w).alloc _)
    have T0 : Hid (Turn [b] w (w.alloc (.cells #[.int .i64 0, .int .i64 0, .int .i64 0, .bool false, .int .i64 0, .bool false, .int .u64 0, .int .u64 0, .bool false, .bool false, .int .u64 0, .int .u64 0, .bool false, .int .i64 0, .bool false, .int .i64 0, .bool false] 50))) := (Turn.refl [b] w).alloc _
    have N0 : Hid ((w.alloc (.cells #[.int .i64 0, .int .i64 0, .int .i64 0, .bool false, .int .i64 0, .bool false, .int .u64 0, .int .u64 0, .bool false, .bool false, .int .u64 0, .int .u64 0, .bool false, .int .i64 0, .bool false, .int .i64 0, .bool false] 50)).heap[w.heap.size]? = some (.cells #[.int .i64 0, .int .i64 0, .int .i64 0, .bool false, .int .i64 0, .bool false, .int .u64 0, .int .u64 0, .bool false, .bool false, .int .u64 0, .int .u64 0, .bool false, .int .i64 0, .bool false, .int .i64 0, .bool false] 50 (0, 0))) := heap_alloc_last _ _
    go_enter Tryz.func35, Tryz.ntmps35
    go_wp2_with fail
    refine (Calls.dok (dsmall_any S0.out 4 (by decide)) hs).mono ?_
    rintro en w1 ⟨rfl, t1, s1⟩
    have T1 : Hid (Turn [b] w w1) := T0.out.trans t1
    have S1 : Hid (DR w1 b v l (.ok q)) := s1
    have N1 : Hid (w1.heap[w.heap.size]? = some (.cells #[.int .i64 0, .int .i64 0, .int .i64 0, .bool false, .int .i64 0, .bool false, .int .u64 0, .int .u64 0, .bool false, .bool false, .int .u64 0, .int .u64 0, .bool false, .int .i64 0, .bool false, .int .i64 0, .bool false] 50 (0, 0))) := t1.other N0.out (by simp; try omega)
    clear t1 s1 T0 S0 N0
    clear hs
    have c3_1 := cell_of S1.out.st.1 3
    simp at c3_1
    have hs1 : b < w1.heap.size := S1.out.lt
    have hs2 : ¬ b = w1.heap.size := by omega
    go_wp2_with fail
    generalize hw2 : w1.alloc (.cells #[.int .i64 3, .int .i64 0, .int .i64 0, .bool false, .int .i64 0, .bool false, .int .u64 0, .int .u64 0, .bool false, .bool false, .int .u64 0, .int .u64 0, .bool false, .int .i64 0, .bool false, .int .i64 0, .bool false] 50) = w2
    have g2 : Grew w1 w2 := by rw [← hw2]; exact (Grew.refl _).alloc _
    have T2 : Hid (Turn [b] w w2) := T1.out.trans (g2.turn _)
    have S2 : Hid (DR w2 b v l (.ok q)) := S1.out.grew g2
    have N2 : Hid (w2.heap[w.heap.size]? = some (.cells #[.int .i64 0, .int .i64 0, .int .i64 0, .bool false, .int .i64 0, .bool false, .int .u64 0, .int .u64 0, .bool false, .bool false, .int .u64 0, .int .u64 0, .bool false, .int .i64 0, .bool false, .int .i64 0, .bool false] 50 (0, 0))) := (g2.turn []).other N1.out (by simp)
    have M2 : Hid (w2.heap[w1.heap.size]? = some (.cells #[.int .i64 3, .int .i64 0, .int .i64 0, .bool false, .int .i64 0, .bool false, .int .u64 0, .int .u64 0, .bool false, .bool false, .int .u64 0, .int .u64 0, .bool false, .int .i64 0, .bool false, .int .i64 0, .bool false] 50 (0, 0))) := by rw [← hw2]; exact heap_alloc_last _ _
    have hMs : b < w1.heap.size := S1.out.lt
    have hM1 : ¬ b = w1.heap.size := by omega
    have hMb : w.heap.size ≤ w1.heap.size := T1.out.size
    have hMN : w.heap.size < w1.heap.size := lt_of_obj N1.out
    have h01 : ¬ w.heap.size = w1.heap.size := by omega
    have h10 : ¬ w1.heap.size = w.heap.size := by omega
    clear hw2 g2 T1 S1 N1
    generalize hMM : w1.heap.size = MM at *
    clear hMM
    refine (Calls.der (dglobal_any S2.out) hx).mono ?_
    rintro en w3 ⟨⟨y, rfl⟩, t3, s3⟩
    have T3 : Hid (Turn [b] w w3) := T2.out.trans t3
    have S3 : Hid (DR w3 b v l (.error (f, e))) := s3
    have N3 : Hid (w3.heap[w.heap.size]? = some (.cells #[.int .i64 0, .int .i64 0, .int .i64 0, .bool false, .int .i64 0, .bool false, .int .u64 0, .int .u64 0, .bool false, .bool false, .int .u64 0, .int .u64 0, .bool false, .int .i64 0, .bool false, .int .i64 0, .bool false] 50 (0, 0))) := t3.other N2.out (by simp; try omega)
    have M3 : Hid (w3.heap[MM]? = some (.cells #[.int .i64 3, .int .i64 0, .int .i64 0, .bool false, .int .i64 0, .bool false, .int .u64 0, .int .u64 0, .bool false, .bool false, .int .u64 0, .int .u64 0, .bool false, .int .i64 0, .bool false, .int .i64 0, .bool false] 50 (0, 0))) := t3.other M2.out (by simp; try omega)
    clear t3 s3 T2 S2 N2 M2
    obtain ⟨⟨gn, gz, gh⟩, gm⟩ := y
    clear hx
    unfold GT.v
    have x13_3 := free_of M3.out 13
    have x14_3 := free_of M3.out 14
    have x15_3 := free_of M3.out 15
    have x16_3 := free_of M3.out 16
    have m13_3 := cell_of M3.out 13
    have m14_3 := cell_of M3.out 14
    have m15_3 := cell_of M3.out 15
    have m16_3 := cell_of M3.out 16
    simp at m13_3 m14_3 m15_3 m16_3
    go_wp2_with (first
      | with_reducible refine stop_load 50 rfl ?_
      | fail)
    generalize hw4 : ((((w3.setCell ⟨MM, 13, none⟩ (.int .i64 gn)).setCell ⟨MM, 14, none⟩ (.bool gz)).setCell ⟨MM, 15, none⟩ (.int .i64 gh)).setCell ⟨MM, 16, none⟩ (.bool gm)) = w4
    have f4 : FinD b v l w w4 (.error (f, e)) := by rw [← hw4]; exact (((((FinD.mk_ T3.out S3.out).set H.out hMb).set H.out hMb).set H.out hMb).set H.out hMb)
    have T4 : Hid (Turn [b] w w4) := f4.1
    have S4 : Hid (DR w4 b v l (.error (f, e))) := f4.2
    have N4 : Hid (w4.heap[w.heap.size]? = some (.cells #[.int .i64 0, .int .i64 0, .int .i64 0, .bool false, .int .i64 0, .bool false, .int .u64 0, .int .u64 0, .bool false, .bool false, .int .u64 0, .int .u64 0, .bool false, .int .i64 0, .bool false, .int .i64 0, .bool false] 50 (0, 0))) := by rw [← hw4]; exact (heap_other (heap_other (heap_other (heap_other N3.out (by simpa using h01) _) (by simpa using h01) _) (by simpa using h01) _) (by simpa using h01) _)
    have M4 : Hid (w4.heap[MM]? = some (.cells #[.int .i64 3, .int .i64 0, .int .i64 0, .bool false, .int .i64 0, .bool false, .int .u64 0, .int .u64 0, .bool false, .bool false, .int .u64 0, .int .u64 0, .bool false, .int .i64 gn, .bool gz, .int .i64 gh, .bool gm] 50 (0, 0))) := by rw [← hw4]; exact (heap_set (heap_set (heap_set (heap_set M3.out 13 _) 14 _) 15 _) 16 _).trans rfl
    clear hw4 f4 x13_3 m13_3 x14_3 m14_3 x15_3 m15_3 x16_3 m16_3 T3 S3 M3 N3
    unfold Stop
    refine wpList_load_row rfl 50 _ rfl MM rfl 50 #[.int .i64 3, .int .i64 0, .int .i64 0, .bool false, .int .i64 0, .bool false, .int .u64 0, .int .u64 0, .bool false, .bool false, .int .u64 0, .int .u64 0, .bool false, .int .i64 gn, .bool gz, .int .i64 gh, .bool gm] (0, 0) _ M4.out Tryz.underlying50 rfl (by kernel_rfl) ?_
    go_wp2_with (first
      | with_reducible refine stop_store 50 rfl ?_
      | fail)
    unfold Stop
    refine wpList_store_row rfl 50 _ _ rfl w.heap.size #[.int .i64 3, .int .i64 0, .int .i64 0, .bool false, .int .i64 0, .bool false, .int .u64 0, .int .u64 0, .bool false, .bool false, .int .u64 0, .int .u64 0, .bool false, .int .i64 gn, .bool gz, .int .i64 gh, .bool gm] rfl rfl 50 #[.int .i64 0, .int .i64 0, .int .i64 0, .bool false, .int .i64 0, .bool false, .int .u64 0, .int .u64 0, .bool false, .bool false, .int .u64 0, .int .u64 0, .bool false, .int .i64 0, .bool false, .int .i64 0, .bool false] N4.out (by kernel_rfl) rfl (by first | rfl | decide | simp [Value.oneCell']) ?_
    go_wp2_with fail
    refine bodyPost_ret (v := .agg #[.int .i64 3, .int .i64 0, .int .i64 0, .bool false, .int .i64 0, .bool false, .int .u64 0, .int .u64 0, .bool false, .bool false, .int .u64 0, .int .u64 0, .bool false, .int .i64 gn, .bool gz, .int .i64 gh, .bool gm]) ?_ ?_ ?_
    · exact results_cell_row Tryz.results35 _ _ w.heap.size 50 _ (0, 0) _ rfl (heap_setRow N4.out) Tryz.underlying50 rfl (by kernel_rfl)
    · rfl
    exact ⟨⟨⟨3, 0, T0_, L0, ⟨⟨gn, gz, gh⟩, gm⟩⟩, rfl⟩, (FinD.mk_ T4.out S4.out).row H.out (Nat.le_refl _) _⟩
  | ok y =>
    obtain ⟨⟨⟨gn, gz, gh⟩, gm⟩, r⟩ := y
    rw [show extK 3 l q = .ok (⟨3, 0, T0_, L0, ⟨⟨gn, gz, gh⟩, gm⟩⟩, r) by unfold extK; rw [hx]; rfl]
    have S0 : Hid (DR (w.alloc (.cells #[.int .i64 0, .int .i64 0, .int .i64 0, .bool false, .int .i64 0, .bool false, .int .u64 0, .int .u64 0, .bool false, .bool false, .int .u64 0, .int .u64 0, .bool false, .int .i64 0, .bool false, .int .i64 0, .bool false] 50)) b v l (.ok p)) := H.out.grew ((Grew.refl w).alloc _)
    have T0 : Hid (Turn [b] w (w.alloc (.cells #[.int .i64 0, .int .i64 0, .int .i64 0, .bool false, .int .i64 0, .bool false, .int .u64 0, .int .u64 0, .bool false, .bool false, .int .u64 0, .int .u64 0, .bool false, .int .i64 0, .bool false, .int .i64 0, .bool false] 50))) := (Turn.refl [b] w).alloc _
    have N0 : Hid ((w.alloc (.cells #[.int .i64 0, .int .i64 0, .int .i64 0, .bool false, .int .i64 0, .bool false, .int .u64 0, .int .u64 0, .bool false, .bool false, .int .u64 0, .int .u64 0, .bool false, .int .i64 0, .bool false, .int .i64 0, .bool false] 50)).heap[w.heap.size]? = some (.cells #[.int .i64 0, .int .i64 0, .int .i64 0, .bool false, .int .i64 0, .bool false, .int .u64 0, .int .u64 0, .bool false, .bool false, .int .u64 0, .int .u64 0, .bool false, .int .i64 0, .bool false, .int .i64 0, .bool false] 50 (0, 0))) := heap_alloc_last _ _
    go_enter Tryz.func35, Tryz.ntmps35
    go_wp2_with fail
    refine (Calls.dok (dsmall_any S0.out 4 (by decide)) hs).mono ?_
    rintro en w1 ⟨rfl, t1, s1⟩
    have T1 : Hid (Turn [b] w w1) := T0.out.trans t1
    have S1 : Hid (DR w1 b v l (.ok q)) := s1
    have N1 : Hid (w1.heap[w.heap.size]? = some (.cells #[.int .i64 0, .int .i64 0, .int .i64 0, .bool false, .int .i64 0, .bool false, .int .u64 0, .int .u64 0, .bool false, .bool false, .int .u64 0, .int .u64 0, .bool false, .int .i64 0, .bool false, .int .i64 0, .bool false] 50 (0, 0))) := t1.other N0.out (by simp; try omega)
    clear t1 s1 T0 S0 N0
    clear hs
    have c3_1 := cell_of S1.out.st.1 3
    simp at c3_1
    have hs1 : b < w1.heap.size := S1.out.lt
    have hs2 : ¬ b = w1.heap.size := by omega
    go_wp2_with fail
    generalize hw2 : w1.alloc (.cells #[.int .i64 3, .int .i64 0, .int .i64 0, .bool false, .int .i64 0, .bool false, .int .u64 0, .int .u64 0, .bool false, .bool false, .int .u64 0, .int .u64 0, .bool false, .int .i64 0, .bool false, .int .i64 0, .bool false] 50) = w2
    have g2 : Grew w1 w2 := by rw [← hw2]; exact (Grew.refl _).alloc _
    have T2 : Hid (Turn [b] w w2) := T1.out.trans (g2.turn _)
    have S2 : Hid (DR w2 b v l (.ok q)) := S1.out.grew g2
    have N2 : Hid (w2.heap[w.heap.size]? = some (.cells #[.int .i64 0, .int .i64 0, .int .i64 0, .bool false, .int .i64 0, .bool false, .int .u64 0, .int .u64 0, .bool false, .bool false, .int .u64 0, .int .u64 0, .bool false, .int .i64 0, .bool false, .int .i64 0, .bool false] 50 (0, 0))) := (g2.turn []).other N1.out (by simp)
    have M2 : Hid (w2.heap[w1.heap.size]? = some (.cells #[.int .i64 3, .int .i64 0, .int .i64 0, .bool false, .int .i64 0, .bool false, .int .u64 0, .int .u64 0, .bool false, .bool false, .int .u64 0, .int .u64 0, .bool false, .int .i64 0, .bool false, .int .i64 0, .bool false] 50 (0, 0))) := by rw [← hw2]; exact heap_alloc_last _ _
    have hMs : b < w1.heap.size := S1.out.lt
    have hM1 : ¬ b = w1.heap.size := by omega
    have hMb : w.heap.size ≤ w1.heap.size := T1.out.size
    have hMN : w.heap.size < w1.heap.size := lt_of_obj N1.out
    have h01 : ¬ w.heap.size = w1.heap.size := by omega
    have h10 : ¬ w1.heap.size = w.heap.size := by omega
    clear hw2 g2 T1 S1 N1
    generalize hMM : w1.heap.size = MM at *
    clear hMM
    refine (Calls.dok (dglobal_any S2.out) hx).mono ?_
    rintro en w3 ⟨rfl, t3, s3⟩
    have T3 : Hid (Turn [b] w w3) := T2.out.trans t3
    have S3 : Hid (DR w3 b v l (.ok r)) := s3
    have N3 : Hid (w3.heap[w.heap.size]? = some (.cells #[.int .i64 0, .int .i64 0, .int .i64 0, .bool false, .int .i64 0, .bool false, .int .u64 0, .int .u64 0, .bool false, .bool false, .int .u64 0, .int .u64 0, .bool false, .int .i64 0, .bool false, .int .i64 0, .bool false] 50 (0, 0))) := t3.other N2.out (by simp; try omega)
    have M3 : Hid (w3.heap[MM]? = some (.cells #[.int .i64 3, .int .i64 0, .int .i64 0, .bool false, .int .i64 0, .bool false, .int .u64 0, .int .u64 0, .bool false, .bool false, .int .u64 0, .int .u64 0, .bool false, .int .i64 0, .bool false, .int .i64 0, .bool false] 50 (0, 0))) := t3.other M2.out (by simp; try omega)
    clear t3 s3 T2 S2 N2 M2
    clear hx
    unfold GT.v
    have x13_3 := free_of M3.out 13
    have x14_3 := free_of M3.out 14
    have x15_3 := free_of M3.out 15
    have x16_3 := free_of M3.out 16
    have m13_3 := cell_of M3.out 13
    have m14_3 := cell_of M3.out 14
    have m15_3 := cell_of M3.out 15
    have m16_3 := cell_of M3.out 16
    simp at m13_3 m14_3 m15_3 m16_3
    go_wp2_with (first
      | with_reducible refine stop_load 50 rfl ?_
      | fail)
    generalize hw4 : ((((w3.setCell ⟨MM, 13, none⟩ (.int .i64 gn)).setCell ⟨MM, 14, none⟩ (.bool gz)).setCell ⟨MM, 15, none⟩ (.int .i64 gh)).setCell ⟨MM, 16, none⟩ (.bool gm)) = w4
    have f4 : FinD b v l w w4 (.ok r) := by rw [← hw4]; exact (((((FinD.mk_ T3.out S3.out).set H.out hMb).set H.out hMb).set H.out hMb).set H.out hMb)
    have T4 : Hid (Turn [b] w w4) := f4.1
    have S4 : Hid (DR w4 b v l (.ok r)) := f4.2
    have N4 : Hid (w4.heap[w.heap.size]? = some (.cells #[.int .i64 0, .int .i64 0, .int .i64 0, .bool false, .int .i64 0, .bool false, .int .u64 0, .int .u64 0, .bool false, .bool false, .int .u64 0, .int .u64 0, .bool false, .int .i64 0, .bool false, .int .i64 0, .bool false] 50 (0, 0))) := by rw [← hw4]; exact (heap_other (heap_other (heap_other (heap_other N3.out (by simpa using h01) _) (by simpa using h01) _) (by simpa using h01) _) (by simpa using h01) _)
    have M4 : Hid (w4.heap[MM]? = some (.cells #[.int .i64 3, .int .i64 0, .int .i64 0, .bool false, .int .i64 0, .bool false, .int .u64 0, .int .u64 0, .bool false, .bool false, .int .u64 0, .int .u64 0, .bool false, .int .i64 gn, .bool gz, .int .i64 gh, .bool gm] 50 (0, 0))) := by rw [← hw4]; exact (heap_set (heap_set (heap_set (heap_set M3.out 13 _) 14 _) 15 _) 16 _).trans rfl
    clear hw4 f4 x13_3 m13_3 x14_3 m14_3 x15_3 m15_3 x16_3 m16_3 T3 S3 M3 N3
    unfold Stop
    refine wpList_load_row rfl 50 _ rfl MM rfl 50 #[.int .i64 3, .int .i64 0, .int .i64 0, .bool false, .int .i64 0, .bool false, .int .u64 0, .int .u64 0, .bool false, .bool false, .int .u64 0, .int .u64 0, .bool false, .int .i64 gn, .bool gz, .int .i64 gh, .bool gm] (0, 0) _ M4.out Tryz.underlying50 rfl (by kernel_rfl) ?_
    go_wp2_with (first
      | with_reducible refine stop_store 50 rfl ?_
      | fail)
    unfold Stop
    refine wpList_store_row rfl 50 _ _ rfl w.heap.size #[.int .i64 3, .int .i64 0, .int .i64 0, .bool false, .int .i64 0, .bool false, .int .u64 0, .int .u64 0, .bool false, .bool false, .int .u64 0, .int .u64 0, .bool false, .int .i64 gn, .bool gz, .int .i64 gh, .bool gm] rfl rfl 50 #[.int .i64 0, .int .i64 0, .int .i64 0, .bool false, .int .i64 0, .bool false, .int .u64 0, .int .u64 0, .bool false, .bool false, .int .u64 0, .int .u64 0, .bool false, .int .i64 0, .bool false, .int .i64 0, .bool false] N4.out (by kernel_rfl) rfl (by first | rfl | decide | simp [Value.oneCell']) ?_
    go_wp2_with fail
    refine bodyPost_ret (v := .agg #[.int .i64 3, .int .i64 0, .int .i64 0, .bool false, .int .i64 0, .bool false, .int .u64 0, .int .u64 0, .bool false, .bool false, .int .u64 0, .int .u64 0, .bool false, .int .i64 gn, .bool gz, .int .i64 gh, .bool gm]) ?_ ?_ ?_
    · exact results_cell_row Tryz.results35 _ _ w.heap.size 50 _ (0, 0) _ rfl (heap_setRow N4.out) Tryz.underlying50 rfl (by kernel_rfl)
    · rfl
    exact ⟨rfl, (FinD.mk_ T4.out S4.out).row H.out (Nat.le_refl _) _⟩
set_option maxRecDepth 100000 in
set_option maxHeartbeats 1000000 in
theorem dext_4 {w : World} {b : Nat} {v : Value} {l : List Int} {p q : Nat} (h : DR w b v l (.ok p)) (hs : belowR ((4 : Nat) + 1 : Int) l p = .ok (4, q)) :
    Calls Tryz.prog 35 #[.pointer (some ⟨b, 0, none⟩)] w (DAns XT.v b v l w (extK 4 l q)) := by
  have H : Hid (DR w b v l (.ok p)) := h
  have hb : b < w.heap.size := h.lt
  have hl := h.len
  clear h
  cases hx : belowR ((0 : Nat) + 1 : Int) l q with
  | error y =>
    obtain ⟨f, e⟩ := y
    rw [show extK 4 l q = .error (f, e) by unfold extK tagR; rw [show (1 : Int) = ((0 : Nat) + 1 : Int) from rfl, hx]; rfl]
    have S0 : Hid (DR (w.alloc (.cells #[.int .i64 0, .int .i64 0, .int .i64 0, .bool false, .int .i64 0, .bool false, .int .u64 0, .int .u64 0, .bool false, .bool false, .int .u64 0, .int .u64 0, .bool false, .int .i64 0, .bool false, .int .i64 0, .bool false] 50)) b v l (.ok p)) := H.out.grew ((Grew.refl w).alloc _)
    have T0 : Hid (Turn [b] w (w.alloc (.cells #[.int .i64 0, .int .i64 0, .int .i64 0, .bool false, .int .i64 0, .bool false, .int .u64 0, .int .u64 0, .bool false, .bool false, .int .u64 0, .int .u64 0, .bool false, .int .i64 0, .bool false, .int .i64 0, .bool false] 50))) := (Turn.refl [b] w).alloc _
    have N0 : Hid ((w.alloc (.cells #[.int .i64 0, .int .i64 0, .int .i64 0, .bool false, .int .i64 0, .bool false, .int .u64 0, .int .u64 0, .bool false, .bool false, .int .u64 0, .int .u64 0, .bool false, .int .i64 0, .bool false, .int .i64 0, .bool false] 50)).heap[w.heap.size]? = some (.cells #[.int .i64 0, .int .i64 0, .int .i64 0, .bool false, .int .i64 0, .bool false, .int .u64 0, .int .u64 0, .bool false, .bool false, .int .u64 0, .int .u64 0, .bool false, .int .i64 0, .bool false, .int .i64 0, .bool false] 50 (0, 0))) := heap_alloc_last _ _
    go_enter Tryz.func35, Tryz.ntmps35
    go_wp2_with fail
    refine (Calls.dok (dsmall_any S0.out 4 (by decide)) hs).mono ?_
    rintro en w1 ⟨rfl, t1, s1⟩
    have T1 : Hid (Turn [b] w w1) := T0.out.trans t1
    have S1 : Hid (DR w1 b v l (.ok q)) := s1
    have N1 : Hid (w1.heap[w.heap.size]? = some (.cells #[.int .i64 0, .int .i64 0, .int .i64 0, .bool false, .int .i64 0, .bool false, .int .u64 0, .int .u64 0, .bool false, .bool false, .int .u64 0, .int .u64 0, .bool false, .int .i64 0, .bool false, .int .i64 0, .bool false] 50 (0, 0))) := t1.other N0.out (by simp; try omega)
    clear t1 s1 T0 S0 N0
    clear hs
    have c3_1 := cell_of S1.out.st.1 3
    simp at c3_1
    have hs1 : b < w1.heap.size := S1.out.lt
    have hs2 : ¬ b = w1.heap.size := by omega
    go_wp2_with fail
    generalize hw2 : w1.alloc (.cells #[.int .i64 4, .int .i64 0, .int .i64 0, .bool false, .int .i64 0, .bool false, .int .u64 0, .int .u64 0, .bool false, .bool false, .int .u64 0, .int .u64 0, .bool false, .int .i64 0, .bool false, .int .i64 0, .bool false] 50) = w2
    have g2 : Grew w1 w2 := by rw [← hw2]; exact (Grew.refl _).alloc _
    have T2 : Hid (Turn [b] w w2) := T1.out.trans (g2.turn _)
    have S2 : Hid (DR w2 b v l (.ok q)) := S1.out.grew g2
    have N2 : Hid (w2.heap[w.heap.size]? = some (.cells #[.int .i64 0, .int .i64 0, .int .i64 0, .bool false, .int .i64 0, .bool false, .int .u64 0, .int .u64 0, .bool false, .bool false, .int .u64 0, .int .u64 0, .bool false, .int .i64 0, .bool false, .int .i64 0, .bool false] 50 (0, 0))) := (g2.turn []).other N1.out (by simp)
    have M2 : Hid (w2.heap[w1.heap.size]? = some (.cells #[.int .i64 4, .int .i64 0, .int .i64 0, .bool false, .int .i64 0, .bool false, .int .u64 0, .int .u64 0, .bool false, .bool false, .int .u64 0, .int .u64 0, .bool false, .int .i64 0, .bool false, .int .i64 0, .bool false] 50 (0, 0))) := by rw [← hw2]; exact heap_alloc_last _ _
    have hMs : b < w1.heap.size := S1.out.lt
    have hM1 : ¬ b = w1.heap.size := by omega
    have hMb : w.heap.size ≤ w1.heap.size := T1.out.size
    have hMN : w.heap.size < w1.heap.size := lt_of_obj N1.out
    have h01 : ¬ w.heap.size = w1.heap.size := by omega
    have h10 : ¬ w1.heap.size = w.heap.size := by omega
    clear hw2 g2 T1 S1 N1
    generalize hMM : w1.heap.size = MM at *
    clear hMM
    refine (Calls.der (dsmall_any S2.out 0 (by decide)) hx).mono ?_
    rintro en w3 ⟨⟨y, rfl⟩, t3, s3⟩
    have T3 : Hid (Turn [b] w w3) := T2.out.trans t3
    have S3 : Hid (DR w3 b v l (.error (f, e))) := s3
    have N3 : Hid (w3.heap[w.heap.size]? = some (.cells #[.int .i64 0, .int .i64 0, .int .i64 0, .bool false, .int .i64 0, .bool false, .int .u64 0, .int .u64 0, .bool false, .bool false, .int .u64 0, .int .u64 0, .bool false, .int .i64 0, .bool false, .int .i64 0, .bool false] 50 (0, 0))) := t3.other N2.out (by simp; try omega)
    have M3 : Hid (w3.heap[MM]? = some (.cells #[.int .i64 4, .int .i64 0, .int .i64 0, .bool false, .int .i64 0, .bool false, .int .u64 0, .int .u64 0, .bool false, .bool false, .int .u64 0, .int .u64 0, .bool false, .int .i64 0, .bool false, .int .i64 0, .bool false] 50 (0, 0))) := t3.other M2.out (by simp; try omega)
    clear t3 s3 T2 S2 N2 M2
    go_wp2_with fail
    refine (Calls.der (dtypeAt_any S3.out) rfl).mono ?_
    rintro en w4 ⟨⟨t, rfl⟩, t4, s4⟩
    have T4 : Hid (Turn [b] w w4) := T3.out.trans t4
    have S4 : Hid (DR w4 b v l (.error (f, e))) := s4
    have N4 : Hid (w4.heap[w.heap.size]? = some (.cells #[.int .i64 0, .int .i64 0, .int .i64 0, .bool false, .int .i64 0, .bool false, .int .u64 0, .int .u64 0, .bool false, .bool false, .int .u64 0, .int .u64 0, .bool false, .int .i64 0, .bool false, .int .i64 0, .bool false] 50 (0, 0))) := t4.other N3.out (by simp; try omega)
    have M4 : Hid (w4.heap[MM]? = some (.cells #[.int .i64 4, .int .i64 0, .int .i64 0, .bool false, .int .i64 0, .bool false, .int .u64 0, .int .u64 0, .bool false, .bool false, .int .u64 0, .int .u64 0, .bool false, .int .i64 0, .bool false, .int .i64 0, .bool false] 50 (0, 0))) := t4.other M3.out (by simp; try omega)
    clear t4 s4 T3 S3 N3 M3
    clear hx
    have x1_4 := free_of M4.out 1
    have m1_4 := cell_of M4.out 1
    simp at m1_4
    go_wp2_with (first
      | with_reducible refine stop_load 50 rfl ?_
      | fail)
    generalize hw5 : (w4.setCell ⟨MM, 1, none⟩ (.int .i64 t)) = w5
    have f5 : FinD b v l w w5 (.error (f, e)) := by rw [← hw5]; exact ((FinD.mk_ T4.out S4.out).set H.out hMb)
    have T5 : Hid (Turn [b] w w5) := f5.1
    have S5 : Hid (DR w5 b v l (.error (f, e))) := f5.2
    have N5 : Hid (w5.heap[w.heap.size]? = some (.cells #[.int .i64 0, .int .i64 0, .int .i64 0, .bool false, .int .i64 0, .bool false, .int .u64 0, .int .u64 0, .bool false, .bool false, .int .u64 0, .int .u64 0, .bool false, .int .i64 0, .bool false, .int .i64 0, .bool false] 50 (0, 0))) := by rw [← hw5]; exact (heap_other N4.out (by simpa using h01) _)
    have M5 : Hid (w5.heap[MM]? = some (.cells #[.int .i64 4, .int .i64 t, .int .i64 0, .bool false, .int .i64 0, .bool false, .int .u64 0, .int .u64 0, .bool false, .bool false, .int .u64 0, .int .u64 0, .bool false, .int .i64 0, .bool false, .int .i64 0, .bool false] 50 (0, 0))) := by rw [← hw5]; exact (heap_set M4.out 1 _).trans rfl
    clear hw5 f5 x1_4 m1_4 T4 S4 M4 N4
    unfold Stop
    refine wpList_load_row rfl 50 _ rfl MM rfl 50 #[.int .i64 4, .int .i64 t, .int .i64 0, .bool false, .int .i64 0, .bool false, .int .u64 0, .int .u64 0, .bool false, .bool false, .int .u64 0, .int .u64 0, .bool false, .int .i64 0, .bool false, .int .i64 0, .bool false] (0, 0) _ M5.out Tryz.underlying50 rfl (by kernel_rfl) ?_
    go_wp2_with (first
      | with_reducible refine stop_store 50 rfl ?_
      | fail)
    unfold Stop
    refine wpList_store_row rfl 50 _ _ rfl w.heap.size #[.int .i64 4, .int .i64 t, .int .i64 0, .bool false, .int .i64 0, .bool false, .int .u64 0, .int .u64 0, .bool false, .bool false, .int .u64 0, .int .u64 0, .bool false, .int .i64 0, .bool false, .int .i64 0, .bool false] rfl rfl 50 #[.int .i64 0, .int .i64 0, .int .i64 0, .bool false, .int .i64 0, .bool false, .int .u64 0, .int .u64 0, .bool false, .bool false, .int .u64 0, .int .u64 0, .bool false, .int .i64 0, .bool false, .int .i64 0, .bool false] N5.out (by kernel_rfl) rfl (by first | rfl | decide | simp [Value.oneCell']) ?_
    go_wp2_with fail
    refine bodyPost_ret (v := .agg #[.int .i64 4, .int .i64 t, .int .i64 0, .bool false, .int .i64 0, .bool false, .int .u64 0, .int .u64 0, .bool false, .bool false, .int .u64 0, .int .u64 0, .bool false, .int .i64 0, .bool false, .int .i64 0, .bool false]) ?_ ?_ ?_
    · exact results_cell_row Tryz.results35 _ _ w.heap.size 50 _ (0, 0) _ rfl (heap_setRow N5.out) Tryz.underlying50 rfl (by kernel_rfl)
    · rfl
    exact ⟨⟨⟨4, t, T0_, L0, G0_⟩, rfl⟩, (FinD.mk_ T5.out S5.out).row H.out (Nat.le_refl _) _⟩
  | ok y =>
    obtain ⟨c, u⟩ := y
    cases hy : tyU l u with
    | error y =>
      obtain ⟨f, e⟩ := y
      rw [show extK 4 l q = .error (f, e) by unfold extK tagR; rw [show (1 : Int) = ((0 : Nat) + 1 : Int) from rfl, hx]; simp only [thenR, hy]; rfl]
      have S0 : Hid (DR (w.alloc (.cells #[.int .i64 0, .int .i64 0, .int .i64 0, .bool false, .int .i64 0, .bool false, .int .u64 0, .int .u64 0, .bool false, .bool false, .int .u64 0, .int .u64 0, .bool false, .int .i64 0, .bool false, .int .i64 0, .bool false] 50)) b v l (.ok p)) := H.out.grew ((Grew.refl w).alloc _)
      have T0 : Hid (Turn [b] w (w.alloc (.cells #[.int .i64 0, .int .i64 0, .int .i64 0, .bool false, .int .i64 0, .bool false, .int .u64 0, .int .u64 0, .bool false, .bool false, .int .u64 0, .int .u64 0, .bool false, .int .i64 0, .bool false, .int .i64 0, .bool false] 50))) := (Turn.refl [b] w).alloc _
      have N0 : Hid ((w.alloc (.cells #[.int .i64 0, .int .i64 0, .int .i64 0, .bool false, .int .i64 0, .bool false, .int .u64 0, .int .u64 0, .bool false, .bool false, .int .u64 0, .int .u64 0, .bool false, .int .i64 0, .bool false, .int .i64 0, .bool false] 50)).heap[w.heap.size]? = some (.cells #[.int .i64 0, .int .i64 0, .int .i64 0, .bool false, .int .i64 0, .bool false, .int .u64 0, .int .u64 0, .bool false, .bool false, .int .u64 0, .int .u64 0, .bool false, .int .i64 0, .bool false, .int .i64 0, .bool false] 50 (0, 0))) := heap_alloc_last _ _
      go_enter Tryz.func35, Tryz.ntmps35
      go_wp2_with fail
      refine (Calls.dok (dsmall_any S0.out 4 (by decide)) hs).mono ?_
      rintro en w1 ⟨rfl, t1, s1⟩
      have T1 : Hid (Turn [b] w w1) := T0.out.trans t1
      have S1 : Hid (DR w1 b v l (.ok q)) := s1
      have N1 : Hid (w1.heap[w.heap.size]? = some (.cells #[.int .i64 0, .int .i64 0, .int .i64 0, .bool false, .int .i64 0, .bool false, .int .u64 0, .int .u64 0, .bool false, .bool false, .int .u64 0, .int .u64 0, .bool false, .int .i64 0, .bool false, .int .i64 0, .bool false] 50 (0, 0))) := t1.other N0.out (by simp; try omega)
      clear t1 s1 T0 S0 N0
      clear hs
      have c3_1 := cell_of S1.out.st.1 3
      simp at c3_1
      have hs1 : b < w1.heap.size := S1.out.lt
      have hs2 : ¬ b = w1.heap.size := by omega
      go_wp2_with fail
      generalize hw2 : w1.alloc (.cells #[.int .i64 4, .int .i64 0, .int .i64 0, .bool false, .int .i64 0, .bool false, .int .u64 0, .int .u64 0, .bool false, .bool false, .int .u64 0, .int .u64 0, .bool false, .int .i64 0, .bool false, .int .i64 0, .bool false] 50) = w2
      have g2 : Grew w1 w2 := by rw [← hw2]; exact (Grew.refl _).alloc _
      have T2 : Hid (Turn [b] w w2) := T1.out.trans (g2.turn _)
      have S2 : Hid (DR w2 b v l (.ok q)) := S1.out.grew g2
      have N2 : Hid (w2.heap[w.heap.size]? = some (.cells #[.int .i64 0, .int .i64 0, .int .i64 0, .bool false, .int .i64 0, .bool false, .int .u64 0, .int .u64 0, .bool false, .bool false, .int .u64 0, .int .u64 0, .bool false, .int .i64 0, .bool false, .int .i64 0, .bool false] 50 (0, 0))) := (g2.turn []).other N1.out (by simp)
      have M2 : Hid (w2.heap[w1.heap.size]? = some (.cells #[.int .i64 4, .int .i64 0, .int .i64 0, .bool false, .int .i64 0, .bool false, .int .u64 0, .int .u64 0, .bool false, .bool false, .int .u64 0, .int .u64 0, .bool false, .int .i64 0, .bool false, .int .i64 0, .bool false] 50 (0, 0))) := by rw [← hw2]; exact heap_alloc_last _ _
      have hMs : b < w1.heap.size := S1.out.lt
      have hM1 : ¬ b = w1.heap.size := by omega
      have hMb : w.heap.size ≤ w1.heap.size := T1.out.size
      have hMN : w.heap.size < w1.heap.size := lt_of_obj N1.out
      have h01 : ¬ w.heap.size = w1.heap.size := by omega
      have h10 : ¬ w1.heap.size = w.heap.size := by omega
      clear hw2 g2 T1 S1 N1
      generalize hMM : w1.heap.size = MM at *
      clear hMM
      refine (Calls.dok (dsmall_any S2.out 0 (by decide)) hx).mono ?_
      rintro en w3 ⟨rfl, t3, s3⟩
      have T3 : Hid (Turn [b] w w3) := T2.out.trans t3
      have S3 : Hid (DR w3 b v l (.ok u)) := s3
      have N3 : Hid (w3.heap[w.heap.size]? = some (.cells #[.int .i64 0, .int .i64 0, .int .i64 0, .bool false, .int .i64 0, .bool false, .int .u64 0, .int .u64 0, .bool false, .bool false, .int .u64 0, .int .u64 0, .bool false, .int .i64 0, .bool false, .int .i64 0, .bool false] 50 (0, 0))) := t3.other N2.out (by simp; try omega)
      have M3 : Hid (w3.heap[MM]? = some (.cells #[.int .i64 4, .int .i64 0, .int .i64 0, .bool false, .int .i64 0, .bool false, .int .u64 0, .int .u64 0, .bool false, .bool false, .int .u64 0, .int .u64 0, .bool false, .int .i64 0, .bool false, .int .i64 0, .bool false] 50 (0, 0))) := t3.other M2.out (by simp; try omega)
      clear t3 s3 T2 S2 N2 M2
      go_wp2_with fail
      refine (Calls.der (dtypeAt_any S3.out) hy).mono ?_
      rintro en w4 ⟨⟨t, rfl⟩, t4, s4⟩
      have T4 : Hid (Turn [b] w w4) := T3.out.trans t4
      have S4 : Hid (DR w4 b v l (.error (f, e))) := s4
      have N4 : Hid (w4.heap[w.heap.size]? = some (.cells #[.int .i64 0, .int .i64 0, .int .i64 0, .bool false, .int .i64 0, .bool false, .int .u64 0, .int .u64 0, .bool false, .bool false, .int .u64 0, .int .u64 0, .bool false, .int .i64 0, .bool false, .int .i64 0, .bool false] 50 (0, 0))) := t4.other N3.out (by simp; try omega)
      have M4 : Hid (w4.heap[MM]? = some (.cells #[.int .i64 4, .int .i64 0, .int .i64 0, .bool false, .int .i64 0, .bool false, .int .u64 0, .int .u64 0, .bool false, .bool false, .int .u64 0, .int .u64 0, .bool false, .int .i64 0, .bool false, .int .i64 0, .bool false] 50 (0, 0))) := t4.other M3.out (by simp; try omega)
      clear t4 s4 T3 S3 N3 M3
      clear hx hy
      have x1_4 := free_of M4.out 1
      have m1_4 := cell_of M4.out 1
      simp at m1_4
      go_wp2_with (first
        | with_reducible refine stop_load 50 rfl ?_
        | fail)
      generalize hw5 : (w4.setCell ⟨MM, 1, none⟩ (.int .i64 t)) = w5
      have f5 : FinD b v l w w5 (.error (f, e)) := by rw [← hw5]; exact ((FinD.mk_ T4.out S4.out).set H.out hMb)
      have T5 : Hid (Turn [b] w w5) := f5.1
      have S5 : Hid (DR w5 b v l (.error (f, e))) := f5.2
      have N5 : Hid (w5.heap[w.heap.size]? = some (.cells #[.int .i64 0, .int .i64 0, .int .i64 0, .bool false, .int .i64 0, .bool false, .int .u64 0, .int .u64 0, .bool false, .bool false, .int .u64 0, .int .u64 0, .bool false, .int .i64 0, .bool false, .int .i64 0, .bool false] 50 (0, 0))) := by rw [← hw5]; exact (heap_other N4.out (by simpa using h01) _)
      have M5 : Hid (w5.heap[MM]? = some (.cells #[.int .i64 4, .int .i64 t, .int .i64 0, .bool false, .int .i64 0, .bool false, .int .u64 0, .int .u64 0, .bool false, .bool false, .int .u64 0, .int .u64 0, .bool false, .int .i64 0, .bool false, .int .i64 0, .bool false] 50 (0, 0))) := by rw [← hw5]; exact (heap_set M4.out 1 _).trans rfl
      clear hw5 f5 x1_4 m1_4 T4 S4 M4 N4
      unfold Stop
      refine wpList_load_row rfl 50 _ rfl MM rfl 50 #[.int .i64 4, .int .i64 t, .int .i64 0, .bool false, .int .i64 0, .bool false, .int .u64 0, .int .u64 0, .bool false, .bool false, .int .u64 0, .int .u64 0, .bool false, .int .i64 0, .bool false, .int .i64 0, .bool false] (0, 0) _ M5.out Tryz.underlying50 rfl (by kernel_rfl) ?_
      go_wp2_with (first
        | with_reducible refine stop_store 50 rfl ?_
        | fail)
      unfold Stop
      refine wpList_store_row rfl 50 _ _ rfl w.heap.size #[.int .i64 4, .int .i64 t, .int .i64 0, .bool false, .int .i64 0, .bool false, .int .u64 0, .int .u64 0, .bool false, .bool false, .int .u64 0, .int .u64 0, .bool false, .int .i64 0, .bool false, .int .i64 0, .bool false] rfl rfl 50 #[.int .i64 0, .int .i64 0, .int .i64 0, .bool false, .int .i64 0, .bool false, .int .u64 0, .int .u64 0, .bool false, .bool false, .int .u64 0, .int .u64 0, .bool false, .int .i64 0, .bool false, .int .i64 0, .bool false] N5.out (by kernel_rfl) rfl (by first | rfl | decide | simp [Value.oneCell']) ?_
      go_wp2_with fail
      refine bodyPost_ret (v := .agg #[.int .i64 4, .int .i64 t, .int .i64 0, .bool false, .int .i64 0, .bool false, .int .u64 0, .int .u64 0, .bool false, .bool false, .int .u64 0, .int .u64 0, .bool false, .int .i64 0, .bool false, .int .i64 0, .bool false]) ?_ ?_ ?_
      · exact results_cell_row Tryz.results35 _ _ w.heap.size 50 _ (0, 0) _ rfl (heap_setRow N5.out) Tryz.underlying50 rfl (by kernel_rfl)
      · rfl
      exact ⟨⟨⟨4, t, T0_, L0, G0_⟩, rfl⟩, (FinD.mk_ T5.out S5.out).row H.out (Nat.le_refl _) _⟩
    | ok y =>
      obtain ⟨t, r⟩ := y
      rw [show extK 4 l q = .ok (⟨4, t, T0_, L0, G0_⟩, r) by unfold extK tagR; rw [show (1 : Int) = ((0 : Nat) + 1 : Int) from rfl, hx]; simp only [thenR, hy]; rfl]
      have S0 : Hid (DR (w.alloc (.cells #[.int .i64 0, .int .i64 0, .int .i64 0, .bool false, .int .i64 0, .bool false, .int .u64 0, .int .u64 0, .bool false, .bool false, .int .u64 0, .int .u64 0, .bool false, .int .i64 0, .bool false, .int .i64 0, .bool false] 50)) b v l (.ok p)) := H.out.grew ((Grew.refl w).alloc _)
      have T0 : Hid (Turn [b] w (w.alloc (.cells #[.int .i64 0, .int .i64 0, .int .i64 0, .bool false, .int .i64 0, .bool false, .int .u64 0, .int .u64 0, .bool false, .bool false, .int .u64 0, .int .u64 0, .bool false, .int .i64 0, .bool false, .int .i64 0, .bool false] 50))) := (Turn.refl [b] w).alloc _
      have N0 : Hid ((w.alloc (.cells #[.int .i64 0, .int .i64 0, .int .i64 0, .bool false, .int .i64 0, .bool false, .int .u64 0, .int .u64 0, .bool false, .bool false, .int .u64 0, .int .u64 0, .bool false, .int .i64 0, .bool false, .int .i64 0, .bool false] 50)).heap[w.heap.size]? = some (.cells #[.int .i64 0, .int .i64 0, .int .i64 0, .bool false, .int .i64 0, .bool false, .int .u64 0, .int .u64 0, .bool false, .bool false, .int .u64 0, .int .u64 0, .bool false, .int .i64 0, .bool false, .int .i64 0, .bool false] 50 (0, 0))) := heap_alloc_last _ _
      go_enter Tryz.func35, Tryz.ntmps35
      go_wp2_with fail
      refine (Calls.dok (dsmall_any S0.out 4 (by decide)) hs).mono ?_
      rintro en w1 ⟨rfl, t1, s1⟩
      have T1 : Hid (Turn [b] w w1) := T0.out.trans t1
      have S1 : Hid (DR w1 b v l (.ok q)) := s1
      have N1 : Hid (w1.heap[w.heap.size]? = some (.cells #[.int .i64 0, .int .i64 0, .int .i64 0, .bool false, .int .i64 0, .bool false, .int .u64 0, .int .u64 0, .bool false, .bool false, .int .u64 0, .int .u64 0, .bool false, .int .i64 0, .bool false, .int .i64 0, .bool false] 50 (0, 0))) := t1.other N0.out (by simp; try omega)
      clear t1 s1 T0 S0 N0
      clear hs
      have c3_1 := cell_of S1.out.st.1 3
      simp at c3_1
      have hs1 : b < w1.heap.size := S1.out.lt
      have hs2 : ¬ b = w1.heap.size := by omega
      go_wp2_with fail
      generalize hw2 : w1.alloc (.cells #[.int .i64 4, .int .i64 0, .int .i64 0, .bool false, .int .i64 0, .bool false, .int .u64 0, .int .u64 0, .bool false, .bool false, .int .u64 0, .int .u64 0, .bool false, .int .i64 0, .bool false, .int .i64 0, .bool false] 50) = w2
      have g2 : Grew w1 w2 := by rw [← hw2]; exact (Grew.refl _).alloc _
      have T2 : Hid (Turn [b] w w2) := T1.out.trans (g2.turn _)
      have S2 : Hid (DR w2 b v l (.ok q)) := S1.out.grew g2
      have N2 : Hid (w2.heap[w.heap.size]? = some (.cells #[.int .i64 0, .int .i64 0, .int .i64 0, .bool false, .int .i64 0, .bool false, .int .u64 0, .int .u64 0, .bool false, .bool false, .int .u64 0, .int .u64 0, .bool false, .int .i64 0, .bool false, .int .i64 0, .bool false] 50 (0, 0))) := (g2.turn []).other N1.out (by simp)
      have M2 : Hid (w2.heap[w1.heap.size]? = some (.cells #[.int .i64 4, .int .i64 0, .int .i64 0, .bool false, .int .i64 0, .bool false, .int .u64 0, .int .u64 0, .bool false, .bool false, .int .u64 0, .int .u64 0, .bool false, .int .i64 0, .bool false, .int .i64 0, .bool false] 50 (0, 0))) := by rw [← hw2]; exact heap_alloc_last _ _
      have hMs : b < w1.heap.size := S1.out.lt
      have hM1 : ¬ b = w1.heap.size := by omega
      have hMb : w.heap.size ≤ w1.heap.size := T1.out.size
      have hMN : w.heap.size < w1.heap.size := lt_of_obj N1.out
      have h01 : ¬ w.heap.size = w1.heap.size := by omega
      have h10 : ¬ w1.heap.size = w.heap.size := by omega
      clear hw2 g2 T1 S1 N1
      generalize hMM : w1.heap.size = MM at *
      clear hMM
      refine (Calls.dok (dsmall_any S2.out 0 (by decide)) hx).mono ?_
      rintro en w3 ⟨rfl, t3, s3⟩
      have T3 : Hid (Turn [b] w w3) := T2.out.trans t3
      have S3 : Hid (DR w3 b v l (.ok u)) := s3
      have N3 : Hid (w3.heap[w.heap.size]? = some (.cells #[.int .i64 0, .int .i64 0, .int .i64 0, .bool false, .int .i64 0, .bool false, .int .u64 0, .int .u64 0, .bool false, .bool false, .int .u64 0, .int .u64 0, .bool false, .int .i64 0, .bool false, .int .i64 0, .bool false] 50 (0, 0))) := t3.other N2.out (by simp; try omega)
      have M3 : Hid (w3.heap[MM]? = some (.cells #[.int .i64 4, .int .i64 0, .int .i64 0, .bool false, .int .i64 0, .bool false, .int .u64 0, .int .u64 0, .bool false, .bool false, .int .u64 0, .int .u64 0, .bool false, .int .i64 0, .bool false, .int .i64 0, .bool false] 50 (0, 0))) := t3.other M2.out (by simp; try omega)
      clear t3 s3 T2 S2 N2 M2
      go_wp2_with fail
      refine (Calls.dok (dtypeAt_any S3.out) hy).mono ?_
      rintro en w4 ⟨rfl, t4, s4⟩
      have T4 : Hid (Turn [b] w w4) := T3.out.trans t4
      have S4 : Hid (DR w4 b v l (.ok r)) := s4
      have N4 : Hid (w4.heap[w.heap.size]? = some (.cells #[.int .i64 0, .int .i64 0, .int .i64 0, .bool false, .int .i64 0, .bool false, .int .u64 0, .int .u64 0, .bool false, .bool false, .int .u64 0, .int .u64 0, .bool false, .int .i64 0, .bool false, .int .i64 0, .bool false] 50 (0, 0))) := t4.other N3.out (by simp; try omega)
      have M4 : Hid (w4.heap[MM]? = some (.cells #[.int .i64 4, .int .i64 0, .int .i64 0, .bool false, .int .i64 0, .bool false, .int .u64 0, .int .u64 0, .bool false, .bool false, .int .u64 0, .int .u64 0, .bool false, .int .i64 0, .bool false, .int .i64 0, .bool false] 50 (0, 0))) := t4.other M3.out (by simp; try omega)
      clear t4 s4 T3 S3 N3 M3
      clear hx hy
      have x1_4 := free_of M4.out 1
      have m1_4 := cell_of M4.out 1
      simp at m1_4
      go_wp2_with (first
        | with_reducible refine stop_load 50 rfl ?_
        | fail)
      generalize hw5 : (w4.setCell ⟨MM, 1, none⟩ (.int .i64 t)) = w5
      have f5 : FinD b v l w w5 (.ok r) := by rw [← hw5]; exact ((FinD.mk_ T4.out S4.out).set H.out hMb)
      have T5 : Hid (Turn [b] w w5) := f5.1
      have S5 : Hid (DR w5 b v l (.ok r)) := f5.2
      have N5 : Hid (w5.heap[w.heap.size]? = some (.cells #[.int .i64 0, .int .i64 0, .int .i64 0, .bool false, .int .i64 0, .bool false, .int .u64 0, .int .u64 0, .bool false, .bool false, .int .u64 0, .int .u64 0, .bool false, .int .i64 0, .bool false, .int .i64 0, .bool false] 50 (0, 0))) := by rw [← hw5]; exact (heap_other N4.out (by simpa using h01) _)
      have M5 : Hid (w5.heap[MM]? = some (.cells #[.int .i64 4, .int .i64 t, .int .i64 0, .bool false, .int .i64 0, .bool false, .int .u64 0, .int .u64 0, .bool false, .bool false, .int .u64 0, .int .u64 0, .bool false, .int .i64 0, .bool false, .int .i64 0, .bool false] 50 (0, 0))) := by rw [← hw5]; exact (heap_set M4.out 1 _).trans rfl
      clear hw5 f5 x1_4 m1_4 T4 S4 M4 N4
      unfold Stop
      refine wpList_load_row rfl 50 _ rfl MM rfl 50 #[.int .i64 4, .int .i64 t, .int .i64 0, .bool false, .int .i64 0, .bool false, .int .u64 0, .int .u64 0, .bool false, .bool false, .int .u64 0, .int .u64 0, .bool false, .int .i64 0, .bool false, .int .i64 0, .bool false] (0, 0) _ M5.out Tryz.underlying50 rfl (by kernel_rfl) ?_
      go_wp2_with (first
        | with_reducible refine stop_store 50 rfl ?_
        | fail)
      unfold Stop
      refine wpList_store_row rfl 50 _ _ rfl w.heap.size #[.int .i64 4, .int .i64 t, .int .i64 0, .bool false, .int .i64 0, .bool false, .int .u64 0, .int .u64 0, .bool false, .bool false, .int .u64 0, .int .u64 0, .bool false, .int .i64 0, .bool false, .int .i64 0, .bool false] rfl rfl 50 #[.int .i64 0, .int .i64 0, .int .i64 0, .bool false, .int .i64 0, .bool false, .int .u64 0, .int .u64 0, .bool false, .bool false, .int .u64 0, .int .u64 0, .bool false, .int .i64 0, .bool false, .int .i64 0, .bool false] N5.out (by kernel_rfl) rfl (by first | rfl | decide | simp [Value.oneCell']) ?_
      go_wp2_with fail
      refine bodyPost_ret (v := .agg #[.int .i64 4, .int .i64 t, .int .i64 0, .bool false, .int .i64 0, .bool false, .int .u64 0, .int .u64 0, .bool false, .bool false, .int .u64 0, .int .u64 0, .bool false, .int .i64 0, .bool false, .int .i64 0, .bool false]) ?_ ?_ ?_
      · exact results_cell_row Tryz.results35 _ _ w.heap.size 50 _ (0, 0) _ rfl (heap_setRow N5.out) Tryz.underlying50 rfl (by kernel_rfl)
      · rfl
      exact ⟨rfl, (FinD.mk_ T5.out S5.out).row H.out (Nat.le_refl _) _⟩
set_option maxRecDepth 100000 in
set_option maxHeartbeats 1000000 in
theorem dext_er {w : World} {b : Nat} {v : Value} {l : List Int} {p : Nat} (h : DR w b v l (.ok p)) (f e : Nat) (hs : belowR ((4 : Nat) + 1 : Int) l p = .error (f, e)) :
    Calls Tryz.prog 35 #[.pointer (some ⟨b, 0, none⟩)] w (DAns XT.v b v l w (.error (f, e))) := by
  have H : Hid (DR w b v l (.ok p)) := h
  have hb : b < w.heap.size := h.lt
  have hl := h.len
  clear h
  have S0 : Hid (DR (w.alloc (.cells #[.int .i64 0, .int .i64 0, .int .i64 0, .bool false, .int .i64 0, .bool false, .int .u64 0, .int .u64 0, .bool false, .bool false, .int .u64 0, .int .u64 0, .bool false, .int .i64 0, .bool false, .int .i64 0, .bool false] 50)) b v l (.ok p)) := H.out.grew ((Grew.refl w).alloc _)
  have T0 : Hid (Turn [b] w (w.alloc (.cells #[.int .i64 0, .int .i64 0, .int .i64 0, .bool false, .int .i64 0, .bool false, .int .u64 0, .int .u64 0, .bool false, .bool false, .int .u64 0, .int .u64 0, .bool false, .int .i64 0, .bool false, .int .i64 0, .bool false] 50))) := (Turn.refl [b] w).alloc _
  have N0 : Hid ((w.alloc (.cells #[.int .i64 0, .int .i64 0, .int .i64 0, .bool false, .int .i64 0, .bool false, .int .u64 0, .int .u64 0, .bool false, .bool false, .int .u64 0, .int .u64 0, .bool false, .int .i64 0, .bool false, .int .i64 0, .bool false] 50)).heap[w.heap.size]? = some (.cells #[.int .i64 0, .int .i64 0, .int .i64 0, .bool false, .int .i64 0, .bool false, .int .u64 0, .int .u64 0, .bool false, .bool false, .int .u64 0, .int .u64 0, .bool false, .int .i64 0, .bool false, .int .i64 0, .bool false] 50 (0, 0))) := heap_alloc_last _ _
  go_enter Tryz.func35, Tryz.ntmps35
  go_wp2_with fail
  refine (Calls.der (dsmall_any S0.out 4 (by decide)) hs).mono ?_
  rintro en w1 ⟨⟨c, rfl⟩, t1, s1⟩
  have T1 : Hid (Turn [b] w w1) := T0.out.trans t1
  have S1 : Hid (DR w1 b v l (.error (f, e))) := s1
  have N1 : Hid (w1.heap[w.heap.size]? = some (.cells #[.int .i64 0, .int .i64 0, .int .i64 0, .bool false, .int .i64 0, .bool false, .int .u64 0, .int .u64 0, .bool false, .bool false, .int .u64 0, .int .u64 0, .bool false, .int .i64 0, .bool false, .int .i64 0, .bool false] 50 (0, 0))) := t1.other N0.out (by simp; try omega)
  clear t1 s1 T0 S0 N0
  clear hs
  obtain ⟨a1, o1, ha1, he1⟩ := S1.out.st
  have c3_1 := cell_of o1 3
  simp at c3_1
  have dn1 : ((e : Int) != 0) = true := by first | (simp; done) | (simp; omega)
  have de1 : ((e : Int) == 0) = false := by first | (simp; done) | (simp; omega)
  clear o1
  have hs1 : b < w1.heap.size := S1.out.lt
  have hs2 : ¬ b = w1.heap.size := by omega
  go_wp2_with (first
    | with_reducible refine stop_load 50 rfl ?_
    | fail)
  generalize hw2 : w1.alloc (.cells #[.int .i64 (wrap64 c), .int .i64 0, .int .i64 0, .bool false, .int .i64 0, .bool false, .int .u64 0, .int .u64 0, .bool false, .bool false, .int .u64 0, .int .u64 0, .bool false, .int .i64 0, .bool false, .int .i64 0, .bool false] 50) = w2
  have g2 : Grew w1 w2 := by rw [← hw2]; exact (Grew.refl _).alloc _
  have T2 : Hid (Turn [b] w w2) := T1.out.trans (g2.turn _)
  have S2 : Hid (DR w2 b v l (.error (f, e))) := S1.out.grew g2
  have N2 : Hid (w2.heap[w.heap.size]? = some (.cells #[.int .i64 0, .int .i64 0, .int .i64 0, .bool false, .int .i64 0, .bool false, .int .u64 0, .int .u64 0, .bool false, .bool false, .int .u64 0, .int .u64 0, .bool false, .int .i64 0, .bool false, .int .i64 0, .bool false] 50 (0, 0))) := (g2.turn []).other N1.out (by simp)
  have M2 : Hid (w2.heap[w1.heap.size]? = some (.cells #[.int .i64 (wrap64 c), .int .i64 0, .int .i64 0, .bool false, .int .i64 0, .bool false, .int .u64 0, .int .u64 0, .bool false, .bool false, .int .u64 0, .int .u64 0, .bool false, .int .i64 0, .bool false, .int .i64 0, .bool false] 50 (0, 0))) := by rw [← hw2]; exact heap_alloc_last _ _
  have hMs : b < w1.heap.size := S1.out.lt
  have hM1 : ¬ b = w1.heap.size := by omega
  have hMb : w.heap.size ≤ w1.heap.size := T1.out.size
  have hMN : w.heap.size < w1.heap.size := lt_of_obj N1.out
  have h01 : ¬ w.heap.size = w1.heap.size := by omega
  have h10 : ¬ w1.heap.size = w.heap.size := by omega
  clear hw2 g2 T1 S1 N1
  generalize hMM : w1.heap.size = MM at *
  clear hMM
  unfold Stop
  refine wpList_load_row rfl 50 _ rfl MM rfl 50 #[.int .i64 (wrap64 c), .int .i64 0, .int .i64 0, .bool false, .int .i64 0, .bool false, .int .u64 0, .int .u64 0, .bool false, .bool false, .int .u64 0, .int .u64 0, .bool false, .int .i64 0, .bool false, .int .i64 0, .bool false] (0, 0) _ M2.out Tryz.underlying50 rfl (by kernel_rfl) ?_
  go_wp2_with (first
    | with_reducible refine stop_store 50 rfl ?_
    | fail)
  unfold Stop
  refine wpList_store_row rfl 50 _ _ rfl w.heap.size #[.int .i64 (wrap64 c), .int .i64 0, .int .i64 0, .bool false, .int .i64 0, .bool false, .int .u64 0, .int .u64 0, .bool false, .bool false, .int .u64 0, .int .u64 0, .bool false, .int .i64 0, .bool false, .int .i64 0, .bool false] rfl rfl 50 #[.int .i64 0, .int .i64 0, .int .i64 0, .bool false, .int .i64 0, .bool false, .int .u64 0, .int .u64 0, .bool false, .bool false, .int .u64 0, .int .u64 0, .bool false, .int .i64 0, .bool false, .int .i64 0, .bool false] N2.out (by kernel_rfl) rfl (by first | rfl | decide | simp [Value.oneCell']) ?_
  go_wp2_with fail
  refine bodyPost_ret (v := .agg #[.int .i64 (wrap64 c), .int .i64 0, .int .i64 0, .bool false, .int .i64 0, .bool false, .int .u64 0, .int .u64 0, .bool false, .bool false, .int .u64 0, .int .u64 0, .bool false, .int .i64 0, .bool false, .int .i64 0, .bool false]) ?_ ?_ ?_
  · exact results_cell_row Tryz.results35 _ _ w.heap.size 50 _ (0, 0) _ rfl (heap_setRow N2.out) Tryz.underlying50 rfl (by kernel_rfl)
  · rfl
  exact ⟨⟨⟨wrap64 c, 0, T0_, L0, G0_⟩, rfl⟩, (FinD.mk_ T2.out S2.out).row H.out (Nat.le_refl _) _⟩
theorem dextern_ok {w : World} {b : Nat} {v : Value} {l : List Int} {p : Nat} (h : DR w b v l (.ok p)) :
    Calls Tryz.prog 35 #[.pointer (some ⟨b, 0, none⟩)] w (DAns XT.v b v l w (extR l p)) := by
  unfold extR kindR
  rw [show (5 : Int) = ((4 : Nat) + 1 : Int) from rfl]
  cases hs : belowR ((4 : Nat) + 1 : Int) l p with
  | error y =>
    obtain ⟨f, e⟩ := y
    exact dext_er h f e hs
  | ok y =>
    obtain ⟨c, q⟩ := y
    have hbd := belowR_lt h.byt hs
    simp only [thenR]
    obtain rfl | rfl | rfl | rfl | rfl : c = 0 ∨ c = 1 ∨ c = 2 ∨ c = 3 ∨ c = 4 := by omega
    · exact dext_0 h hs
    · exact dext_1 h hs
    · exact dext_2 h hs
    · exact dext_3 h hs
    · exact dext_4 h hs
end Go.Proofs.YtemaeigfhmnapaaGreatDoor
