/-
  The document's reading: the walk of limits; no statement is proved here.
-/
import Derived.Test.YtemaeigfhmnapaaGreatDoorDFl2
import Derived.Test.YtemaeigfhmnapaaGreatDoorCurL
namespace Go.Proofs.YtemaeigfhmnapaaGreatDoor
open Go.RowKit
set_option linter.unusedVariables false
set_option linter.unusedSimpArgs false
set_option linter.constructorNameAsVariable false

theorem dbound_any {w : World} {b : Nat} {v : Value} {l : List Int} {st : Except (Nat × Nat) Nat} (wide : Bool) (n : Int) (hn : n = if wide = true then 64 else 32) (h : DR w b v l st) :
    Calls Tryz.prog 38 #[.pointer (some ⟨b, 0, none⟩), .int .i64 n, .bool false] w (DAns (fun n => .int .u64 n) b v l w (runR (boundR wide l) st)) := by
  cases wide with
  | true => subst hn; exact dnumW_any h
  | false => subst hn; exact dnumU_any h
theorem belowR_is {e : Int} {l : List Int} {p : Nat} {c : Int} {q : Nat} (h : belowR e l p = .ok (c, q)) : p < l.length ∧ l.getD p 0 = c ∧ q = p + 1 := by
  unfold belowR atR at h
  split at h
  · dsimp only at h
    split at h
    · cases h
    · simp only [Except.ok.injEq, Prod.mk.injEq] at h
      omega
  · cases h
set_option maxRecDepth 100000 in
set_option maxHeartbeats 1000000 in
theorem dlim_er {w : World} {b : Nat} {v : Value} {l : List Int} {p : Nat} (h : DR w b v l (.ok p)) (f e : Nat) (hs : belowR ((5 : Nat) + 1 : Int) l p = .error (f, e)) :
    Calls Tryz.prog 20 #[.pointer (some ⟨b, 0, none⟩)] w (DAns LM.v b v l w (.error (f, e))) := by
  have H : Hid (DR w b v l (.ok p)) := h
  have hb : b < w.heap.size := h.lt
  have hl := h.len
  have c1_0 := cell_of h.st.1 1
  simp at c1_0
  clear h
  have S0 : Hid (DR (w.alloc (.cells #[.bool false, .int .u64 0, .int .u64 0, .bool false] 25)) b v l (.ok p)) := H.out.grew ((Grew.refl w).alloc _)
  have T0 : Hid (Turn [b] w (w.alloc (.cells #[.bool false, .int .u64 0, .int .u64 0, .bool false] 25))) := (Turn.refl [b] w).alloc _
  have N0 : Hid ((w.alloc (.cells #[.bool false, .int .u64 0, .int .u64 0, .bool false] 25)).heap[w.heap.size]? = some (.cells #[.bool false, .int .u64 0, .int .u64 0, .bool false] 25 (0, 0))) := heap_alloc_last _ _
  go_enter Tryz.func20, Tryz.ntmps20
  go_wp2_with fail
  refine (Calls.der (dsmall_any S0.out 5 (by decide)) hs).mono ?_
  rintro en w1 ⟨⟨c, rfl⟩, t1, s1⟩
  have T1 : Hid (Turn [b] w w1) := T0.out.trans t1
  have S1 : Hid (DR w1 b v l (.error (f, e))) := s1
  have N1 : Hid (w1.heap[w.heap.size]? = some (.cells #[.bool false, .int .u64 0, .int .u64 0, .bool false] 25 (0, 0))) := t1.other N0.out (by simp; try omega)
  clear t1 s1 T0 S0 N0
  clear hs
  obtain ⟨a1, o1, ha1, he1⟩ := S1.out.st
  have c3_1 := cell_of o1 3
  simp at c3_1
  have dn1 : ((e : Int) != 0) = true := by first | (simp; done) | (simp; omega)
  have de1 : ((e : Int) == 0) = false := by first | (simp; done) | (simp; omega)
  clear o1
  cases dw : decide (4 ≤ c) <;> cases dh : (c.tmod 2 == 1)
  · go_wp2_with fail
    generalize hw2 : w1.alloc (.cells #[.bool false, .int .u64 0, .int .u64 0, .bool false] 25) = w2
    have g2 : Grew w1 w2 := by rw [← hw2]; exact (Grew.refl _).alloc _
    have T2 : Hid (Turn [b] w w2) := T1.out.trans (g2.turn _)
    have S2 : Hid (DR w2 b v l (.error (f, e))) := S1.out.grew g2
    have N2 : Hid (w2.heap[w.heap.size]? = some (.cells #[.bool false, .int .u64 0, .int .u64 0, .bool false] 25 (0, 0))) := (g2.turn []).other N1.out (by simp)
    have M2 : Hid (w2.heap[w1.heap.size]? = some (.cells #[.bool false, .int .u64 0, .int .u64 0, .bool false] 25 (0, 0))) := by rw [← hw2]; exact heap_alloc_last _ _
    have hMs : b < w1.heap.size := S1.out.lt
    have hM1 : ¬ b = w1.heap.size := by omega
    have hMb : w.heap.size ≤ w1.heap.size := T1.out.size
    have hMN : w.heap.size < w1.heap.size := lt_of_obj N1.out
    have h01 : ¬ w.heap.size = w1.heap.size := by omega
    have h10 : ¬ w1.heap.size = w.heap.size := by omega
    clear hw2 g2 T1 S1 N1
    generalize hMM : w1.heap.size = MM at *
    clear hMM
    refine (Calls.der (dbound_any false 32 (by decide) S2.out) rfl).mono ?_
    rintro en w3 ⟨⟨k0, rfl⟩, t3, s3⟩
    have T3 : Hid (Turn [b] w w3) := T2.out.trans t3
    have S3 : Hid (DR w3 b v l (.error (f, e))) := s3
    have N3 : Hid (w3.heap[w.heap.size]? = some (.cells #[.bool false, .int .u64 0, .int .u64 0, .bool false] 25 (0, 0))) := t3.other N2.out (by simp; try omega)
    have M3 : Hid (w3.heap[MM]? = some (.cells #[.bool false, .int .u64 0, .int .u64 0, .bool false] 25 (0, 0))) := t3.other M2.out (by simp; try omega)
    clear t3 s3 T2 S2 N2 M2
    have m3_3 := cell_of M3.out 3
    simp at m3_3
    have m0_3 := cell_of M3.out 0
    have m1_3 := cell_of M3.out 1
    have m2_3 := cell_of M3.out 2
    have m3_3 := cell_of M3.out 3
    have x1_3 := free_of M3.out 1
    have n0 := cell_of N3.out 0
    have y0 := free_of N3.out 0
    have n1 := cell_of N3.out 1
    have y1 := free_of N3.out 1
    have n2 := cell_of N3.out 2
    have y2 := free_of N3.out 2
    have n3 := cell_of N3.out 3
    have y3 := free_of N3.out 3
    simp at m0_3 m1_3 m2_3 m3_3 n0 n1 n2 n3
    go_wp2_with fail
    refine bodyPost_ret (v := LM.v ⟨false, k0, 0, false⟩) (by simp [results, Tryz.results20, go_sem, LM.v, m0_3, m1_3, m2_3, m3_3, n0, n1, n2, n3, h10, h01]) rfl ?_
    exact ⟨⟨⟨false, k0, 0, false⟩, rfl⟩, ((((((FinD.mk_ T3.out S3.out).set H.out hMb).set H.out (Nat.le_refl _)).set H.out (Nat.le_refl _)).set H.out (Nat.le_refl _)).set H.out (Nat.le_refl _))⟩
  · go_wp2_with fail
    generalize hw2 : w1.alloc (.cells #[.bool false, .int .u64 0, .int .u64 0, .bool true] 25) = w2
    have g2 : Grew w1 w2 := by rw [← hw2]; exact (Grew.refl _).alloc _
    have T2 : Hid (Turn [b] w w2) := T1.out.trans (g2.turn _)
    have S2 : Hid (DR w2 b v l (.error (f, e))) := S1.out.grew g2
    have N2 : Hid (w2.heap[w.heap.size]? = some (.cells #[.bool false, .int .u64 0, .int .u64 0, .bool false] 25 (0, 0))) := (g2.turn []).other N1.out (by simp)
    have M2 : Hid (w2.heap[w1.heap.size]? = some (.cells #[.bool false, .int .u64 0, .int .u64 0, .bool true] 25 (0, 0))) := by rw [← hw2]; exact heap_alloc_last _ _
    have hMs : b < w1.heap.size := S1.out.lt
    have hM1 : ¬ b = w1.heap.size := by omega
    have hMb : w.heap.size ≤ w1.heap.size := T1.out.size
    have hMN : w.heap.size < w1.heap.size := lt_of_obj N1.out
    have h01 : ¬ w.heap.size = w1.heap.size := by omega
    have h10 : ¬ w1.heap.size = w.heap.size := by omega
    clear hw2 g2 T1 S1 N1
    generalize hMM : w1.heap.size = MM at *
    clear hMM
    refine (Calls.der (dbound_any false 32 (by decide) S2.out) rfl).mono ?_
    rintro en w3 ⟨⟨k0, rfl⟩, t3, s3⟩
    have T3 : Hid (Turn [b] w w3) := T2.out.trans t3
    have S3 : Hid (DR w3 b v l (.error (f, e))) := s3
    have N3 : Hid (w3.heap[w.heap.size]? = some (.cells #[.bool false, .int .u64 0, .int .u64 0, .bool false] 25 (0, 0))) := t3.other N2.out (by simp; try omega)
    have M3 : Hid (w3.heap[MM]? = some (.cells #[.bool false, .int .u64 0, .int .u64 0, .bool true] 25 (0, 0))) := t3.other M2.out (by simp; try omega)
    clear t3 s3 T2 S2 N2 M2
    have m3_3 := cell_of M3.out 3
    simp at m3_3
    have x1_3 := free_of M3.out 1
    have m1_3 := cell_of M3.out 1
    simp at m1_3
    go_wp2_with fail
    generalize hw4 : (w3.setCell ⟨MM, 1, none⟩ (.int .u64 k0)) = w4
    have f4 : FinD b v l w w4 (.error (f, e)) := by rw [← hw4]; exact ((FinD.mk_ T3.out S3.out).set H.out hMb)
    have T4 : Hid (Turn [b] w w4) := f4.1
    have S4 : Hid (DR w4 b v l (.error (f, e))) := f4.2
    have N4 : Hid (w4.heap[w.heap.size]? = some (.cells #[.bool false, .int .u64 0, .int .u64 0, .bool false] 25 (0, 0))) := by rw [← hw4]; exact (heap_other N3.out (by simpa using h01) _)
    have M4 : Hid (w4.heap[MM]? = some (.cells #[.bool false, .int .u64 k0, .int .u64 0, .bool true] 25 (0, 0))) := by rw [← hw4]; exact (heap_set M3.out 1 _).trans rfl
    clear hw4 f4 x1_3 m1_3 T3 S3 M3 N3
    refine (Calls.der (dbound_any false 32 (by decide) S4.out) rfl).mono ?_
    rintro en w5 ⟨⟨k1, rfl⟩, t5, s5⟩
    have T5 : Hid (Turn [b] w w5) := T4.out.trans t5
    have S5 : Hid (DR w5 b v l (.error (f, e))) := s5
    have N5 : Hid (w5.heap[w.heap.size]? = some (.cells #[.bool false, .int .u64 0, .int .u64 0, .bool false] 25 (0, 0))) := t5.other N4.out (by simp; try omega)
    have M5 : Hid (w5.heap[MM]? = some (.cells #[.bool false, .int .u64 k0, .int .u64 0, .bool true] 25 (0, 0))) := t5.other M4.out (by simp; try omega)
    clear t5 s5 T4 S4 N4 M4
    have m0_5 := cell_of M5.out 0
    have m1_5 := cell_of M5.out 1
    have m2_5 := cell_of M5.out 2
    have m3_5 := cell_of M5.out 3
    have x2_5 := free_of M5.out 2
    have n0 := cell_of N5.out 0
    have y0 := free_of N5.out 0
    have n1 := cell_of N5.out 1
    have y1 := free_of N5.out 1
    have n2 := cell_of N5.out 2
    have y2 := free_of N5.out 2
    have n3 := cell_of N5.out 3
    have y3 := free_of N5.out 3
    simp at m0_5 m1_5 m2_5 m3_5 n0 n1 n2 n3
    go_wp2_with fail
    refine bodyPost_ret (v := LM.v ⟨false, k0, k1, true⟩) (by simp [results, Tryz.results20, go_sem, LM.v, m0_5, m1_5, m2_5, m3_5, n0, n1, n2, n3, h10, h01]) rfl ?_
    exact ⟨⟨⟨false, k0, k1, true⟩, rfl⟩, ((((((FinD.mk_ T5.out S5.out).set H.out hMb).set H.out (Nat.le_refl _)).set H.out (Nat.le_refl _)).set H.out (Nat.le_refl _)).set H.out (Nat.le_refl _))⟩
  · go_wp2_with fail
    generalize hw2 : w1.alloc (.cells #[.bool true, .int .u64 0, .int .u64 0, .bool false] 25) = w2
    have g2 : Grew w1 w2 := by rw [← hw2]; exact (Grew.refl _).alloc _
    have T2 : Hid (Turn [b] w w2) := T1.out.trans (g2.turn _)
    have S2 : Hid (DR w2 b v l (.error (f, e))) := S1.out.grew g2
    have N2 : Hid (w2.heap[w.heap.size]? = some (.cells #[.bool false, .int .u64 0, .int .u64 0, .bool false] 25 (0, 0))) := (g2.turn []).other N1.out (by simp)
    have M2 : Hid (w2.heap[w1.heap.size]? = some (.cells #[.bool true, .int .u64 0, .int .u64 0, .bool false] 25 (0, 0))) := by rw [← hw2]; exact heap_alloc_last _ _
    have hMs : b < w1.heap.size := S1.out.lt
    have hM1 : ¬ b = w1.heap.size := by omega
    have hMb : w.heap.size ≤ w1.heap.size := T1.out.size
    have hMN : w.heap.size < w1.heap.size := lt_of_obj N1.out
    have h01 : ¬ w.heap.size = w1.heap.size := by omega
    have h10 : ¬ w1.heap.size = w.heap.size := by omega
    clear hw2 g2 T1 S1 N1
    generalize hMM : w1.heap.size = MM at *
    clear hMM
    refine (Calls.der (dbound_any true 64 (by decide) S2.out) rfl).mono ?_
    rintro en w3 ⟨⟨k0, rfl⟩, t3, s3⟩
    have T3 : Hid (Turn [b] w w3) := T2.out.trans t3
    have S3 : Hid (DR w3 b v l (.error (f, e))) := s3
    have N3 : Hid (w3.heap[w.heap.size]? = some (.cells #[.bool false, .int .u64 0, .int .u64 0, .bool false] 25 (0, 0))) := t3.other N2.out (by simp; try omega)
    have M3 : Hid (w3.heap[MM]? = some (.cells #[.bool true, .int .u64 0, .int .u64 0, .bool false] 25 (0, 0))) := t3.other M2.out (by simp; try omega)
    clear t3 s3 T2 S2 N2 M2
    have m3_3 := cell_of M3.out 3
    simp at m3_3
    have m0_3 := cell_of M3.out 0
    have m1_3 := cell_of M3.out 1
    have m2_3 := cell_of M3.out 2
    have m3_3 := cell_of M3.out 3
    have x1_3 := free_of M3.out 1
    have n0 := cell_of N3.out 0
    have y0 := free_of N3.out 0
    have n1 := cell_of N3.out 1
    have y1 := free_of N3.out 1
    have n2 := cell_of N3.out 2
    have y2 := free_of N3.out 2
    have n3 := cell_of N3.out 3
    have y3 := free_of N3.out 3
    simp at m0_3 m1_3 m2_3 m3_3 n0 n1 n2 n3
    go_wp2_with fail
    refine bodyPost_ret (v := LM.v ⟨true, k0, 0, false⟩) (by simp [results, Tryz.results20, go_sem, LM.v, m0_3, m1_3, m2_3, m3_3, n0, n1, n2, n3, h10, h01]) rfl ?_
    exact ⟨⟨⟨true, k0, 0, false⟩, rfl⟩, ((((((FinD.mk_ T3.out S3.out).set H.out hMb).set H.out (Nat.le_refl _)).set H.out (Nat.le_refl _)).set H.out (Nat.le_refl _)).set H.out (Nat.le_refl _))⟩
  · go_wp2_with fail
    generalize hw2 : w1.alloc (.cells #[.bool true, .int .u64 0, .int .u64 0, .bool true] 25) = w2
    have g2 : Grew w1 w2 := by rw [← hw2]; exact (Grew.refl _).alloc _
    have T2 : Hid (Turn [b] w w2) := T1.out.trans (g2.turn _)
    have S2 : Hid (DR w2 b v l (.error (f, e))) := S1.out.grew g2
    have N2 : Hid (w2.heap[w.heap.size]? = some (.cells #[.bool false, .int .u64 0, .int .u64 0, .bool false] 25 (0, 0))) := (g2.turn []).other N1.out (by simp)
    have M2 : Hid (w2.heap[w1.heap.size]? = some (.cells #[.bool true, .int .u64 0, .int .u64 0, .bool true] 25 (0, 0))) := by rw [← hw2]; exact heap_alloc_last _ _
    have hMs : b < w1.heap.size := S1.out.lt
    have hM1 : ¬ b = w1.heap.size := by omega
    have hMb : w.heap.size ≤ w1.heap.size := T1.out.size
    have hMN : w.heap.size < w1.heap.size := lt_of_obj N1.out
    have h01 : ¬ w.heap.size = w1.heap.size := by omega
    have h10 : ¬ w1.heap.size = w.heap.size := by omega
    clear hw2 g2 T1 S1 N1
    generalize hMM : w1.heap.size = MM at *
    clear hMM
    refine (Calls.der (dbound_any true 64 (by decide) S2.out) rfl).mono ?_
    rintro en w3 ⟨⟨k0, rfl⟩, t3, s3⟩
    have T3 : Hid (Turn [b] w w3) := T2.out.trans t3
    have S3 : Hid (DR w3 b v l (.error (f, e))) := s3
    have N3 : Hid (w3.heap[w.heap.size]? = some (.cells #[.bool false, .int .u64 0, .int .u64 0, .bool false] 25 (0, 0))) := t3.other N2.out (by simp; try omega)
    have M3 : Hid (w3.heap[MM]? = some (.cells #[.bool true, .int .u64 0, .int .u64 0, .bool true] 25 (0, 0))) := t3.other M2.out (by simp; try omega)
    clear t3 s3 T2 S2 N2 M2
    have m3_3 := cell_of M3.out 3
    simp at m3_3
    have x1_3 := free_of M3.out 1
    have m1_3 := cell_of M3.out 1
    simp at m1_3
    go_wp2_with fail
    generalize hw4 : (w3.setCell ⟨MM, 1, none⟩ (.int .u64 k0)) = w4
    have f4 : FinD b v l w w4 (.error (f, e)) := by rw [← hw4]; exact ((FinD.mk_ T3.out S3.out).set H.out hMb)
    have T4 : Hid (Turn [b] w w4) := f4.1
    have S4 : Hid (DR w4 b v l (.error (f, e))) := f4.2
    have N4 : Hid (w4.heap[w.heap.size]? = some (.cells #[.bool false, .int .u64 0, .int .u64 0, .bool false] 25 (0, 0))) := by rw [← hw4]; exact (heap_other N3.out (by simpa using h01) _)
    have M4 : Hid (w4.heap[MM]? = some (.cells #[.bool true, .int .u64 k0, .int .u64 0, .bool true] 25 (0, 0))) := by rw [← hw4]; exact (heap_set M3.out 1 _).trans rfl
    clear hw4 f4 x1_3 m1_3 T3 S3 M3 N3
    refine (Calls.der (dbound_any true 64 (by decide) S4.out) rfl).mono ?_
    rintro en w5 ⟨⟨k1, rfl⟩, t5, s5⟩
    have T5 : Hid (Turn [b] w w5) := T4.out.trans t5
    have S5 : Hid (DR w5 b v l (.error (f, e))) := s5
    have N5 : Hid (w5.heap[w.heap.size]? = some (.cells #[.bool false, .int .u64 0, .int .u64 0, .bool false] 25 (0, 0))) := t5.other N4.out (by simp; try omega)
    have M5 : Hid (w5.heap[MM]? = some (.cells #[.bool true, .int .u64 k0, .int .u64 0, .bool true] 25 (0, 0))) := t5.other M4.out (by simp; try omega)
    clear t5 s5 T4 S4 N4 M4
    have m0_5 := cell_of M5.out 0
    have m1_5 := cell_of M5.out 1
    have m2_5 := cell_of M5.out 2
    have m3_5 := cell_of M5.out 3
    have x2_5 := free_of M5.out 2
    have n0 := cell_of N5.out 0
    have y0 := free_of N5.out 0
    have n1 := cell_of N5.out 1
    have y1 := free_of N5.out 1
    have n2 := cell_of N5.out 2
    have y2 := free_of N5.out 2
    have n3 := cell_of N5.out 3
    have y3 := free_of N5.out 3
    simp at m0_5 m1_5 m2_5 m3_5 n0 n1 n2 n3
    go_wp2_with fail
    refine bodyPost_ret (v := LM.v ⟨true, k0, k1, true⟩) (by simp [results, Tryz.results20, go_sem, LM.v, m0_5, m1_5, m2_5, m3_5, n0, n1, n2, n3, h10, h01]) rfl ?_
    exact ⟨⟨⟨true, k0, k1, true⟩, rfl⟩, ((((((FinD.mk_ T5.out S5.out).set H.out hMb).set H.out (Nat.le_refl _)).set H.out (Nat.le_refl _)).set H.out (Nat.le_refl _)).set H.out (Nat.le_refl _))⟩
set_option maxRecDepth 100000 in
set_option maxHeartbeats 1000000 in
theorem dlim_2 {w : World} {b : Nat} {v : Value} {l : List Int} {p q : Nat} (h : DR w b v l (.ok p)) (hs : belowR ((5 : Nat) + 1 : Int) l p = .ok (2, q)) :
    Calls Tryz.prog 20 #[.pointer (some ⟨b, 0, none⟩)] w (DAns LM.v b v l w (.error (p, 4))) := by
  have H : Hid (DR w b v l (.ok p)) := h
  have hb : b < w.heap.size := h.lt
  have hl := h.len
  have c1_0 := cell_of h.st.1 1
  simp at c1_0
  clear h
  have S0 : Hid (DR (w.alloc (.cells #[.bool false, .int .u64 0, .int .u64 0, .bool false] 25)) b v l (.ok p)) := H.out.grew ((Grew.refl w).alloc _)
  have T0 : Hid (Turn [b] w (w.alloc (.cells #[.bool false, .int .u64 0, .int .u64 0, .bool false] 25))) := (Turn.refl [b] w).alloc _
  have N0 : Hid ((w.alloc (.cells #[.bool false, .int .u64 0, .int .u64 0, .bool false] 25)).heap[w.heap.size]? = some (.cells #[.bool false, .int .u64 0, .int .u64 0, .bool false] 25 (0, 0))) := heap_alloc_last _ _
  go_enter Tryz.func20, Tryz.ntmps20
  go_wp2_with fail
  refine (Calls.dok (dsmall_any S0.out 5 (by decide)) hs).mono ?_
  rintro en w1 ⟨rfl, t1, s1⟩
  have T1 : Hid (Turn [b] w w1) := T0.out.trans t1
  have S1 : Hid (DR w1 b v l (.ok q)) := s1
  have N1 : Hid (w1.heap[w.heap.size]? = some (.cells #[.bool false, .int .u64 0, .int .u64 0, .bool false] 25 (0, 0))) := t1.other N0.out (by simp; try omega)
  clear t1 s1 T0 S0 N0
  clear hs
  have c3_1 := cell_of S1.out.st.1 3
  simp at c3_1
  go_wp2_with fail
  refine (fail_any S1.out p 4 (by decide)).mono ?_
  rintro en w2 ⟨rfl, t2, s2⟩
  have T2 : Hid (Turn [b] w w2) := T1.out.trans t2
  have S2 : Hid (DR w2 b v l (.error (p, 4))) := s2
  have N2 : Hid (w2.heap[w.heap.size]? = some (.cells #[.bool false, .int .u64 0, .int .u64 0, .bool false] 25 (0, 0))) := t2.other N1.out (by simp; try omega)
  clear t2 s2 T1 S1 N1
  go_wp2_with fail
  generalize hw3 : w2.alloc (.cells #[.bool false, .int .u64 0, .int .u64 0, .bool false] 25) = w3
  have g3 : Grew w2 w3 := by rw [← hw3]; exact (Grew.refl _).alloc _
  have T3 : Hid (Turn [b] w w3) := T2.out.trans (g3.turn _)
  have S3 : Hid (DR w3 b v l (.error (p, 4))) := S2.out.grew g3
  have N3 : Hid (w3.heap[w.heap.size]? = some (.cells #[.bool false, .int .u64 0, .int .u64 0, .bool false] 25 (0, 0))) := (g3.turn []).other N2.out (by simp)
  have M3 : Hid (w3.heap[w2.heap.size]? = some (.cells #[.bool false, .int .u64 0, .int .u64 0, .bool false] 25 (0, 0))) := by rw [← hw3]; exact heap_alloc_last _ _
  have hMs : b < w2.heap.size := S2.out.lt
  have hM1 : ¬ b = w2.heap.size := by omega
  have hMb : w.heap.size ≤ w2.heap.size := T2.out.size
  have hMN : w.heap.size < w2.heap.size := lt_of_obj N2.out
  have h01 : ¬ w.heap.size = w2.heap.size := by omega
  have h10 : ¬ w2.heap.size = w.heap.size := by omega
  clear hw3 g3 T2 S2 N2
  generalize hMM : w2.heap.size = MM at *
  clear hMM
  refine (Calls.der (dbound_any false 32 (by decide) S3.out) rfl).mono ?_
  rintro en w4 ⟨⟨k0, rfl⟩, t4, s4⟩
  have T4 : Hid (Turn [b] w w4) := T3.out.trans t4
  have S4 : Hid (DR w4 b v l (.error (p, 4))) := s4
  have N4 : Hid (w4.heap[w.heap.size]? = some (.cells #[.bool false, .int .u64 0, .int .u64 0, .bool false] 25 (0, 0))) := t4.other N3.out (by simp; try omega)
  have M4 : Hid (w4.heap[MM]? = some (.cells #[.bool false, .int .u64 0, .int .u64 0, .bool false] 25 (0, 0))) := t4.other M3.out (by simp; try omega)
  clear t4 s4 T3 S3 N3 M3
  have m3_4 := cell_of M4.out 3
  simp at m3_4
  have m0_4 := cell_of M4.out 0
  have m1_4 := cell_of M4.out 1
  have m2_4 := cell_of M4.out 2
  have m3_4 := cell_of M4.out 3
  have x1_4 := free_of M4.out 1
  have n0 := cell_of N4.out 0
  have y0 := free_of N4.out 0
  have n1 := cell_of N4.out 1
  have y1 := free_of N4.out 1
  have n2 := cell_of N4.out 2
  have y2 := free_of N4.out 2
  have n3 := cell_of N4.out 3
  have y3 := free_of N4.out 3
  simp at m0_4 m1_4 m2_4 m3_4 n0 n1 n2 n3
  go_wp2_with fail
  refine bodyPost_ret (v := LM.v ⟨false, k0, 0, false⟩) (by simp [results, Tryz.results20, go_sem, LM.v, m0_4, m1_4, m2_4, m3_4, n0, n1, n2, n3, h10, h01]) rfl ?_
  exact ⟨⟨⟨false, k0, 0, false⟩, rfl⟩, ((((((FinD.mk_ T4.out S4.out).set H.out hMb).set H.out (Nat.le_refl _)).set H.out (Nat.le_refl _)).set H.out (Nat.le_refl _)).set H.out (Nat.le_refl _))⟩
set_option maxRecDepth 100000 in
set_option maxHeartbeats 1000000 in
theorem dlim_3 {w : World} {b : Nat} {v : Value} {l : List Int} {p q : Nat} (h : DR w b v l (.ok p)) (hs : belowR ((5 : Nat) + 1 : Int) l p = .ok (3, q)) :
    Calls Tryz.prog 20 #[.pointer (some ⟨b, 0, none⟩)] w (DAns LM.v b v l w (.error (p, 4))) := by
  have H : Hid (DR w b v l (.ok p)) := h
  have hb : b < w.heap.size := h.lt
  have hl := h.len
  have c1_0 := cell_of h.st.1 1
  simp at c1_0
  clear h
  have S0 : Hid (DR (w.alloc (.cells #[.bool false, .int .u64 0, .int .u64 0, .bool false] 25)) b v l (.ok p)) := H.out.grew ((Grew.refl w).alloc _)
  have T0 : Hid (Turn [b] w (w.alloc (.cells #[.bool false, .int .u64 0, .int .u64 0, .bool false] 25))) := (Turn.refl [b] w).alloc _
  have N0 : Hid ((w.alloc (.cells #[.bool false, .int .u64 0, .int .u64 0, .bool false] 25)).heap[w.heap.size]? = some (.cells #[.bool false, .int .u64 0, .int .u64 0, .bool false] 25 (0, 0))) := heap_alloc_last _ _
  go_enter Tryz.func20, Tryz.ntmps20
  go_wp2_with fail
  refine (Calls.dok (dsmall_any S0.out 5 (by decide)) hs).mono ?_
  rintro en w1 ⟨rfl, t1, s1⟩
  have T1 : Hid (Turn [b] w w1) := T0.out.trans t1
  have S1 : Hid (DR w1 b v l (.ok q)) := s1
  have N1 : Hid (w1.heap[w.heap.size]? = some (.cells #[.bool false, .int .u64 0, .int .u64 0, .bool false] 25 (0, 0))) := t1.other N0.out (by simp; try omega)
  clear t1 s1 T0 S0 N0
  clear hs
  have c3_1 := cell_of S1.out.st.1 3
  simp at c3_1
  go_wp2_with fail
  refine (fail_any S1.out p 4 (by decide)).mono ?_
  rintro en w2 ⟨rfl, t2, s2⟩
  have T2 : Hid (Turn [b] w w2) := T1.out.trans t2
  have S2 : Hid (DR w2 b v l (.error (p, 4))) := s2
  have N2 : Hid (w2.heap[w.heap.size]? = some (.cells #[.bool false, .int .u64 0, .int .u64 0, .bool false] 25 (0, 0))) := t2.other N1.out (by simp; try omega)
  clear t2 s2 T1 S1 N1
  go_wp2_with fail
  generalize hw3 : w2.alloc (.cells #[.bool false, .int .u64 0, .int .u64 0, .bool true] 25) = w3
  have g3 : Grew w2 w3 := by rw [← hw3]; exact (Grew.refl _).alloc _
  have T3 : Hid (Turn [b] w w3) := T2.out.trans (g3.turn _)
  have S3 : Hid (DR w3 b v l (.error (p, 4))) := S2.out.grew g3
  have N3 : Hid (w3.heap[w.heap.size]? = some (.cells #[.bool false, .int .u64 0, .int .u64 0, .bool false] 25 (0, 0))) := (g3.turn []).other N2.out (by simp)
  have M3 : Hid (w3.heap[w2.heap.size]? = some (.cells #[.bool false, .int .u64 0, .int .u64 0, .bool true] 25 (0, 0))) := by rw [← hw3]; exact heap_alloc_last _ _
  have hMs : b < w2.heap.size := S2.out.lt
  have hM1 : ¬ b = w2.heap.size := by omega
  have hMb : w.heap.size ≤ w2.heap.size := T2.out.size
  have hMN : w.heap.size < w2.heap.size := lt_of_obj N2.out
  have h01 : ¬ w.heap.size = w2.heap.size := by omega
  have h10 : ¬ w2.heap.size = w.heap.size := by omega
  clear hw3 g3 T2 S2 N2
  generalize hMM : w2.heap.size = MM at *
  clear hMM
  refine (Calls.der (dbound_any false 32 (by decide) S3.out) rfl).mono ?_
  rintro en w4 ⟨⟨k0, rfl⟩, t4, s4⟩
  have T4 : Hid (Turn [b] w w4) := T3.out.trans t4
  have S4 : Hid (DR w4 b v l (.error (p, 4))) := s4
  have N4 : Hid (w4.heap[w.heap.size]? = some (.cells #[.bool false, .int .u64 0, .int .u64 0, .bool false] 25 (0, 0))) := t4.other N3.out (by simp; try omega)
  have M4 : Hid (w4.heap[MM]? = some (.cells #[.bool false, .int .u64 0, .int .u64 0, .bool true] 25 (0, 0))) := t4.other M3.out (by simp; try omega)
  clear t4 s4 T3 S3 N3 M3
  have m3_4 := cell_of M4.out 3
  simp at m3_4
  have x1_4 := free_of M4.out 1
  have m1_4 := cell_of M4.out 1
  simp at m1_4
  go_wp2_with fail
  generalize hw5 : (w4.setCell ⟨MM, 1, none⟩ (.int .u64 k0)) = w5
  have f5 : FinD b v l w w5 (.error (p, 4)) := by rw [← hw5]; exact ((FinD.mk_ T4.out S4.out).set H.out hMb)
  have T5 : Hid (Turn [b] w w5) := f5.1
  have S5 : Hid (DR w5 b v l (.error (p, 4))) := f5.2
  have N5 : Hid (w5.heap[w.heap.size]? = some (.cells #[.bool false, .int .u64 0, .int .u64 0, .bool false] 25 (0, 0))) := by rw [← hw5]; exact (heap_other N4.out (by simpa using h01) _)
  have M5 : Hid (w5.heap[MM]? = some (.cells #[.bool false, .int .u64 k0, .int .u64 0, .bool true] 25 (0, 0))) := by rw [← hw5]; exact (heap_set M4.out 1 _).trans rfl
  clear hw5 f5 x1_4 m1_4 T4 S4 M4 N4
  refine (Calls.der (dbound_any false 32 (by decide) S5.out) rfl).mono ?_
  rintro en w6 ⟨⟨k1, rfl⟩, t6, s6⟩
  have T6 : Hid (Turn [b] w w6) := T5.out.trans t6
  have S6 : Hid (DR w6 b v l (.error (p, 4))) := s6
  have N6 : Hid (w6.heap[w.heap.size]? = some (.cells #[.bool false, .int .u64 0, .int .u64 0, .bool false] 25 (0, 0))) := t6.other N5.out (by simp; try omega)
  have M6 : Hid (w6.heap[MM]? = some (.cells #[.bool false, .int .u64 k0, .int .u64 0, .bool true] 25 (0, 0))) := t6.other M5.out (by simp; try omega)
  clear t6 s6 T5 S5 N5 M5
  have m0_6 := cell_of M6.out 0
  have m1_6 := cell_of M6.out 1
  have m2_6 := cell_of M6.out 2
  have m3_6 := cell_of M6.out 3
  have x2_6 := free_of M6.out 2
  have n0 := cell_of N6.out 0
  have y0 := free_of N6.out 0
  have n1 := cell_of N6.out 1
  have y1 := free_of N6.out 1
  have n2 := cell_of N6.out 2
  have y2 := free_of N6.out 2
  have n3 := cell_of N6.out 3
  have y3 := free_of N6.out 3
  simp at m0_6 m1_6 m2_6 m3_6 n0 n1 n2 n3
  go_wp2_with fail
  refine bodyPost_ret (v := LM.v ⟨false, k0, k1, true⟩) (by simp [results, Tryz.results20, go_sem, LM.v, m0_6, m1_6, m2_6, m3_6, n0, n1, n2, n3, h10, h01]) rfl ?_
  exact ⟨⟨⟨false, k0, k1, true⟩, rfl⟩, ((((((FinD.mk_ T6.out S6.out).set H.out hMb).set H.out (Nat.le_refl _)).set H.out (Nat.le_refl _)).set H.out (Nat.le_refl _)).set H.out (Nat.le_refl _))⟩
set_option maxRecDepth 100000 in
set_option maxHeartbeats 1000000 in
theorem dlim_0 {w : World} {b : Nat} {v : Value} {l : List Int} {p q : Nat} (h : DR w b v l (.ok p)) (hs : belowR ((5 : Nat) + 1 : Int) l p = .ok (0, q)) :
    Calls Tryz.prog 20 #[.pointer (some ⟨b, 0, none⟩)] w (DAns LM.v b v l w (limsT false false l q)) := by
  have H : Hid (DR w b v l (.ok p)) := h
  have hb : b < w.heap.size := h.lt
  have hl := h.len
  have c1_0 := cell_of h.st.1 1
  simp at c1_0
  clear h
  cases hx : boundR false l q with
  | error y =>
    obtain ⟨f, e⟩ := y
    rw [show limsT false false l q = .error (f, e) by unfold limsT; rw [hx]; rfl]
    have S0 : Hid (DR (w.alloc (.cells #[.bool false, .int .u64 0, .int .u64 0, .bool false] 25)) b v l (.ok p)) := H.out.grew ((Grew.refl w).alloc _)
    have T0 : Hid (Turn [b] w (w.alloc (.cells #[.bool false, .int .u64 0, .int .u64 0, .bool false] 25))) := (Turn.refl [b] w).alloc _
    have N0 : Hid ((w.alloc (.cells #[.bool false, .int .u64 0, .int .u64 0, .bool false] 25)).heap[w.heap.size]? = some (.cells #[.bool false, .int .u64 0, .int .u64 0, .bool false] 25 (0, 0))) := heap_alloc_last _ _
    go_enter Tryz.func20, Tryz.ntmps20
    go_wp2_with fail
    refine (Calls.dok (dsmall_any S0.out 5 (by decide)) hs).mono ?_
    rintro en w1 ⟨rfl, t1, s1⟩
    have T1 : Hid (Turn [b] w w1) := T0.out.trans t1
    have S1 : Hid (DR w1 b v l (.ok q)) := s1
    have N1 : Hid (w1.heap[w.heap.size]? = some (.cells #[.bool false, .int .u64 0, .int .u64 0, .bool false] 25 (0, 0))) := t1.other N0.out (by simp; try omega)
    clear t1 s1 T0 S0 N0
    clear hs
    have c3_1 := cell_of S1.out.st.1 3
    simp at c3_1
    go_wp2_with fail
    generalize hw2 : w1.alloc (.cells #[.bool false, .int .u64 0, .int .u64 0, .bool false] 25) = w2
    have g2 : Grew w1 w2 := by rw [← hw2]; exact (Grew.refl _).alloc _
    have T2 : Hid (Turn [b] w w2) := T1.out.trans (g2.turn _)
    have S2 : Hid (DR w2 b v l (.ok q)) := S1.out.grew g2
    have N2 : Hid (w2.heap[w.heap.size]? = some (.cells #[.bool false, .int .u64 0, .int .u64 0, .bool false] 25 (0, 0))) := (g2.turn []).other N1.out (by simp)
    have M2 : Hid (w2.heap[w1.heap.size]? = some (.cells #[.bool false, .int .u64 0, .int .u64 0, .bool false] 25 (0, 0))) := by rw [← hw2]; exact heap_alloc_last _ _
    have hMs : b < w1.heap.size := S1.out.lt
    have hM1 : ¬ b = w1.heap.size := by omega
    have hMb : w.heap.size ≤ w1.heap.size := T1.out.size
    have hMN : w.heap.size < w1.heap.size := lt_of_obj N1.out
    have h01 : ¬ w.heap.size = w1.heap.size := by omega
    have h10 : ¬ w1.heap.size = w.heap.size := by omega
    clear hw2 g2 T1 S1 N1
    generalize hMM : w1.heap.size = MM at *
    clear hMM
    refine (Calls.der (dbound_any false 32 (by decide) S2.out) hx).mono ?_
    rintro en w3 ⟨⟨k0, rfl⟩, t3, s3⟩
    have T3 : Hid (Turn [b] w w3) := T2.out.trans t3
    have S3 : Hid (DR w3 b v l (.error (f, e))) := s3
    have N3 : Hid (w3.heap[w.heap.size]? = some (.cells #[.bool false, .int .u64 0, .int .u64 0, .bool false] 25 (0, 0))) := t3.other N2.out (by simp; try omega)
    have M3 : Hid (w3.heap[MM]? = some (.cells #[.bool false, .int .u64 0, .int .u64 0, .bool false] 25 (0, 0))) := t3.other M2.out (by simp; try omega)
    clear t3 s3 T2 S2 N2 M2
    have m3_3 := cell_of M3.out 3
    simp at m3_3
    have m0_3 := cell_of M3.out 0
    have m1_3 := cell_of M3.out 1
    have m2_3 := cell_of M3.out 2
    have m3_3 := cell_of M3.out 3
    have x1_3 := free_of M3.out 1
    have n0 := cell_of N3.out 0
    have y0 := free_of N3.out 0
    have n1 := cell_of N3.out 1
    have y1 := free_of N3.out 1
    have n2 := cell_of N3.out 2
    have y2 := free_of N3.out 2
    have n3 := cell_of N3.out 3
    have y3 := free_of N3.out 3
    simp at m0_3 m1_3 m2_3 m3_3 n0 n1 n2 n3
    go_wp2_with fail
    refine bodyPost_ret (v := LM.v ⟨false, k0, 0, false⟩) (by simp [results, Tryz.results20, go_sem, LM.v, m0_3, m1_3, m2_3, m3_3, n0, n1, n2, n3, h10, h01]) rfl ?_
    exact ⟨⟨⟨false, k0, 0, false⟩, rfl⟩, ((((((FinD.mk_ T3.out S3.out).set H.out hMb).set H.out (Nat.le_refl _)).set H.out (Nat.le_refl _)).set H.out (Nat.le_refl _)).set H.out (Nat.le_refl _))⟩
  | ok y =>
    obtain ⟨n, r⟩ := y
    rw [show limsT false false l q = .ok (⟨false, n, 0, false⟩, r) by unfold limsT; rw [hx]; rfl]
    have S0 : Hid (DR (w.alloc (.cells #[.bool false, .int .u64 0, .int .u64 0, .bool false] 25)) b v l (.ok p)) := H.out.grew ((Grew.refl w).alloc _)
    have T0 : Hid (Turn [b] w (w.alloc (.cells #[.bool false, .int .u64 0, .int .u64 0, .bool false] 25))) := (Turn.refl [b] w).alloc _
    have N0 : Hid ((w.alloc (.cells #[.bool false, .int .u64 0, .int .u64 0, .bool false] 25)).heap[w.heap.size]? = some (.cells #[.bool false, .int .u64 0, .int .u64 0, .bool false] 25 (0, 0))) := heap_alloc_last _ _
    go_enter Tryz.func20, Tryz.ntmps20
    go_wp2_with fail
    refine (Calls.dok (dsmall_any S0.out 5 (by decide)) hs).mono ?_
    rintro en w1 ⟨rfl, t1, s1⟩
    have T1 : Hid (Turn [b] w w1) := T0.out.trans t1
    have S1 : Hid (DR w1 b v l (.ok q)) := s1
    have N1 : Hid (w1.heap[w.heap.size]? = some (.cells #[.bool false, .int .u64 0, .int .u64 0, .bool false] 25 (0, 0))) := t1.other N0.out (by simp; try omega)
    clear t1 s1 T0 S0 N0
    clear hs
    have c3_1 := cell_of S1.out.st.1 3
    simp at c3_1
    go_wp2_with fail
    generalize hw2 : w1.alloc (.cells #[.bool false, .int .u64 0, .int .u64 0, .bool false] 25) = w2
    have g2 : Grew w1 w2 := by rw [← hw2]; exact (Grew.refl _).alloc _
    have T2 : Hid (Turn [b] w w2) := T1.out.trans (g2.turn _)
    have S2 : Hid (DR w2 b v l (.ok q)) := S1.out.grew g2
    have N2 : Hid (w2.heap[w.heap.size]? = some (.cells #[.bool false, .int .u64 0, .int .u64 0, .bool false] 25 (0, 0))) := (g2.turn []).other N1.out (by simp)
    have M2 : Hid (w2.heap[w1.heap.size]? = some (.cells #[.bool false, .int .u64 0, .int .u64 0, .bool false] 25 (0, 0))) := by rw [← hw2]; exact heap_alloc_last _ _
    have hMs : b < w1.heap.size := S1.out.lt
    have hM1 : ¬ b = w1.heap.size := by omega
    have hMb : w.heap.size ≤ w1.heap.size := T1.out.size
    have hMN : w.heap.size < w1.heap.size := lt_of_obj N1.out
    have h01 : ¬ w.heap.size = w1.heap.size := by omega
    have h10 : ¬ w1.heap.size = w.heap.size := by omega
    clear hw2 g2 T1 S1 N1
    generalize hMM : w1.heap.size = MM at *
    clear hMM
    refine (Calls.dok (dbound_any false 32 (by decide) S2.out) hx).mono ?_
    rintro en w3 ⟨rfl, t3, s3⟩
    have T3 : Hid (Turn [b] w w3) := T2.out.trans t3
    have S3 : Hid (DR w3 b v l (.ok r)) := s3
    have N3 : Hid (w3.heap[w.heap.size]? = some (.cells #[.bool false, .int .u64 0, .int .u64 0, .bool false] 25 (0, 0))) := t3.other N2.out (by simp; try omega)
    have M3 : Hid (w3.heap[MM]? = some (.cells #[.bool false, .int .u64 0, .int .u64 0, .bool false] 25 (0, 0))) := t3.other M2.out (by simp; try omega)
    clear t3 s3 T2 S2 N2 M2
    have m3_3 := cell_of M3.out 3
    simp at m3_3
    have m0_3 := cell_of M3.out 0
    have m1_3 := cell_of M3.out 1
    have m2_3 := cell_of M3.out 2
    have m3_3 := cell_of M3.out 3
    have x1_3 := free_of M3.out 1
    have n0 := cell_of N3.out 0
    have y0 := free_of N3.out 0
    have n1 := cell_of N3.out 1
    have y1 := free_of N3.out 1
    have n2 := cell_of N3.out 2
    have y2 := free_of N3.out 2
    have n3 := cell_of N3.out 3
    have y3 := free_of N3.out 3
    simp at m0_3 m1_3 m2_3 m3_3 n0 n1 n2 n3
    go_wp2_with fail
    refine bodyPost_ret (v := LM.v ⟨false, n, 0, false⟩) (by simp [results, Tryz.results20, go_sem, LM.v, m0_3, m1_3, m2_3, m3_3, n0, n1, n2, n3, h10, h01]) rfl ?_
    exact ⟨rfl, ((((((FinD.mk_ T3.out S3.out).set H.out hMb).set H.out (Nat.le_refl _)).set H.out (Nat.le_refl _)).set H.out (Nat.le_refl _)).set H.out (Nat.le_refl _))⟩
set_option maxRecDepth 100000 in
set_option maxHeartbeats 1000000 in
theorem dlim_1 {w : World} {b : Nat} {v : Value} {l : List Int} {p q : Nat} (h : DR w b v l (.ok p)) (hs : belowR ((5 : Nat) + 1 : Int) l p = .ok (1, q)) :
    Calls Tryz.prog 20 #[.pointer (some ⟨b, 0, none⟩)] w (DAns LM.v b v l w (limsT false true l q)) := by
  have H : Hid (DR w b v l (.ok p)) := h
  have hb : b < w.heap.size := h.lt
  have hl := h.len
  have c1_0 := cell_of h.st.1 1
  simp at c1_0
  clear h
  cases hx : boundR false l q with
  | error y =>
    obtain ⟨f, e⟩ := y
    rw [show limsT false true l q = .error (f, e) by unfold limsT; rw [hx]; rfl]
    have S0 : Hid (DR (w.alloc (.cells #[.bool false, .int .u64 0, .int .u64 0, .bool false] 25)) b v l (.ok p)) := H.out.grew ((Grew.refl w).alloc _)
    have T0 : Hid (Turn [b] w (w.alloc (.cells #[.bool false, .int .u64 0, .int .u64 0, .bool false] 25))) := (Turn.refl [b] w).alloc _
    have N0 : Hid ((w.alloc (.cells #[.bool false, .int .u64 0, .int .u64 0, .bool false] 25)).heap[w.heap.size]? = some (.cells #[.bool false, .int .u64 0, .int .u64 0, .bool false] 25 (0, 0))) := heap_alloc_last _ _
    go_enter Tryz.func20, Tryz.ntmps20
    go_wp2_with fail
    refine (Calls.dok (dsmall_any S0.out 5 (by decide)) hs).mono ?_
    rintro en w1 ⟨rfl, t1, s1⟩
    have T1 : Hid (Turn [b] w w1) := T0.out.trans t1
    have S1 : Hid (DR w1 b v l (.ok q)) := s1
    have N1 : Hid (w1.heap[w.heap.size]? = some (.cells #[.bool false, .int .u64 0, .int .u64 0, .bool false] 25 (0, 0))) := t1.other N0.out (by simp; try omega)
    clear t1 s1 T0 S0 N0
    clear hs
    have c3_1 := cell_of S1.out.st.1 3
    simp at c3_1
    go_wp2_with fail
    generalize hw2 : w1.alloc (.cells #[.bool false, .int .u64 0, .int .u64 0, .bool true] 25) = w2
    have g2 : Grew w1 w2 := by rw [← hw2]; exact (Grew.refl _).alloc _
    have T2 : Hid (Turn [b] w w2) := T1.out.trans (g2.turn _)
    have S2 : Hid (DR w2 b v l (.ok q)) := S1.out.grew g2
    have N2 : Hid (w2.heap[w.heap.size]? = some (.cells #[.bool false, .int .u64 0, .int .u64 0, .bool false] 25 (0, 0))) := (g2.turn []).other N1.out (by simp)
    have M2 : Hid (w2.heap[w1.heap.size]? = some (.cells #[.bool false, .int .u64 0, .int .u64 0, .bool true] 25 (0, 0))) := by rw [← hw2]; exact heap_alloc_last _ _
    have hMs : b < w1.heap.size := S1.out.lt
    have hM1 : ¬ b = w1.heap.size := by omega
    have hMb : w.heap.size ≤ w1.heap.size := T1.out.size
    have hMN : w.heap.size < w1.heap.size := lt_of_obj N1.out
    have h01 : ¬ w.heap.size = w1.heap.size := by omega
    have h10 : ¬ w1.heap.size = w.heap.size := by omega
    clear hw2 g2 T1 S1 N1
    generalize hMM : w1.heap.size = MM at *
    clear hMM
    refine (Calls.der (dbound_any false 32 (by decide) S2.out) hx).mono ?_
    rintro en w3 ⟨⟨k0, rfl⟩, t3, s3⟩
    have T3 : Hid (Turn [b] w w3) := T2.out.trans t3
    have S3 : Hid (DR w3 b v l (.error (f, e))) := s3
    have N3 : Hid (w3.heap[w.heap.size]? = some (.cells #[.bool false, .int .u64 0, .int .u64 0, .bool false] 25 (0, 0))) := t3.other N2.out (by simp; try omega)
    have M3 : Hid (w3.heap[MM]? = some (.cells #[.bool false, .int .u64 0, .int .u64 0, .bool true] 25 (0, 0))) := t3.other M2.out (by simp; try omega)
    clear t3 s3 T2 S2 N2 M2
    have m3_3 := cell_of M3.out 3
    simp at m3_3
    have x1_3 := free_of M3.out 1
    have m1_3 := cell_of M3.out 1
    simp at m1_3
    go_wp2_with fail
    generalize hw4 : (w3.setCell ⟨MM, 1, none⟩ (.int .u64 k0)) = w4
    have f4 : FinD b v l w w4 (.error (f, e)) := by rw [← hw4]; exact ((FinD.mk_ T3.out S3.out).set H.out hMb)
    have T4 : Hid (Turn [b] w w4) := f4.1
    have S4 : Hid (DR w4 b v l (.error (f, e))) := f4.2
    have N4 : Hid (w4.heap[w.heap.size]? = some (.cells #[.bool false, .int .u64 0, .int .u64 0, .bool false] 25 (0, 0))) := by rw [← hw4]; exact (heap_other N3.out (by simpa using h01) _)
    have M4 : Hid (w4.heap[MM]? = some (.cells #[.bool false, .int .u64 k0, .int .u64 0, .bool true] 25 (0, 0))) := by rw [← hw4]; exact (heap_set M3.out 1 _).trans rfl
    clear hw4 f4 x1_3 m1_3 T3 S3 M3 N3
    refine (Calls.der (dbound_any false 32 (by decide) S4.out) rfl).mono ?_
    rintro en w5 ⟨⟨k1, rfl⟩, t5, s5⟩
    have T5 : Hid (Turn [b] w w5) := T4.out.trans t5
    have S5 : Hid (DR w5 b v l (.error (f, e))) := s5
    have N5 : Hid (w5.heap[w.heap.size]? = some (.cells #[.bool false, .int .u64 0, .int .u64 0, .bool false] 25 (0, 0))) := t5.other N4.out (by simp; try omega)
    have M5 : Hid (w5.heap[MM]? = some (.cells #[.bool false, .int .u64 k0, .int .u64 0, .bool true] 25 (0, 0))) := t5.other M4.out (by simp; try omega)
    clear t5 s5 T4 S4 N4 M4
    have m0_5 := cell_of M5.out 0
    have m1_5 := cell_of M5.out 1
    have m2_5 := cell_of M5.out 2
    have m3_5 := cell_of M5.out 3
    have x2_5 := free_of M5.out 2
    have n0 := cell_of N5.out 0
    have y0 := free_of N5.out 0
    have n1 := cell_of N5.out 1
    have y1 := free_of N5.out 1
    have n2 := cell_of N5.out 2
    have y2 := free_of N5.out 2
    have n3 := cell_of N5.out 3
    have y3 := free_of N5.out 3
    simp at m0_5 m1_5 m2_5 m3_5 n0 n1 n2 n3
    go_wp2_with fail
    refine bodyPost_ret (v := LM.v ⟨false, k0, k1, true⟩) (by simp [results, Tryz.results20, go_sem, LM.v, m0_5, m1_5, m2_5, m3_5, n0, n1, n2, n3, h10, h01]) rfl ?_
    exact ⟨⟨⟨false, k0, k1, true⟩, rfl⟩, ((((((FinD.mk_ T5.out S5.out).set H.out hMb).set H.out (Nat.le_refl _)).set H.out (Nat.le_refl _)).set H.out (Nat.le_refl _)).set H.out (Nat.le_refl _))⟩
  | ok y =>
    obtain ⟨n, r⟩ := y
    cases hy : boundR false l r with
    | error y =>
      obtain ⟨f, e⟩ := y
      rw [show limsT false true l q = .error (f, e) by unfold limsT; rw [hx]; simp only [thenR, if_true, hy, mapR]]
      have S0 : Hid (DR (w.alloc (.cells #[.bool false, .int .u64 0, .int .u64 0, .bool false] 25)) b v l (.ok p)) := H.out.grew ((Grew.refl w).alloc _)
      have T0 : Hid (Turn [b] w (w.alloc (.cells #[.bool false, .int .u64 0, .int .u64 0, .bool false] 25))) := (Turn.refl [b] w).alloc _
      have N0 : Hid ((w.alloc (.cells #[.bool false, .int .u64 0, .int .u64 0, .bool false] 25)).heap[w.heap.size]? = some (.cells #[.bool false, .int .u64 0, .int .u64 0, .bool false] 25 (0, 0))) := heap_alloc_last _ _
      go_enter Tryz.func20, Tryz.ntmps20
      go_wp2_with fail
      refine (Calls.dok (dsmall_any S0.out 5 (by decide)) hs).mono ?_
      rintro en w1 ⟨rfl, t1, s1⟩
      have T1 : Hid (Turn [b] w w1) := T0.out.trans t1
      have S1 : Hid (DR w1 b v l (.ok q)) := s1
      have N1 : Hid (w1.heap[w.heap.size]? = some (.cells #[.bool false, .int .u64 0, .int .u64 0, .bool false] 25 (0, 0))) := t1.other N0.out (by simp; try omega)
      clear t1 s1 T0 S0 N0
      clear hs
      have c3_1 := cell_of S1.out.st.1 3
      simp at c3_1
      go_wp2_with fail
      generalize hw2 : w1.alloc (.cells #[.bool false, .int .u64 0, .int .u64 0, .bool true] 25) = w2
      have g2 : Grew w1 w2 := by rw [← hw2]; exact (Grew.refl _).alloc _
      have T2 : Hid (Turn [b] w w2) := T1.out.trans (g2.turn _)
      have S2 : Hid (DR w2 b v l (.ok q)) := S1.out.grew g2
      have N2 : Hid (w2.heap[w.heap.size]? = some (.cells #[.bool false, .int .u64 0, .int .u64 0, .bool false] 25 (0, 0))) := (g2.turn []).other N1.out (by simp)
      have M2 : Hid (w2.heap[w1.heap.size]? = some (.cells #[.bool false, .int .u64 0, .int .u64 0, .bool true] 25 (0, 0))) := by rw [← hw2]; exact heap_alloc_last _ _
      have hMs : b < w1.heap.size := S1.out.lt
      have hM1 : ¬ b = w1.heap.size := by omega
      have hMb : w.heap.size ≤ w1.heap.size := T1.out.size
      have hMN : w.heap.size < w1.heap.size := lt_of_obj N1.out
      have h01 : ¬ w.heap.size = w1.heap.size := by omega
      have h10 : ¬ w1.heap.size = w.heap.size := by omega
      clear hw2 g2 T1 S1 N1
      generalize hMM : w1.heap.size = MM at *
      clear hMM
      refine (Calls.dok (dbound_any false 32 (by decide) S2.out) hx).mono ?_
      rintro en w3 ⟨rfl, t3, s3⟩
      have T3 : Hid (Turn [b] w w3) := T2.out.trans t3
      have S3 : Hid (DR w3 b v l (.ok r)) := s3
      have N3 : Hid (w3.heap[w.heap.size]? = some (.cells #[.bool false, .int .u64 0, .int .u64 0, .bool false] 25 (0, 0))) := t3.other N2.out (by simp; try omega)
      have M3 : Hid (w3.heap[MM]? = some (.cells #[.bool false, .int .u64 0, .int .u64 0, .bool true] 25 (0, 0))) := t3.other M2.out (by simp; try omega)
      clear t3 s3 T2 S2 N2 M2
      have m3_3 := cell_of M3.out 3
      simp at m3_3
      have x1_3 := free_of M3.out 1
      have m1_3 := cell_of M3.out 1
      simp at m1_3
      go_wp2_with fail
      generalize hw4 : (w3.setCell ⟨MM, 1, none⟩ (.int .u64 n)) = w4
      have f4 : FinD b v l w w4 (.ok r) := by rw [← hw4]; exact ((FinD.mk_ T3.out S3.out).set H.out hMb)
      have T4 : Hid (Turn [b] w w4) := f4.1
      have S4 : Hid (DR w4 b v l (.ok r)) := f4.2
      have N4 : Hid (w4.heap[w.heap.size]? = some (.cells #[.bool false, .int .u64 0, .int .u64 0, .bool false] 25 (0, 0))) := by rw [← hw4]; exact (heap_other N3.out (by simpa using h01) _)
      have M4 : Hid (w4.heap[MM]? = some (.cells #[.bool false, .int .u64 n, .int .u64 0, .bool true] 25 (0, 0))) := by rw [← hw4]; exact (heap_set M3.out 1 _).trans rfl
      clear hw4 f4 x1_3 m1_3 T3 S3 M3 N3
      refine (Calls.der (dbound_any false 32 (by decide) S4.out) hy).mono ?_
      rintro en w5 ⟨⟨k1, rfl⟩, t5, s5⟩
      have T5 : Hid (Turn [b] w w5) := T4.out.trans t5
      have S5 : Hid (DR w5 b v l (.error (f, e))) := s5
      have N5 : Hid (w5.heap[w.heap.size]? = some (.cells #[.bool false, .int .u64 0, .int .u64 0, .bool false] 25 (0, 0))) := t5.other N4.out (by simp; try omega)
      have M5 : Hid (w5.heap[MM]? = some (.cells #[.bool false, .int .u64 n, .int .u64 0, .bool true] 25 (0, 0))) := t5.other M4.out (by simp; try omega)
      clear t5 s5 T4 S4 N4 M4
      have m0_5 := cell_of M5.out 0
      have m1_5 := cell_of M5.out 1
      have m2_5 := cell_of M5.out 2
      have m3_5 := cell_of M5.out 3
      have x2_5 := free_of M5.out 2
      have n0 := cell_of N5.out 0
      have y0 := free_of N5.out 0
      have n1 := cell_of N5.out 1
      have y1 := free_of N5.out 1
      have n2 := cell_of N5.out 2
      have y2 := free_of N5.out 2
      have n3 := cell_of N5.out 3
      have y3 := free_of N5.out 3
      simp at m0_5 m1_5 m2_5 m3_5 n0 n1 n2 n3
      go_wp2_with fail
      refine bodyPost_ret (v := LM.v ⟨false, n, k1, true⟩) (by simp [results, Tryz.results20, go_sem, LM.v, m0_5, m1_5, m2_5, m3_5, n0, n1, n2, n3, h10, h01]) rfl ?_
      exact ⟨⟨⟨false, n, k1, true⟩, rfl⟩, ((((((FinD.mk_ T5.out S5.out).set H.out hMb).set H.out (Nat.le_refl _)).set H.out (Nat.le_refl _)).set H.out (Nat.le_refl _)).set H.out (Nat.le_refl _))⟩
    | ok y =>
      obtain ⟨m, u⟩ := y
      rw [show limsT false true l q = .ok (⟨false, n, m, true⟩, u) by unfold limsT; rw [hx]; simp only [thenR, if_true, hy, mapR]]
      have S0 : Hid (DR (w.alloc (.cells #[.bool false, .int .u64 0, .int .u64 0, .bool false] 25)) b v l (.ok p)) := H.out.grew ((Grew.refl w).alloc _)
      have T0 : Hid (Turn [b] w (w.alloc (.cells #[.bool false, .int .u64 0, .int .u64 0, .bool false] 25))) := (Turn.refl [b] w).alloc _
      have N0 : Hid ((w.alloc (.cells #[.bool false, .int .u64 0, .int .u64 0, .bool false] 25)).heap[w.heap.size]? = some (.cells #[.bool false, .int .u64 0, .int .u64 0, .bool false] 25 (0, 0))) := heap_alloc_last _ _
      go_enter Tryz.func20, Tryz.ntmps20
      go_wp2_with fail
      refine (Calls.dok (dsmall_any S0.out 5 (by decide)) hs).mono ?_
      rintro en w1 ⟨rfl, t1, s1⟩
      have T1 : Hid (Turn [b] w w1) := T0.out.trans t1
      have S1 : Hid (DR w1 b v l (.ok q)) := s1
      have N1 : Hid (w1.heap[w.heap.size]? = some (.cells #[.bool false, .int .u64 0, .int .u64 0, .bool false] 25 (0, 0))) := t1.other N0.out (by simp; try omega)
      clear t1 s1 T0 S0 N0
      clear hs
      have c3_1 := cell_of S1.out.st.1 3
      simp at c3_1
      go_wp2_with fail
      generalize hw2 : w1.alloc (.cells #[.bool false, .int .u64 0, .int .u64 0, .bool true] 25) = w2
      have g2 : Grew w1 w2 := by rw [← hw2]; exact (Grew.refl _).alloc _
      have T2 : Hid (Turn [b] w w2) := T1.out.trans (g2.turn _)
      have S2 : Hid (DR w2 b v l (.ok q)) := S1.out.grew g2
      have N2 : Hid (w2.heap[w.heap.size]? = some (.cells #[.bool false, .int .u64 0, .int .u64 0, .bool false] 25 (0, 0))) := (g2.turn []).other N1.out (by simp)
      have M2 : Hid (w2.heap[w1.heap.size]? = some (.cells #[.bool false, .int .u64 0, .int .u64 0, .bool true] 25 (0, 0))) := by rw [← hw2]; exact heap_alloc_last _ _
      have hMs : b < w1.heap.size := S1.out.lt
      have hM1 : ¬ b = w1.heap.size := by omega
      have hMb : w.heap.size ≤ w1.heap.size := T1.out.size
      have hMN : w.heap.size < w1.heap.size := lt_of_obj N1.out
      have h01 : ¬ w.heap.size = w1.heap.size := by omega
      have h10 : ¬ w1.heap.size = w.heap.size := by omega
      clear hw2 g2 T1 S1 N1
      generalize hMM : w1.heap.size = MM at *
      clear hMM
      refine (Calls.dok (dbound_any false 32 (by decide) S2.out) hx).mono ?_
      rintro en w3 ⟨rfl, t3, s3⟩
      have T3 : Hid (Turn [b] w w3) := T2.out.trans t3
      have S3 : Hid (DR w3 b v l (.ok r)) := s3
      have N3 : Hid (w3.heap[w.heap.size]? = some (.cells #[.bool false, .int .u64 0, .int .u64 0, .bool false] 25 (0, 0))) := t3.other N2.out (by simp; try omega)
      have M3 : Hid (w3.heap[MM]? = some (.cells #[.bool false, .int .u64 0, .int .u64 0, .bool true] 25 (0, 0))) := t3.other M2.out (by simp; try omega)
      clear t3 s3 T2 S2 N2 M2
      have m3_3 := cell_of M3.out 3
      simp at m3_3
      have x1_3 := free_of M3.out 1
      have m1_3 := cell_of M3.out 1
      simp at m1_3
      go_wp2_with fail
      generalize hw4 : (w3.setCell ⟨MM, 1, none⟩ (.int .u64 n)) = w4
      have f4 : FinD b v l w w4 (.ok r) := by rw [← hw4]; exact ((FinD.mk_ T3.out S3.out).set H.out hMb)
      have T4 : Hid (Turn [b] w w4) := f4.1
      have S4 : Hid (DR w4 b v l (.ok r)) := f4.2
      have N4 : Hid (w4.heap[w.heap.size]? = some (.cells #[.bool false, .int .u64 0, .int .u64 0, .bool false] 25 (0, 0))) := by rw [← hw4]; exact (heap_other N3.out (by simpa using h01) _)
      have M4 : Hid (w4.heap[MM]? = some (.cells #[.bool false, .int .u64 n, .int .u64 0, .bool true] 25 (0, 0))) := by rw [← hw4]; exact (heap_set M3.out 1 _).trans rfl
      clear hw4 f4 x1_3 m1_3 T3 S3 M3 N3
      refine (Calls.dok (dbound_any false 32 (by decide) S4.out) hy).mono ?_
      rintro en w5 ⟨rfl, t5, s5⟩
      have T5 : Hid (Turn [b] w w5) := T4.out.trans t5
      have S5 : Hid (DR w5 b v l (.ok u)) := s5
      have N5 : Hid (w5.heap[w.heap.size]? = some (.cells #[.bool false, .int .u64 0, .int .u64 0, .bool false] 25 (0, 0))) := t5.other N4.out (by simp; try omega)
      have M5 : Hid (w5.heap[MM]? = some (.cells #[.bool false, .int .u64 n, .int .u64 0, .bool true] 25 (0, 0))) := t5.other M4.out (by simp; try omega)
      clear t5 s5 T4 S4 N4 M4
      have m0_5 := cell_of M5.out 0
      have m1_5 := cell_of M5.out 1
      have m2_5 := cell_of M5.out 2
      have m3_5 := cell_of M5.out 3
      have x2_5 := free_of M5.out 2
      have n0 := cell_of N5.out 0
      have y0 := free_of N5.out 0
      have n1 := cell_of N5.out 1
      have y1 := free_of N5.out 1
      have n2 := cell_of N5.out 2
      have y2 := free_of N5.out 2
      have n3 := cell_of N5.out 3
      have y3 := free_of N5.out 3
      simp at m0_5 m1_5 m2_5 m3_5 n0 n1 n2 n3
      go_wp2_with fail
      refine bodyPost_ret (v := LM.v ⟨false, n, m, true⟩) (by simp [results, Tryz.results20, go_sem, LM.v, m0_5, m1_5, m2_5, m3_5, n0, n1, n2, n3, h10, h01]) rfl ?_
      exact ⟨rfl, ((((((FinD.mk_ T5.out S5.out).set H.out hMb).set H.out (Nat.le_refl _)).set H.out (Nat.le_refl _)).set H.out (Nat.le_refl _)).set H.out (Nat.le_refl _))⟩
set_option maxRecDepth 100000 in
set_option maxHeartbeats 1000000 in
theorem dlim_4 {w : World} {b : Nat} {v : Value} {l : List Int} {p q : Nat} (h : DR w b v l (.ok p)) (hs : belowR ((5 : Nat) + 1 : Int) l p = .ok (4, q)) :
    Calls Tryz.prog 20 #[.pointer (some ⟨b, 0, none⟩)] w (DAns LM.v b v l w (limsT true false l q)) := by
  have H : Hid (DR w b v l (.ok p)) := h
  have hb : b < w.heap.size := h.lt
  have hl := h.len
  have c1_0 := cell_of h.st.1 1
  simp at c1_0
  clear h
  cases hx : boundR true l q with
  | error y =>
    obtain ⟨f, e⟩ := y
    rw [show limsT true false l q = .error (f, e) by unfold limsT; rw [hx]; rfl]
    have S0 : Hid (DR (w.alloc (.cells #[.bool false, .int .u64 0, .int .u64 0, .bool false] 25)) b v l (.ok p)) := H.out.grew ((Grew.refl w).alloc _)
    have T0 : Hid (Turn [b] w (w.alloc (.cells #[.bool false, .int .u64 0, .int .u64 0, .bool false] 25))) := (Turn.refl [b] w).alloc _
    have N0 : Hid ((w.alloc (.cells #[.bool false, .int .u64 0, .int .u64 0, .bool false] 25)).heap[w.heap.size]? = some (.cells #[.bool false, .int .u64 0, .int .u64 0, .bool false] 25 (0, 0))) := heap_alloc_last _ _
    go_enter Tryz.func20, Tryz.ntmps20
    go_wp2_with fail
    refine (Calls.dok (dsmall_any S0.out 5 (by decide)) hs).mono ?_
    rintro en w1 ⟨rfl, t1, s1⟩
    have T1 : Hid (Turn [b] w w1) := T0.out.trans t1
    have S1 : Hid (DR w1 b v l (.ok q)) := s1
    have N1 : Hid (w1.heap[w.heap.size]? = some (.cells #[.bool false, .int .u64 0, .int .u64 0, .bool false] 25 (0, 0))) := t1.other N0.out (by simp; try omega)
    clear t1 s1 T0 S0 N0
    clear hs
    have c3_1 := cell_of S1.out.st.1 3
    simp at c3_1
    go_wp2_with fail
    generalize hw2 : w1.alloc (.cells #[.bool true, .int .u64 0, .int .u64 0, .bool false] 25) = w2
    have g2 : Grew w1 w2 := by rw [← hw2]; exact (Grew.refl _).alloc _
    have T2 : Hid (Turn [b] w w2) := T1.out.trans (g2.turn _)
    have S2 : Hid (DR w2 b v l (.ok q)) := S1.out.grew g2
    have N2 : Hid (w2.heap[w.heap.size]? = some (.cells #[.bool false, .int .u64 0, .int .u64 0, .bool false] 25 (0, 0))) := (g2.turn []).other N1.out (by simp)
    have M2 : Hid (w2.heap[w1.heap.size]? = some (.cells #[.bool true, .int .u64 0, .int .u64 0, .bool false] 25 (0, 0))) := by rw [← hw2]; exact heap_alloc_last _ _
    have hMs : b < w1.heap.size := S1.out.lt
    have hM1 : ¬ b = w1.heap.size := by omega
    have hMb : w.heap.size ≤ w1.heap.size := T1.out.size
    have hMN : w.heap.size < w1.heap.size := lt_of_obj N1.out
    have h01 : ¬ w.heap.size = w1.heap.size := by omega
    have h10 : ¬ w1.heap.size = w.heap.size := by omega
    clear hw2 g2 T1 S1 N1
    generalize hMM : w1.heap.size = MM at *
    clear hMM
    refine (Calls.der (dbound_any true 64 (by decide) S2.out) hx).mono ?_
    rintro en w3 ⟨⟨k0, rfl⟩, t3, s3⟩
    have T3 : Hid (Turn [b] w w3) := T2.out.trans t3
    have S3 : Hid (DR w3 b v l (.error (f, e))) := s3
    have N3 : Hid (w3.heap[w.heap.size]? = some (.cells #[.bool false, .int .u64 0, .int .u64 0, .bool false] 25 (0, 0))) := t3.other N2.out (by simp; try omega)
    have M3 : Hid (w3.heap[MM]? = some (.cells #[.bool true, .int .u64 0, .int .u64 0, .bool false] 25 (0, 0))) := t3.other M2.out (by simp; try omega)
    clear t3 s3 T2 S2 N2 M2
    have m3_3 := cell_of M3.out 3
    simp at m3_3
    have m0_3 := cell_of M3.out 0
    have m1_3 := cell_of M3.out 1
    have m2_3 := cell_of M3.out 2
    have m3_3 := cell_of M3.out 3
    have x1_3 := free_of M3.out 1
    have n0 := cell_of N3.out 0
    have y0 := free_of N3.out 0
    have n1 := cell_of N3.out 1
    have y1 := free_of N3.out 1
    have n2 := cell_of N3.out 2
    have y2 := free_of N3.out 2
    have n3 := cell_of N3.out 3
    have y3 := free_of N3.out 3
    simp at m0_3 m1_3 m2_3 m3_3 n0 n1 n2 n3
    go_wp2_with fail
    refine bodyPost_ret (v := LM.v ⟨true, k0, 0, false⟩) (by simp [results, Tryz.results20, go_sem, LM.v, m0_3, m1_3, m2_3, m3_3, n0, n1, n2, n3, h10, h01]) rfl ?_
    exact ⟨⟨⟨true, k0, 0, false⟩, rfl⟩, ((((((FinD.mk_ T3.out S3.out).set H.out hMb).set H.out (Nat.le_refl _)).set H.out (Nat.le_refl _)).set H.out (Nat.le_refl _)).set H.out (Nat.le_refl _))⟩
  | ok y =>
    obtain ⟨n, r⟩ := y
    rw [show limsT true false l q = .ok (⟨true, n, 0, false⟩, r) by unfold limsT; rw [hx]; rfl]
    have S0 : Hid (DR (w.alloc (.cells #[.bool false, .int .u64 0, .int .u64 0, .bool false] 25)) b v l (.ok p)) := H.out.grew ((Grew.refl w).alloc _)
    have T0 : Hid (Turn [b] w (w.alloc (.cells #[.bool false, .int .u64 0, .int .u64 0, .bool false] 25))) := (Turn.refl [b] w).alloc _
    have N0 : Hid ((w.alloc (.cells #[.bool false, .int .u64 0, .int .u64 0, .bool false] 25)).heap[w.heap.size]? = some (.cells #[.bool false, .int .u64 0, .int .u64 0, .bool false] 25 (0, 0))) := heap_alloc_last _ _
    go_enter Tryz.func20, Tryz.ntmps20
    go_wp2_with fail
    refine (Calls.dok (dsmall_any S0.out 5 (by decide)) hs).mono ?_
    rintro en w1 ⟨rfl, t1, s1⟩
    have T1 : Hid (Turn [b] w w1) := T0.out.trans t1
    have S1 : Hid (DR w1 b v l (.ok q)) := s1
    have N1 : Hid (w1.heap[w.heap.size]? = some (.cells #[.bool false, .int .u64 0, .int .u64 0, .bool false] 25 (0, 0))) := t1.other N0.out (by simp; try omega)
    clear t1 s1 T0 S0 N0
    clear hs
    have c3_1 := cell_of S1.out.st.1 3
    simp at c3_1
    go_wp2_with fail
    generalize hw2 : w1.alloc (.cells #[.bool true, .int .u64 0, .int .u64 0, .bool false] 25) = w2
    have g2 : Grew w1 w2 := by rw [← hw2]; exact (Grew.refl _).alloc _
    have T2 : Hid (Turn [b] w w2) := T1.out.trans (g2.turn _)
    have S2 : Hid (DR w2 b v l (.ok q)) := S1.out.grew g2
    have N2 : Hid (w2.heap[w.heap.size]? = some (.cells #[.bool false, .int .u64 0, .int .u64 0, .bool false] 25 (0, 0))) := (g2.turn []).other N1.out (by simp)
    have M2 : Hid (w2.heap[w1.heap.size]? = some (.cells #[.bool true, .int .u64 0, .int .u64 0, .bool false] 25 (0, 0))) := by rw [← hw2]; exact heap_alloc_last _ _
    have hMs : b < w1.heap.size := S1.out.lt
    have hM1 : ¬ b = w1.heap.size := by omega
    have hMb : w.heap.size ≤ w1.heap.size := T1.out.size
    have hMN : w.heap.size < w1.heap.size := lt_of_obj N1.out
    have h01 : ¬ w.heap.size = w1.heap.size := by omega
    have h10 : ¬ w1.heap.size = w.heap.size := by omega
    clear hw2 g2 T1 S1 N1
    generalize hMM : w1.heap.size = MM at *
    clear hMM
    refine (Calls.dok (dbound_any true 64 (by decide) S2.out) hx).mono ?_
    rintro en w3 ⟨rfl, t3, s3⟩
    have T3 : Hid (Turn [b] w w3) := T2.out.trans t3
    have S3 : Hid (DR w3 b v l (.ok r)) := s3
    have N3 : Hid (w3.heap[w.heap.size]? = some (.cells #[.bool false, .int .u64 0, .int .u64 0, .bool false] 25 (0, 0))) := t3.other N2.out (by simp; try omega)
    have M3 : Hid (w3.heap[MM]? = some (.cells #[.bool true, .int .u64 0, .int .u64 0, .bool false] 25 (0, 0))) := t3.other M2.out (by simp; try omega)
    clear t3 s3 T2 S2 N2 M2
    have m3_3 := cell_of M3.out 3
    simp at m3_3
    have m0_3 := cell_of M3.out 0
    have m1_3 := cell_of M3.out 1
    have m2_3 := cell_of M3.out 2
    have m3_3 := cell_of M3.out 3
    have x1_3 := free_of M3.out 1
    have n0 := cell_of N3.out 0
    have y0 := free_of N3.out 0
    have n1 := cell_of N3.out 1
    have y1 := free_of N3.out 1
    have n2 := cell_of N3.out 2
    have y2 := free_of N3.out 2
    have n3 := cell_of N3.out 3
    have y3 := free_of N3.out 3
    simp at m0_3 m1_3 m2_3 m3_3 n0 n1 n2 n3
    go_wp2_with fail
    refine bodyPost_ret (v := LM.v ⟨true, n, 0, false⟩) (by simp [results, Tryz.results20, go_sem, LM.v, m0_3, m1_3, m2_3, m3_3, n0, n1, n2, n3, h10, h01]) rfl ?_
    exact ⟨rfl, ((((((FinD.mk_ T3.out S3.out).set H.out hMb).set H.out (Nat.le_refl _)).set H.out (Nat.le_refl _)).set H.out (Nat.le_refl _)).set H.out (Nat.le_refl _))⟩
set_option maxRecDepth 100000 in
set_option maxHeartbeats 1000000 in
theorem dlim_5 {w : World} {b : Nat} {v : Value} {l : List Int} {p q : Nat} (h : DR w b v l (.ok p)) (hs : belowR ((5 : Nat) + 1 : Int) l p = .ok (5, q)) :
    Calls Tryz.prog 20 #[.pointer (some ⟨b, 0, none⟩)] w (DAns LM.v b v l w (limsT true true l q)) := by
  have H : Hid (DR w b v l (.ok p)) := h
  have hb : b < w.heap.size := h.lt
  have hl := h.len
  have c1_0 := cell_of h.st.1 1
  simp at c1_0
  clear h
  cases hx : boundR true l q with
  | error y =>
    obtain ⟨f, e⟩ := y
    rw [show limsT true true l q = .error (f, e) by unfold limsT; rw [hx]; rfl]
    have S0 : Hid (DR (w.alloc (.cells #[.bool false, .int .u64 0, .int .u64 0, .bool false] 25)) b v l (.ok p)) := H.out.grew ((Grew.refl w).alloc _)
    have T0 : Hid (Turn [b] w (w.alloc (.cells #[.bool false, .int .u64 0, .int .u64 0, .bool false] 25))) := (Turn.refl [b] w).alloc _
    have N0 : Hid ((w.alloc (.cells #[.bool false, .int .u64 0, .int .u64 0, .bool false] 25)).heap[w.heap.size]? = some (.cells #[.bool false, .int .u64 0, .int .u64 0, .bool false] 25 (0, 0))) := heap_alloc_last _ _
    go_enter Tryz.func20, Tryz.ntmps20
    go_wp2_with fail
    refine (Calls.dok (dsmall_any S0.out 5 (by decide)) hs).mono ?_
    rintro en w1 ⟨rfl, t1, s1⟩
    have T1 : Hid (Turn [b] w w1) := T0.out.trans t1
    have S1 : Hid (DR w1 b v l (.ok q)) := s1
    have N1 : Hid (w1.heap[w.heap.size]? = some (.cells #[.bool false, .int .u64 0, .int .u64 0, .bool false] 25 (0, 0))) := t1.other N0.out (by simp; try omega)
    clear t1 s1 T0 S0 N0
    clear hs
    have c3_1 := cell_of S1.out.st.1 3
    simp at c3_1
    go_wp2_with fail
    generalize hw2 : w1.alloc (.cells #[.bool true, .int .u64 0, .int .u64 0, .bool true] 25) = w2
    have g2 : Grew w1 w2 := by rw [← hw2]; exact (Grew.refl _).alloc _
    have T2 : Hid (Turn [b] w w2) := T1.out.trans (g2.turn _)
    have S2 : Hid (DR w2 b v l (.ok q)) := S1.out.grew g2
    have N2 : Hid (w2.heap[w.heap.size]? = some (.cells #[.bool false, .int .u64 0, .int .u64 0, .bool false] 25 (0, 0))) := (g2.turn []).other N1.out (by simp)
    have M2 : Hid (w2.heap[w1.heap.size]? = some (.cells #[.bool true, .int .u64 0, .int .u64 0, .bool true] 25 (0, 0))) := by rw [← hw2]; exact heap_alloc_last _ _
    have hMs : b < w1.heap.size := S1.out.lt
    have hM1 : ¬ b = w1.heap.size := by omega
    have hMb : w.heap.size ≤ w1.heap.size := T1.out.size
    have hMN : w.heap.size < w1.heap.size := lt_of_obj N1.out
    have h01 : ¬ w.heap.size = w1.heap.size := by omega
    have h10 : ¬ w1.heap.size = w.heap.size := by omega
    clear hw2 g2 T1 S1 N1
    generalize hMM : w1.heap.size = MM at *
    clear hMM
    refine (Calls.der (dbound_any true 64 (by decide) S2.out) hx).mono ?_
    rintro en w3 ⟨⟨k0, rfl⟩, t3, s3⟩
    have T3 : Hid (Turn [b] w w3) := T2.out.trans t3
    have S3 : Hid (DR w3 b v l (.error (f, e))) := s3
    have N3 : Hid (w3.heap[w.heap.size]? = some (.cells #[.bool false, .int .u64 0, .int .u64 0, .bool false] 25 (0, 0))) := t3.other N2.out (by simp; try omega)
    have M3 : Hid (w3.heap[MM]? = some (.cells #[.bool true, .int .u64 0, .int .u64 0, .bool true] 25 (0, 0))) := t3.other M2.out (by simp; try omega)
    clear t3 s3 T2 S2 N2 M2
    have m3_3 := cell_of M3.out 3
    simp at m3_3
    have x1_3 := free_of M3.out 1
    have m1_3 := cell_of M3.out 1
    simp at m1_3
    go_wp2_with fail
    generalize hw4 : (w3.setCell ⟨MM, 1, none⟩ (.int .u64 k0)) = w4
    have f4 : FinD b v l w w4 (.error (f, e)) := by rw [← hw4]; exact ((FinD.mk_ T3.out S3.out).set H.out hMb)
    have T4 : Hid (Turn [b] w w4) := f4.1
    have S4 : Hid (DR w4 b v l (.error (f, e))) := f4.2
    have N4 : Hid (w4.heap[w.heap.size]? = some (.cells #[.bool false, .int .u64 0, .int .u64 0, .bool false] 25 (0, 0))) := by rw [← hw4]; exact (heap_other N3.out (by simpa using h01) _)
    have M4 : Hid (w4.heap[MM]? = some (.cells #[.bool true, .int .u64 k0, .int .u64 0, .bool true] 25 (0, 0))) := by rw [← hw4]; exact (heap_set M3.out 1 _).trans rfl
    clear hw4 f4 x1_3 m1_3 T3 S3 M3 N3
    refine (Calls.der (dbound_any true 64 (by decide) S4.out) rfl).mono ?_
    rintro en w5 ⟨⟨k1, rfl⟩, t5, s5⟩
    have T5 : Hid (Turn [b] w w5) := T4.out.trans t5
    have S5 : Hid (DR w5 b v l (.error (f, e))) := s5
    have N5 : Hid (w5.heap[w.heap.size]? = some (.cells #[.bool false, .int .u64 0, .int .u64 0, .bool false] 25 (0, 0))) := t5.other N4.out (by simp; try omega)
    have M5 : Hid (w5.heap[MM]? = some (.cells #[.bool true, .int .u64 k0, .int .u64 0, .bool true] 25 (0, 0))) := t5.other M4.out (by simp; try omega)
    clear t5 s5 T4 S4 N4 M4
    have m0_5 := cell_of M5.out 0
    have m1_5 := cell_of M5.out 1
    have m2_5 := cell_of M5.out 2
    have m3_5 := cell_of M5.out 3
    have x2_5 := free_of M5.out 2
    have n0 := cell_of N5.out 0
    have y0 := free_of N5.out 0
    have n1 := cell_of N5.out 1
    have y1 := free_of N5.out 1
    have n2 := cell_of N5.out 2
    have y2 := free_of N5.out 2
    have n3 := cell_of N5.out 3
    have y3 := free_of N5.out 3
    simp at m0_5 m1_5 m2_5 m3_5 n0 n1 n2 n3
    go_wp2_with fail
    refine bodyPost_ret (v := LM.v ⟨true, k0, k1, true⟩) (by simp [results, Tryz.results20, go_sem, LM.v, m0_5, m1_5, m2_5, m3_5, n0, n1, n2, n3, h10, h01]) rfl ?_
    exact ⟨⟨⟨true, k0, k1, true⟩, rfl⟩, ((((((FinD.mk_ T5.out S5.out).set H.out hMb).set H.out (Nat.le_refl _)).set H.out (Nat.le_refl _)).set H.out (Nat.le_refl _)).set H.out (Nat.le_refl _))⟩
  | ok y =>
    obtain ⟨n, r⟩ := y
    cases hy : boundR true l r with
    | error y =>
      obtain ⟨f, e⟩ := y
      rw [show limsT true true l q = .error (f, e) by unfold limsT; rw [hx]; simp only [thenR, if_true, hy, mapR]]
      have S0 : Hid (DR (w.alloc (.cells #[.bool false, .int .u64 0, .int .u64 0, .bool false] 25)) b v l (.ok p)) := H.out.grew ((Grew.refl w).alloc _)
      have T0 : Hid (Turn [b] w (w.alloc (.cells #[.bool false, .int .u64 0, .int .u64 0, .bool false] 25))) := (Turn.refl [b] w).alloc _
      have N0 : Hid ((w.alloc (.cells #[.bool false, .int .u64 0, .int .u64 0, .bool false] 25)).heap[w.heap.size]? = some (.cells #[.bool false, .int .u64 0, .int .u64 0, .bool false] 25 (0, 0))) := heap_alloc_last _ _
      go_enter Tryz.func20, Tryz.ntmps20
      go_wp2_with fail
      refine (Calls.dok (dsmall_any S0.out 5 (by decide)) hs).mono ?_
      rintro en w1 ⟨rfl, t1, s1⟩
      have T1 : Hid (Turn [b] w w1) := T0.out.trans t1
      have S1 : Hid (DR w1 b v l (.ok q)) := s1
      have N1 : Hid (w1.heap[w.heap.size]? = some (.cells #[.bool false, .int .u64 0, .int .u64 0, .bool false] 25 (0, 0))) := t1.other N0.out (by simp; try omega)
      clear t1 s1 T0 S0 N0
      clear hs
      have c3_1 := cell_of S1.out.st.1 3
      simp at c3_1
      go_wp2_with fail
      generalize hw2 : w1.alloc (.cells #[.bool true, .int .u64 0, .int .u64 0, .bool true] 25) = w2
      have g2 : Grew w1 w2 := by rw [← hw2]; exact (Grew.refl _).alloc _
      have T2 : Hid (Turn [b] w w2) := T1.out.trans (g2.turn _)
      have S2 : Hid (DR w2 b v l (.ok q)) := S1.out.grew g2
      have N2 : Hid (w2.heap[w.heap.size]? = some (.cells #[.bool false, .int .u64 0, .int .u64 0, .bool false] 25 (0, 0))) := (g2.turn []).other N1.out (by simp)
      have M2 : Hid (w2.heap[w1.heap.size]? = some (.cells #[.bool true, .int .u64 0, .int .u64 0, .bool true] 25 (0, 0))) := by rw [← hw2]; exact heap_alloc_last _ _
      have hMs : b < w1.heap.size := S1.out.lt
      have hM1 : ¬ b = w1.heap.size := by omega
      have hMb : w.heap.size ≤ w1.heap.size := T1.out.size
      have hMN : w.heap.size < w1.heap.size := lt_of_obj N1.out
      have h01 : ¬ w.heap.size = w1.heap.size := by omega
      have h10 : ¬ w1.heap.size = w.heap.size := by omega
      clear hw2 g2 T1 S1 N1
      generalize hMM : w1.heap.size = MM at *
      clear hMM
      refine (Calls.dok (dbound_any true 64 (by decide) S2.out) hx).mono ?_
      rintro en w3 ⟨rfl, t3, s3⟩
      have T3 : Hid (Turn [b] w w3) := T2.out.trans t3
      have S3 : Hid (DR w3 b v l (.ok r)) := s3
      have N3 : Hid (w3.heap[w.heap.size]? = some (.cells #[.bool false, .int .u64 0, .int .u64 0, .bool false] 25 (0, 0))) := t3.other N2.out (by simp; try omega)
      have M3 : Hid (w3.heap[MM]? = some (.cells #[.bool true, .int .u64 0, .int .u64 0, .bool true] 25 (0, 0))) := t3.other M2.out (by simp; try omega)
      clear t3 s3 T2 S2 N2 M2
      have m3_3 := cell_of M3.out 3
      simp at m3_3
      have x1_3 := free_of M3.out 1
      have m1_3 := cell_of M3.out 1
      simp at m1_3
      go_wp2_with fail
      generalize hw4 : (w3.setCell ⟨MM, 1, none⟩ (.int .u64 n)) = w4
      have f4 : FinD b v l w w4 (.ok r) := by rw [← hw4]; exact ((FinD.mk_ T3.out S3.out).set H.out hMb)
      have T4 : Hid (Turn [b] w w4) := f4.1
      have S4 : Hid (DR w4 b v l (.ok r)) := f4.2
      have N4 : Hid (w4.heap[w.heap.size]? = some (.cells #[.bool false, .int .u64 0, .int .u64 0, .bool false] 25 (0, 0))) := by rw [← hw4]; exact (heap_other N3.out (by simpa using h01) _)
      have M4 : Hid (w4.heap[MM]? = some (.cells #[.bool true, .int .u64 n, .int .u64 0, .bool true] 25 (0, 0))) := by rw [← hw4]; exact (heap_set M3.out 1 _).trans rfl
      clear hw4 f4 x1_3 m1_3 T3 S3 M3 N3
      refine (Calls.der (dbound_any true 64 (by decide) S4.out) hy).mono ?_
      rintro en w5 ⟨⟨k1, rfl⟩, t5, s5⟩
      have T5 : Hid (Turn [b] w w5) := T4.out.trans t5
      have S5 : Hid (DR w5 b v l (.error (f, e))) := s5
      have N5 : Hid (w5.heap[w.heap.size]? = some (.cells #[.bool false, .int .u64 0, .int .u64 0, .bool false] 25 (0, 0))) := t5.other N4.out (by simp; try omega)
      have M5 : Hid (w5.heap[MM]? = some (.cells #[.bool true, .int .u64 n, .int .u64 0, .bool true] 25 (0, 0))) := t5.other M4.out (by simp; try omega)
      clear t5 s5 T4 S4 N4 M4
      have m0_5 := cell_of M5.out 0
      have m1_5 := cell_of M5.out 1
      have m2_5 := cell_of M5.out 2
      have m3_5 := cell_of M5.out 3
      have x2_5 := free_of M5.out 2
      have n0 := cell_of N5.out 0
      have y0 := free_of N5.out 0
      have n1 := cell_of N5.out 1
      have y1 := free_of N5.out 1
      have n2 := cell_of N5.out 2
      have y2 := free_of N5.out 2
      have n3 := cell_of N5.out 3
      have y3 := free_of N5.out 3
      simp at m0_5 m1_5 m2_5 m3_5 n0 n1 n2 n3
      go_wp2_with fail
      refine bodyPost_ret (v := LM.v ⟨true, n, k1, true⟩) (by simp [results, Tryz.results20, go_sem, LM.v, m0_5, m1_5, m2_5, m3_5, n0, n1, n2, n3, h10, h01]) rfl ?_
      exact ⟨⟨⟨true, n, k1, true⟩, rfl⟩, ((((((FinD.mk_ T5.out S5.out).set H.out hMb).set H.out (Nat.le_refl _)).set H.out (Nat.le_refl _)).set H.out (Nat.le_refl _)).set H.out (Nat.le_refl _))⟩
    | ok y =>
      obtain ⟨m, u⟩ := y
      rw [show limsT true true l q = .ok (⟨true, n, m, true⟩, u) by unfold limsT; rw [hx]; simp only [thenR, if_true, hy, mapR]]
      have S0 : Hid (DR (w.alloc (.cells #[.bool false, .int .u64 0, .int .u64 0, .bool false] 25)) b v l (.ok p)) := H.out.grew ((Grew.refl w).alloc _)
      have T0 : Hid (Turn [b] w (w.alloc (.cells #[.bool false, .int .u64 0, .int .u64 0, .bool false] 25))) := (Turn.refl [b] w).alloc _
      have N0 : Hid ((w.alloc (.cells #[.bool false, .int .u64 0, .int .u64 0, .bool false] 25)).heap[w.heap.size]? = some (.cells #[.bool false, .int .u64 0, .int .u64 0, .bool false] 25 (0, 0))) := heap_alloc_last _ _
      go_enter Tryz.func20, Tryz.ntmps20
      go_wp2_with fail
      refine (Calls.dok (dsmall_any S0.out 5 (by decide)) hs).mono ?_
      rintro en w1 ⟨rfl, t1, s1⟩
      have T1 : Hid (Turn [b] w w1) := T0.out.trans t1
      have S1 : Hid (DR w1 b v l (.ok q)) := s1
      have N1 : Hid (w1.heap[w.heap.size]? = some (.cells #[.bool false, .int .u64 0, .int .u64 0, .bool false] 25 (0, 0))) := t1.other N0.out (by simp; try omega)
      clear t1 s1 T0 S0 N0
      clear hs
      have c3_1 := cell_of S1.out.st.1 3
      simp at c3_1
      go_wp2_with fail
      generalize hw2 : w1.alloc (.cells #[.bool true, .int .u64 0, .int .u64 0, .bool true] 25) = w2
      have g2 : Grew w1 w2 := by rw [← hw2]; exact (Grew.refl _).alloc _
      have T2 : Hid (Turn [b] w w2) := T1.out.trans (g2.turn _)
      have S2 : Hid (DR w2 b v l (.ok q)) := S1.out.grew g2
      have N2 : Hid (w2.heap[w.heap.size]? = some (.cells #[.bool false, .int .u64 0, .int .u64 0, .bool false] 25 (0, 0))) := (g2.turn []).other N1.out (by simp)
      have M2 : Hid (w2.heap[w1.heap.size]? = some (.cells #[.bool true, .int .u64 0, .int .u64 0, .bool true] 25 (0, 0))) := by rw [← hw2]; exact heap_alloc_last _ _
      have hMs : b < w1.heap.size := S1.out.lt
      have hM1 : ¬ b = w1.heap.size := by omega
      have hMb : w.heap.size ≤ w1.heap.size := T1.out.size
      have hMN : w.heap.size < w1.heap.size := lt_of_obj N1.out
      have h01 : ¬ w.heap.size = w1.heap.size := by omega
      have h10 : ¬ w1.heap.size = w.heap.size := by omega
      clear hw2 g2 T1 S1 N1
      generalize hMM : w1.heap.size = MM at *
      clear hMM
      refine (Calls.dok (dbound_any true 64 (by decide) S2.out) hx).mono ?_
      rintro en w3 ⟨rfl, t3, s3⟩
      have T3 : Hid (Turn [b] w w3) := T2.out.trans t3
      have S3 : Hid (DR w3 b v l (.ok r)) := s3
      have N3 : Hid (w3.heap[w.heap.size]? = some (.cells #[.bool false, .int .u64 0, .int .u64 0, .bool false] 25 (0, 0))) := t3.other N2.out (by simp; try omega)
      have M3 : Hid (w3.heap[MM]? = some (.cells #[.bool true, .int .u64 0, .int .u64 0, .bool true] 25 (0, 0))) := t3.other M2.out (by simp; try omega)
      clear t3 s3 T2 S2 N2 M2
      have m3_3 := cell_of M3.out 3
      simp at m3_3
      have x1_3 := free_of M3.out 1
      have m1_3 := cell_of M3.out 1
      simp at m1_3
      go_wp2_with fail
      generalize hw4 : (w3.setCell ⟨MM, 1, none⟩ (.int .u64 n)) = w4
      have f4 : FinD b v l w w4 (.ok r) := by rw [← hw4]; exact ((FinD.mk_ T3.out S3.out).set H.out hMb)
      have T4 : Hid (Turn [b] w w4) := f4.1
      have S4 : Hid (DR w4 b v l (.ok r)) := f4.2
      have N4 : Hid (w4.heap[w.heap.size]? = some (.cells #[.bool false, .int .u64 0, .int .u64 0, .bool false] 25 (0, 0))) := by rw [← hw4]; exact (heap_other N3.out (by simpa using h01) _)
      have M4 : Hid (w4.heap[MM]? = some (.cells #[.bool true, .int .u64 n, .int .u64 0, .bool true] 25 (0, 0))) := by rw [← hw4]; exact (heap_set M3.out 1 _).trans rfl
      clear hw4 f4 x1_3 m1_3 T3 S3 M3 N3
      refine (Calls.dok (dbound_any true 64 (by decide) S4.out) hy).mono ?_
      rintro en w5 ⟨rfl, t5, s5⟩
      have T5 : Hid (Turn [b] w w5) := T4.out.trans t5
      have S5 : Hid (DR w5 b v l (.ok u)) := s5
      have N5 : Hid (w5.heap[w.heap.size]? = some (.cells #[.bool false, .int .u64 0, .int .u64 0, .bool false] 25 (0, 0))) := t5.other N4.out (by simp; try omega)
      have M5 : Hid (w5.heap[MM]? = some (.cells #[.bool true, .int .u64 n, .int .u64 0, .bool true] 25 (0, 0))) := t5.other M4.out (by simp; try omega)
      clear t5 s5 T4 S4 N4 M4
      have m0_5 := cell_of M5.out 0
      have m1_5 := cell_of M5.out 1
      have m2_5 := cell_of M5.out 2
      have m3_5 := cell_of M5.out 3
      have x2_5 := free_of M5.out 2
      have n0 := cell_of N5.out 0
      have y0 := free_of N5.out 0
      have n1 := cell_of N5.out 1
      have y1 := free_of N5.out 1
      have n2 := cell_of N5.out 2
      have y2 := free_of N5.out 2
      have n3 := cell_of N5.out 3
      have y3 := free_of N5.out 3
      simp at m0_5 m1_5 m2_5 m3_5 n0 n1 n2 n3
      go_wp2_with fail
      refine bodyPost_ret (v := LM.v ⟨true, n, m, true⟩) (by simp [results, Tryz.results20, go_sem, LM.v, m0_5, m1_5, m2_5, m3_5, n0, n1, n2, n3, h10, h01]) rfl ?_
      exact ⟨rfl, ((((((FinD.mk_ T5.out S5.out).set H.out hMb).set H.out (Nat.le_refl _)).set H.out (Nat.le_refl _)).set H.out (Nat.le_refl _)).set H.out (Nat.le_refl _))⟩
theorem dlimits_ok {w : World} {b : Nat} {v : Value} {l : List Int} {p : Nat} (h : DR w b v l (.ok p)) :
    Calls Tryz.prog 20 #[.pointer (some ⟨b, 0, none⟩)] w (DAns LM.v b v l w (limsR l p)) := by
  cases hs : belowR ((5 : Nat) + 1 : Int) l p with
  | error y =>
    obtain ⟨f, e⟩ := y
    have : limsR l p = .error (f, e) := by
      unfold belowR at hs
      unfold limsR
      by_cases hp : p < l.length
      · rw [atR_in hp] at hs ⊢
        try dsimp only at hs
        split at hs
        · have : (f, e) = (p, 4) := by cases hs; rfl
          rw [this, if_neg (by omega), if_neg (by omega), if_neg (by omega), if_neg (by omega)]
        · cases hs
      · rw [atR_no hp] at hs ⊢
        simpa using hs
    rw [this]
    exact dlim_er h f e hs
  | ok y =>
    obtain ⟨c, q⟩ := y
    obtain ⟨hp, hc, rfl⟩ := belowR_is hs
    have hbd := belowR_lt h.byt hs
    unfold limsR
    rw [atR_in hp, hc]
    obtain rfl | rfl | rfl | rfl | rfl | rfl : c = 0 ∨ c = 1 ∨ c = 2 ∨ c = 3 ∨ c = 4 ∨ c = 5 := by omega
    · exact dlim_0 h hs
    · exact dlim_1 h hs
    · exact dlim_2 h hs
    · exact dlim_3 h hs
    · exact dlim_4 h hs
    · exact dlim_5 h hs
set_option maxRecDepth 100000 in
set_option maxHeartbeats 1000000 in
theorem dlimitsIf_any {w : World} {b : Nat} {v : Value} {l : List Int} {st : Except (Nat × Nat) Nat} (h : DR w b v l st) :
    Calls Tryz.prog 48 #[.pointer (some ⟨b, 0, none⟩)] w (DAns LM.v b v l w (runR (limsR l) st)) := by
  have H : Hid (DR w b v l st) := h
  have hb : b < w.heap.size := h.lt
  have hl := h.len
  clear h
  cases st with
  | error x =>
    obtain ⟨f, e⟩ := x
    simp only [runR]
    obtain ⟨a0, o0, ha0, he0⟩ := H.out.st
    have c3_0 := cell_of o0 3
    simp at c3_0
    have dn0 : ((e : Int) != 0) = true := by first | (simp; done) | (simp; omega)
    clear o0
    have S0 : Hid (DR (w.alloc (.cells #[.bool false, .int .u64 0, .int .u64 0, .bool false] 25)) b v l (.error (f, e))) := H.out.grew ((Grew.refl w).alloc _)
    have T0 : Hid (Turn [b] w (w.alloc (.cells #[.bool false, .int .u64 0, .int .u64 0, .bool false] 25))) := (Turn.refl [b] w).alloc _
    have N0 : Hid ((w.alloc (.cells #[.bool false, .int .u64 0, .int .u64 0, .bool false] 25)).heap[w.heap.size]? = some (.cells #[.bool false, .int .u64 0, .int .u64 0, .bool false] 25 (0, 0))) := heap_alloc_last _ _
    go_enter Tryz.func48, Tryz.ntmps48
    go_wp2_with fail
    refine bodyPost_ret (v := LM.v ⟨false, 0, 0, false⟩) (by simp [results, Tryz.results48, go_sem, LM.v]) rfl ?_
    exact ⟨⟨⟨false, 0, 0, false⟩, rfl⟩, FinD.mk_ T0.out S0.out⟩
  | ok p =>
    simp only [runR]
    cases hx : limsR l p with
    | error y =>
      obtain ⟨f, e⟩ := y
      have c3_0 := cell_of H.out.st.1 3
      simp at c3_0
      have S0 : Hid (DR (w.alloc (.cells #[.bool false, .int .u64 0, .int .u64 0, .bool false] 25)) b v l (.ok p)) := H.out.grew ((Grew.refl w).alloc _)
      have T0 : Hid (Turn [b] w (w.alloc (.cells #[.bool false, .int .u64 0, .int .u64 0, .bool false] 25))) := (Turn.refl [b] w).alloc _
      have N0 : Hid ((w.alloc (.cells #[.bool false, .int .u64 0, .int .u64 0, .bool false] 25)).heap[w.heap.size]? = some (.cells #[.bool false, .int .u64 0, .int .u64 0, .bool false] 25 (0, 0))) := heap_alloc_last _ _
      go_enter Tryz.func48, Tryz.ntmps48
      go_wp2_with fail
      refine (Calls.der (dlimits_ok S0.out) hx).mono ?_
      rintro en w1 ⟨⟨y, rfl⟩, t1, s1⟩
      have T1 : Hid (Turn [b] w w1) := T0.out.trans t1
      have S1 : Hid (DR w1 b v l (.error (f, e))) := s1
      have N1 : Hid (w1.heap[w.heap.size]? = some (.cells #[.bool false, .int .u64 0, .int .u64 0, .bool false] 25 (0, 0))) := t1.other N0.out (by simp; try omega)
      clear t1 s1 T0 S0 N0
      obtain ⟨wi, mn, mx, hm⟩ := y
      unfold LM.v
      have n0 := cell_of N1.out 0
      have y0 := free_of N1.out 0
      have n1 := cell_of N1.out 1
      have y1 := free_of N1.out 1
      have n2 := cell_of N1.out 2
      have y2 := free_of N1.out 2
      have n3 := cell_of N1.out 3
      have y3 := free_of N1.out 3
      simp at n0 n1 n2 n3
      go_wp2_with fail
      refine bodyPost_ret (v := LM.v ⟨wi, mn, mx, hm⟩) (by simp [results, Tryz.results48, go_sem, LM.v, n0, n1, n2, n3]) rfl ?_
      exact ⟨⟨⟨wi, mn, mx, hm⟩, rfl⟩, (((((FinD.mk_ T1.out S1.out).set H.out (Nat.le_refl _)).set H.out (Nat.le_refl _)).set H.out (Nat.le_refl _)).set H.out (Nat.le_refl _))⟩
    | ok y =>
      obtain ⟨⟨wi, mn, mx, hm⟩, r⟩ := y
      have c3_0 := cell_of H.out.st.1 3
      simp at c3_0
      have S0 : Hid (DR (w.alloc (.cells #[.bool false, .int .u64 0, .int .u64 0, .bool false] 25)) b v l (.ok p)) := H.out.grew ((Grew.refl w).alloc _)
      have T0 : Hid (Turn [b] w (w.alloc (.cells #[.bool false, .int .u64 0, .int .u64 0, .bool false] 25))) := (Turn.refl [b] w).alloc _
      have N0 : Hid ((w.alloc (.cells #[.bool false, .int .u64 0, .int .u64 0, .bool false] 25)).heap[w.heap.size]? = some (.cells #[.bool false, .int .u64 0, .int .u64 0, .bool false] 25 (0, 0))) := heap_alloc_last _ _
      go_enter Tryz.func48, Tryz.ntmps48
      go_wp2_with fail
      refine (Calls.dok (dlimits_ok S0.out) hx).mono ?_
      rintro en w1 ⟨rfl, t1, s1⟩
      have T1 : Hid (Turn [b] w w1) := T0.out.trans t1
      have S1 : Hid (DR w1 b v l (.ok r)) := s1
      have N1 : Hid (w1.heap[w.heap.size]? = some (.cells #[.bool false, .int .u64 0, .int .u64 0, .bool false] 25 (0, 0))) := t1.other N0.out (by simp; try omega)
      clear t1 s1 T0 S0 N0
      unfold LM.v
      have n0 := cell_of N1.out 0
      have y0 := free_of N1.out 0
      have n1 := cell_of N1.out 1
      have y1 := free_of N1.out 1
      have n2 := cell_of N1.out 2
      have y2 := free_of N1.out 2
      have n3 := cell_of N1.out 3
      have y3 := free_of N1.out 3
      simp at n0 n1 n2 n3
      go_wp2_with fail
      refine bodyPost_ret (v := LM.v ⟨wi, mn, mx, hm⟩) (by simp [results, Tryz.results48, go_sem, LM.v, n0, n1, n2, n3]) rfl ?_
      exact ⟨rfl, (((((FinD.mk_ T1.out S1.out).set H.out (Nat.le_refl _)).set H.out (Nat.le_refl _)).set H.out (Nat.le_refl _)).set H.out (Nat.le_refl _))⟩
end Go.Proofs.YtemaeigfhmnapaaGreatDoor
