/-
  The document's reading: the walks of table and global; no statement is proved here.
-/
import Derived.Test.YtemaeigfhmnapaaGreatDoorDLim
import Derived.Test.YtemaeigfhmnapaaGreatDoorDTop
namespace Go.Proofs.YtemaeigfhmnapaaGreatDoor
open Go.RowKit
set_option linter.unusedVariables false
set_option linter.unusedSimpArgs false
set_option linter.constructorNameAsVariable false

theorem runR_glo (l : List Int) (st : Except (Nat × Nat) Nat) : runR (gloR l) st = thenR (runR (valR l) st) fun v q => mapR (fun m => ⟨v, m⟩) (flagR l q) := by
  cases st with
  | error e => rfl
  | ok p => rfl
theorem runR_tab (l : List Int) (st : Except (Nat × Nat) Nat) : runR (tabR l) st = thenR (runR (refR l) st) fun v q => mapR (fun m => ⟨v, m⟩) (limsR l q) := by
  cases st with
  | error e => rfl
  | ok p => rfl
set_option maxRecDepth 100000 in
set_option maxHeartbeats 1000000 in
theorem dglobal_any {w : World} {b : Nat} {v : Value} {l : List Int} {st : Except (Nat × Nat) Nat} (h : DR w b v l st) :
    Calls Tryz.prog 27 #[.pointer (some ⟨b, 0, none⟩)] w (DAns GT.v b v l w (runR (gloR l) st)) := by
  have H : Hid (DR w b v l st) := h
  have hb : b < w.heap.size := h.lt
  have HB : Hid (Byt l) := h.byt
  rw [runR_glo]
  cases hx : runR (valR l) st with
  | error y =>
    obtain ⟨f, e⟩ := y
    simp only [thenR]
    clear h
    have S0 : Hid (DR (w.alloc (.cells #[.int .i64 0, .bool false, .int .i64 0, .bool false] 40)) b v l st) := H.out.grew ((Grew.refl w).alloc _)
    have T0 : Hid (Turn [b] w (w.alloc (.cells #[.int .i64 0, .bool false, .int .i64 0, .bool false] 40))) := (Turn.refl [b] w).alloc _
    have N0 : Hid ((w.alloc (.cells #[.int .i64 0, .bool false, .int .i64 0, .bool false] 40)).heap[w.heap.size]? = some (.cells #[.int .i64 0, .bool false, .int .i64 0, .bool false] 40 (0, 0))) := heap_alloc_last _ _
    go_enter Tryz.func27, Tryz.ntmps27
    go_wp2_with fail
    refine (Calls.der (dvalR_any S0.out) hx).mono ?_
    rintro en w1 ⟨⟨y, rfl⟩, t1, s1⟩
    have T1 : Hid (Turn [b] w w1) := T0.out.trans t1
    have S1 : Hid (DR w1 b v l (.error (f, e))) := s1
    have N1 : Hid (w1.heap[w.heap.size]? = some (.cells #[.int .i64 0, .bool false, .int .i64 0, .bool false] 40 (0, 0))) := t1.other N0.out (by simp; omega)
    clear t1 s1 T0 S0 N0
    obtain ⟨vn, vb, vh⟩ := y
    have hs1 : b < w1.heap.size := S1.out.lt
    have hs2 : ¬ b = w1.heap.size := by omega
    have hs3 : w.heap.size < w1.heap.size := lt_of_obj N1.out
    have hs4 : ¬ w.heap.size = w1.heap.size := by omega
    clear hx
    obtain ⟨a1, o1, ha1, he1⟩ := S1.out.st
    have c3_1 := cell_of o1 3
    simp at c3_1
    have dn1 : ((e : Int) != 0) = true := by first | (simp; done) | (simp; omega)
    have de1 : ((e : Int) == 0) = false := by first | (simp; done) | (simp; omega)
    clear o1
    have hne : ¬ b = w.heap.size := by omega
    have n0 := cell_of N1.out 0
    have y0 := free_of N1.out 0
    have n1 := cell_of N1.out 1
    have y1 := free_of N1.out 1
    have n2 := cell_of N1.out 2
    have y2 := free_of N1.out 2
    have n3 := cell_of N1.out 3
    have y3 := free_of N1.out 3
    simp at n0 n1 n2 n3
    unfold VT.v vt
    go_wp2_with fail
    generalize hW : ((((w1.setCell ⟨w.heap.size, 0, none⟩ (.int .i64 0)).setCell ⟨w.heap.size, 1, none⟩ (.bool false)).setCell ⟨w.heap.size, 2, none⟩ (.int .i64 0)).setCell ⟨w.heap.size, 3, none⟩ (.bool false)).alloc (.cells #[.int .i64 vn, .bool vb, .int .i64 vh] 32) = W9
    have F9 : FinD b v l w W9 (.error (f, e)) := by rw [← hW]; exact (((((FinD.mk_ T1.out S1.out).set H.out (Nat.le_refl _)).set H.out (Nat.le_refl _)).set H.out (Nat.le_refl _)).set H.out (Nat.le_refl _)).grew ((Grew.refl _).alloc _)
    have O9 : W9.heap[w.heap.size]? = some (.cells #[.int .i64 0, .bool false, .int .i64 0, .bool false] 40 (0, 0)) := by
      rw [← hW]
      refine (((Grew.refl _).alloc _).turn []).other ?_ (by simp)
      rw [heap_set (heap_set (heap_set (heap_set N1.out 0 _) 1 _) 2 _) 3 _]
      simp
    have x0 := cell_of O9 0
    have x1 := cell_of O9 1
    have x2 := cell_of O9 2
    have x3 := cell_of O9 3
    simp at x0 x1 x2 x3
    clear hW
    refine bodyPost_ret (v := GT.v ⟨⟨0, false, 0⟩, false⟩) (by simp [results, Tryz.results27, go_sem, GT.v, x0, x1, x2, x3]) rfl ?_
    exact ⟨⟨⟨⟨0, false, 0⟩, false⟩, rfl⟩, F9⟩
  | ok y =>
    obtain ⟨⟨vn, vb, vh⟩, q⟩ := y
    simp only [thenR]
    clear h
    cases hy : belowR ((1 : Nat) + 1 : Int) l q with
    | error z =>
      obtain ⟨f, e⟩ := z
      have hz : flagR l q = .error (f, e) := by unfold flagR; rw [show (2 : Int) = ((1 : Nat) + 1 : Int) from rfl, hy]; rfl
      rw [hz]
      simp only [mapR]
      have C : Hid (∀ w', DR w' b v l (.ok q) → Calls Tryz.prog 30 #[.pointer (some ⟨b, 0, none⟩), .int .u8 1] w' fun en w'' => (∃ y, en = .returned (.int .u8 y)) ∧ FinD b v l w' w'' (.error (f, e))) := fun w' u => Calls.der (dsmall_any u 1 (by decide)) hy
      clear hz
      have S0 : Hid (DR (w.alloc (.cells #[.int .i64 0, .bool false, .int .i64 0, .bool false] 40)) b v l st) := H.out.grew ((Grew.refl w).alloc _)
      have T0 : Hid (Turn [b] w (w.alloc (.cells #[.int .i64 0, .bool false, .int .i64 0, .bool false] 40))) := (Turn.refl [b] w).alloc _
      have N0 : Hid ((w.alloc (.cells #[.int .i64 0, .bool false, .int .i64 0, .bool false] 40)).heap[w.heap.size]? = some (.cells #[.int .i64 0, .bool false, .int .i64 0, .bool false] 40 (0, 0))) := heap_alloc_last _ _
      go_enter Tryz.func27, Tryz.ntmps27
      go_wp2_with fail
      refine (Calls.dok (dvalR_any S0.out) hx).mono ?_
      rintro en w1 ⟨rfl, t1, s1⟩
      have T1 : Hid (Turn [b] w w1) := T0.out.trans t1
      have S1 : Hid (DR w1 b v l (.ok q)) := s1
      have N1 : Hid (w1.heap[w.heap.size]? = some (.cells #[.int .i64 0, .bool false, .int .i64 0, .bool false] 40 (0, 0))) := t1.other N0.out (by simp; omega)
      clear t1 s1 T0 S0 N0
      have hs1 : b < w1.heap.size := S1.out.lt
      have hs2 : ¬ b = w1.heap.size := by omega
      have hs3 : w.heap.size < w1.heap.size := lt_of_obj N1.out
      have hs4 : ¬ w.heap.size = w1.heap.size := by omega
      clear hx
      have c3_1 := cell_of S1.out.st.1 3
      simp at c3_1
      unfold VT.v vt
      go_wp2_with fail
      generalize hw2 : w1.alloc (.cells #[.int .i64 vn, .bool vb, .int .i64 vh] 32) = w2
      have g2 : Grew w1 w2 := by rw [← hw2]; exact (Grew.refl w1).alloc _
      have M2 : Hid (w2.heap[w1.heap.size]? = some (.cells #[.int .i64 vn, .bool vb, .int .i64 vh] 32 (0, 0))) := by rw [← hw2]; exact heap_alloc_last _ _
      have T2 : Hid (Turn [b] w w2) := T1.out.trans (g2.turn _)
      have S2 : Hid (DR w2 b v l (.ok q)) := S1.out.grew g2
      have N2 : Hid (w2.heap[w.heap.size]? = some (.cells #[.int .i64 0, .bool false, .int .i64 0, .bool false] 40 (0, 0))) := (g2.turn []).other N1.out (by simp)
      have m0 := cell_of M2.out 0
      have m1 := cell_of M2.out 1
      have m2 := cell_of M2.out 2
      simp at m0 m1 m2
      clear hw2 g2 T1 S1 N1 c3_1
      go_region_with (first
        | (go_at_call 30
           refine (C.out _ (by first | exact S2.out | exact S2.out.grew ((Grew.refl _).drew) | exact S2.out.grew ((Grew.refl _).drewN _))).mono ?_
           rintro en w3 ⟨⟨cy, rfl⟩, t3, s3⟩
           have T3 : Hid (Turn [b] w w3) := T2.out.trans (by first | exact t3 | exact (((Grew.refl _).drew).turn _).trans t3 | exact (((Grew.refl _).drewN _).turn _).trans t3)
           have S3 : Hid (DR w3 b v l (.error (f, e))) := s3
           have M3 : Hid (w3.heap[w1.heap.size]? = some (.cells #[.int .i64 vn, .bool vb, .int .i64 vh] 32 (0, 0))) := t3.other (by first | exact M2.out | simpa using M2.out) (by simp; omega)
           have N3 : Hid (w3.heap[w.heap.size]? = some (.cells #[.int .i64 0, .bool false, .int .i64 0, .bool false] 40 (0, 0))) := t3.other (by first | exact N2.out | simpa using N2.out) (by simp; omega)
           have k0 := cell_of M3.out 0
           have k1 := cell_of M3.out 1
           have k2 := cell_of M3.out 2
           have n0 := cell_of N3.out 0
           have y0 := free_of N3.out 0
           have n1 := cell_of N3.out 1
           have y1 := free_of N3.out 1
           have n2 := cell_of N3.out 2
           have y2 := free_of N3.out 2
           have n3 := cell_of N3.out 3
           have y3 := free_of N3.out 3
           simp at k0 k1 k2 n0 n1 n2 n3
           clear t3 s3))
      all_goals
        go_wp2_with fail
        refine bodyPost_ret (v := GT.v ⟨⟨vn, vb, vh⟩, cy == 1⟩) (by simp [results, Tryz.results27, go_sem, GT.v, n0, n1, n2, n3]) rfl ?_
        exact ⟨⟨⟨⟨vn, vb, vh⟩, cy == 1⟩, rfl⟩, (((((FinD.mk_ T3.out S3.out).set H.out (Nat.le_refl _)).set H.out (Nat.le_refl _)).set H.out (Nat.le_refl _)).set H.out (Nat.le_refl _))⟩
    | ok z =>
      obtain ⟨c, q1⟩ := z
      have hc := belowR_lt HB.out hy
      have hz : flagR l q = .ok (c == 1, q1) := by
        unfold flagR
        rw [show (2 : Int) = ((1 : Nat) + 1 : Int) from rfl, hy]
        rcases (show c = 0 ∨ c = 1 by omega) with rfl | rfl <;> rfl
      rw [hz]
      simp only [mapR]
      have C : Hid (∀ w', DR w' b v l (.ok q) → Calls Tryz.prog 30 #[.pointer (some ⟨b, 0, none⟩), .int .u8 1] w' fun en w'' => en = .returned (.int .u8 c) ∧ FinD b v l w' w'' (.ok q1)) := fun w' u => Calls.dok (dsmall_any u 1 (by decide)) hy
      clear hz hc
      have S0 : Hid (DR (w.alloc (.cells #[.int .i64 0, .bool false, .int .i64 0, .bool false] 40)) b v l st) := H.out.grew ((Grew.refl w).alloc _)
      have T0 : Hid (Turn [b] w (w.alloc (.cells #[.int .i64 0, .bool false, .int .i64 0, .bool false] 40))) := (Turn.refl [b] w).alloc _
      have N0 : Hid ((w.alloc (.cells #[.int .i64 0, .bool false, .int .i64 0, .bool false] 40)).heap[w.heap.size]? = some (.cells #[.int .i64 0, .bool false, .int .i64 0, .bool false] 40 (0, 0))) := heap_alloc_last _ _
      go_enter Tryz.func27, Tryz.ntmps27
      go_wp2_with fail
      refine (Calls.dok (dvalR_any S0.out) hx).mono ?_
      rintro en w1 ⟨rfl, t1, s1⟩
      have T1 : Hid (Turn [b] w w1) := T0.out.trans t1
      have S1 : Hid (DR w1 b v l (.ok q)) := s1
      have N1 : Hid (w1.heap[w.heap.size]? = some (.cells #[.int .i64 0, .bool false, .int .i64 0, .bool false] 40 (0, 0))) := t1.other N0.out (by simp; omega)
      clear t1 s1 T0 S0 N0
      have hs1 : b < w1.heap.size := S1.out.lt
      have hs2 : ¬ b = w1.heap.size := by omega
      have hs3 : w.heap.size < w1.heap.size := lt_of_obj N1.out
      have hs4 : ¬ w.heap.size = w1.heap.size := by omega
      clear hx
      have c3_1 := cell_of S1.out.st.1 3
      simp at c3_1
      unfold VT.v vt
      go_wp2_with fail
      generalize hw2 : w1.alloc (.cells #[.int .i64 vn, .bool vb, .int .i64 vh] 32) = w2
      have g2 : Grew w1 w2 := by rw [← hw2]; exact (Grew.refl w1).alloc _
      have M2 : Hid (w2.heap[w1.heap.size]? = some (.cells #[.int .i64 vn, .bool vb, .int .i64 vh] 32 (0, 0))) := by rw [← hw2]; exact heap_alloc_last _ _
      have T2 : Hid (Turn [b] w w2) := T1.out.trans (g2.turn _)
      have S2 : Hid (DR w2 b v l (.ok q)) := S1.out.grew g2
      have N2 : Hid (w2.heap[w.heap.size]? = some (.cells #[.int .i64 0, .bool false, .int .i64 0, .bool false] 40 (0, 0))) := (g2.turn []).other N1.out (by simp)
      have m0 := cell_of M2.out 0
      have m1 := cell_of M2.out 1
      have m2 := cell_of M2.out 2
      simp at m0 m1 m2
      clear hw2 g2 T1 S1 N1 c3_1
      go_region_with (first
        | (go_at_call 30
           refine (C.out _ (by first | exact S2.out | exact S2.out.grew ((Grew.refl _).drew) | exact S2.out.grew ((Grew.refl _).drewN _))).mono ?_
           rintro en w3 ⟨rfl, t3, s3⟩
           have T3 : Hid (Turn [b] w w3) := T2.out.trans (by first | exact t3 | exact (((Grew.refl _).drew).turn _).trans t3 | exact (((Grew.refl _).drewN _).turn _).trans t3)
           have S3 : Hid (DR w3 b v l (.ok q1)) := s3
           have M3 : Hid (w3.heap[w1.heap.size]? = some (.cells #[.int .i64 vn, .bool vb, .int .i64 vh] 32 (0, 0))) := t3.other (by first | exact M2.out | simpa using M2.out) (by simp; omega)
           have N3 : Hid (w3.heap[w.heap.size]? = some (.cells #[.int .i64 0, .bool false, .int .i64 0, .bool false] 40 (0, 0))) := t3.other (by first | exact N2.out | simpa using N2.out) (by simp; omega)
           have k0 := cell_of M3.out 0
           have k1 := cell_of M3.out 1
           have k2 := cell_of M3.out 2
           have n0 := cell_of N3.out 0
           have y0 := free_of N3.out 0
           have n1 := cell_of N3.out 1
           have y1 := free_of N3.out 1
           have n2 := cell_of N3.out 2
           have y2 := free_of N3.out 2
           have n3 := cell_of N3.out 3
           have y3 := free_of N3.out 3
           simp at k0 k1 k2 n0 n1 n2 n3
           clear t3 s3))
      all_goals
        go_wp2_with fail
        refine bodyPost_ret (v := GT.v ⟨⟨vn, vb, vh⟩, c == 1⟩) (by simp [results, Tryz.results27, go_sem, GT.v, n0, n1, n2, n3]) rfl ?_
        exact ⟨rfl, (((((FinD.mk_ T3.out S3.out).set H.out (Nat.le_refl _)).set H.out (Nat.le_refl _)).set H.out (Nat.le_refl _)).set H.out (Nat.le_refl _))⟩
set_option maxRecDepth 100000 in
set_option maxHeartbeats 1000000 in
theorem dtable_any {w : World} {b : Nat} {v : Value} {l : List Int} {st : Except (Nat × Nat) Nat} (h : DR w b v l st) :
    Calls Tryz.prog 24 #[.pointer (some ⟨b, 0, none⟩)] w (DAns TT.v b v l w (runR (tabR l) st)) := by
  have H : Hid (DR w b v l st) := h
  have hb : b < w.heap.size := h.lt
  have HB : Hid (Byt l) := h.byt
  rw [runR_tab]
  clear h
  cases hx : runR (refR l) st with
  | error y =>
    obtain ⟨f, e⟩ := y
    simp only [thenR]
    have C : Hid (∀ w', DR w' b v l (.error (f, e)) → Calls Tryz.prog 48 #[.pointer (some ⟨b, 0, none⟩)] w' fun en w'' => (∃ y, en = .returned (LM.v y)) ∧ FinD b v l w' w'' (.error (f, e))) := fun w' u => Calls.der (dlimitsIf_any u) rfl
    have S0 : Hid (DR (w.alloc (.cells #[.int .i64 0, .bool false, .int .i64 0, .bool false, .int .u64 0, .int .u64 0, .bool false] 34)) b v l st) := H.out.grew ((Grew.refl w).alloc _)
    have T0 : Hid (Turn [b] w (w.alloc (.cells #[.int .i64 0, .bool false, .int .i64 0, .bool false, .int .u64 0, .int .u64 0, .bool false] 34))) := (Turn.refl [b] w).alloc _
    have N0 : Hid ((w.alloc (.cells #[.int .i64 0, .bool false, .int .i64 0, .bool false, .int .u64 0, .int .u64 0, .bool false] 34)).heap[w.heap.size]? = some (.cells #[.int .i64 0, .bool false, .int .i64 0, .bool false, .int .u64 0, .int .u64 0, .bool false] 34 (0, 0))) := heap_alloc_last _ _
    go_enter Tryz.func24, Tryz.ntmps24
    go_wp2_with fail
    refine (Calls.der (dvalF_any S0.out) hx).mono ?_
    rintro en w1 ⟨⟨y, rfl⟩, t1, s1⟩
    have T1 : Hid (Turn [b] w w1) := T0.out.trans t1
    have S1 : Hid (DR w1 b v l (.error (f, e))) := s1
    have N1 : Hid (w1.heap[w.heap.size]? = some (.cells #[.int .i64 0, .bool false, .int .i64 0, .bool false, .int .u64 0, .int .u64 0, .bool false] 34 (0, 0))) := t1.other N0.out (by simp; omega)
    clear t1 s1 T0 S0 N0
    obtain ⟨vn, vb, vh⟩ := y
    have hs1 : b < w1.heap.size := S1.out.lt
    have hs2 : ¬ b = w1.heap.size := by omega
    have hs3 : w.heap.size < w1.heap.size := lt_of_obj N1.out
    have hs4 : ¬ w.heap.size = w1.heap.size := by omega
    clear hx
    unfold VT.v vt
    go_wp2_with fail
    generalize hw2 : w1.alloc (.cells #[.int .i64 vn, .bool vb, .int .i64 vh] 32) = w2
    have g2 : Grew w1 w2 := by rw [← hw2]; exact (Grew.refl w1).alloc _
    have M2 : Hid (w2.heap[w1.heap.size]? = some (.cells #[.int .i64 vn, .bool vb, .int .i64 vh] 32 (0, 0))) := by rw [← hw2]; exact heap_alloc_last _ _
    have T2 : Hid (Turn [b] w w2) := T1.out.trans (g2.turn _)
    have S2 : Hid (DR w2 b v l (.error (f, e))) := S1.out.grew g2
    have N2 : Hid (w2.heap[w.heap.size]? = some (.cells #[.int .i64 0, .bool false, .int .i64 0, .bool false, .int .u64 0, .int .u64 0, .bool false] 34 (0, 0))) := (g2.turn []).other N1.out (by simp)
    have m0 := cell_of M2.out 0
    have m1 := cell_of M2.out 1
    have m2 := cell_of M2.out 2
    simp at m0 m1 m2
    clear hw2 g2 T1 S1 N1
    go_region_with (first
      | (go_at_call 48
         refine (C.out _ (by first | exact S2.out | exact S2.out.grew ((Grew.refl _).drew) | exact S2.out.grew ((Grew.refl _).drewN _))).mono ?_
         rintro en w3 ⟨⟨⟨wi, mn, mx, hm⟩, rfl⟩, t3, s3⟩
         have T3 : Hid (Turn [b] w w3) := T2.out.trans (by first | exact t3 | exact (((Grew.refl _).drew).turn _).trans t3 | exact (((Grew.refl _).drewN _).turn _).trans t3)
         have S3 : Hid (DR w3 b v l (.error (f, e))) := s3
         have M3 : Hid (w3.heap[w1.heap.size]? = some (.cells #[.int .i64 vn, .bool vb, .int .i64 vh] 32 (0, 0))) := t3.other (by first | exact M2.out | simpa using M2.out) (by simp; omega)
         have N3 : Hid (w3.heap[w.heap.size]? = some (.cells #[.int .i64 0, .bool false, .int .i64 0, .bool false, .int .u64 0, .int .u64 0, .bool false] 34 (0, 0))) := t3.other (by first | exact N2.out | simpa using N2.out) (by simp; omega)
         have k0 := cell_of M3.out 0
         have k1 := cell_of M3.out 1
         have k2 := cell_of M3.out 2
         have n0 := cell_of N3.out 0
         have y0 := free_of N3.out 0
         have n1 := cell_of N3.out 1
         have y1 := free_of N3.out 1
         have n2 := cell_of N3.out 2
         have y2 := free_of N3.out 2
         have n3 := cell_of N3.out 3
         have y3 := free_of N3.out 3
         have n4 := cell_of N3.out 4
         have y4 := free_of N3.out 4
         have n5 := cell_of N3.out 5
         have y5 := free_of N3.out 5
         have n6 := cell_of N3.out 6
         have y6 := free_of N3.out 6
         simp at k0 k1 k2 n0 n1 n2 n3 n4 n5 n6
         unfold LM.v
         clear t3 s3))
    all_goals
      go_wp2_with fail
      refine bodyPost_ret (v := TT.v ⟨⟨vn, vb, vh⟩, ⟨wi, mn, mx, hm⟩⟩) (by simp [results, Tryz.results24, go_sem, TT.v, n0, n1, n2, n3, n4, n5, n6]) rfl ?_
      exact ⟨⟨⟨⟨vn, vb, vh⟩, ⟨wi, mn, mx, hm⟩⟩, rfl⟩, ((((((((FinD.mk_ T3.out S3.out).set H.out (Nat.le_refl _)).set H.out (Nat.le_refl _)).set H.out (Nat.le_refl _)).set H.out (Nat.le_refl _)).set H.out (Nat.le_refl _)).set H.out (Nat.le_refl _)).set H.out (Nat.le_refl _))⟩
  | ok y =>
    obtain ⟨⟨vn, vb, vh⟩, q⟩ := y
    simp only [thenR]
    cases hy : limsR l q with
    | error y =>
      obtain ⟨f, e⟩ := y
      simp only [mapR]
      have C : Hid (∀ w', DR w' b v l (.ok q) → Calls Tryz.prog 48 #[.pointer (some ⟨b, 0, none⟩)] w' fun en w'' => (∃ y, en = .returned (LM.v y)) ∧ FinD b v l w' w'' (.error (f, e))) := fun w' u => Calls.der (dlimitsIf_any u) hy
      have S0 : Hid (DR (w.alloc (.cells #[.int .i64 0, .bool false, .int .i64 0, .bool false, .int .u64 0, .int .u64 0, .bool false] 34)) b v l st) := H.out.grew ((Grew.refl w).alloc _)
      have T0 : Hid (Turn [b] w (w.alloc (.cells #[.int .i64 0, .bool false, .int .i64 0, .bool false, .int .u64 0, .int .u64 0, .bool false] 34))) := (Turn.refl [b] w).alloc _
      have N0 : Hid ((w.alloc (.cells #[.int .i64 0, .bool false, .int .i64 0, .bool false, .int .u64 0, .int .u64 0, .bool false] 34)).heap[w.heap.size]? = some (.cells #[.int .i64 0, .bool false, .int .i64 0, .bool false, .int .u64 0, .int .u64 0, .bool false] 34 (0, 0))) := heap_alloc_last _ _
      go_enter Tryz.func24, Tryz.ntmps24
      go_wp2_with fail
      refine (Calls.dok (dvalF_any S0.out) hx).mono ?_
      rintro en w1 ⟨rfl, t1, s1⟩
      have T1 : Hid (Turn [b] w w1) := T0.out.trans t1
      have S1 : Hid (DR w1 b v l (.ok q)) := s1
      have N1 : Hid (w1.heap[w.heap.size]? = some (.cells #[.int .i64 0, .bool false, .int .i64 0, .bool false, .int .u64 0, .int .u64 0, .bool false] 34 (0, 0))) := t1.other N0.out (by simp; omega)
      clear t1 s1 T0 S0 N0
      have hs1 : b < w1.heap.size := S1.out.lt
      have hs2 : ¬ b = w1.heap.size := by omega
      have hs3 : w.heap.size < w1.heap.size := lt_of_obj N1.out
      have hs4 : ¬ w.heap.size = w1.heap.size := by omega
      clear hx
      unfold VT.v vt
      go_wp2_with fail
      generalize hw2 : w1.alloc (.cells #[.int .i64 vn, .bool vb, .int .i64 vh] 32) = w2
      have g2 : Grew w1 w2 := by rw [← hw2]; exact (Grew.refl w1).alloc _
      have M2 : Hid (w2.heap[w1.heap.size]? = some (.cells #[.int .i64 vn, .bool vb, .int .i64 vh] 32 (0, 0))) := by rw [← hw2]; exact heap_alloc_last _ _
      have T2 : Hid (Turn [b] w w2) := T1.out.trans (g2.turn _)
      have S2 : Hid (DR w2 b v l (.ok q)) := S1.out.grew g2
      have N2 : Hid (w2.heap[w.heap.size]? = some (.cells #[.int .i64 0, .bool false, .int .i64 0, .bool false, .int .u64 0, .int .u64 0, .bool false] 34 (0, 0))) := (g2.turn []).other N1.out (by simp)
      have m0 := cell_of M2.out 0
      have m1 := cell_of M2.out 1
      have m2 := cell_of M2.out 2
      simp at m0 m1 m2
      clear hw2 g2 T1 S1 N1
      go_region_with (first
        | (go_at_call 48
           refine (C.out _ (by first | exact S2.out | exact S2.out.grew ((Grew.refl _).drew) | exact S2.out.grew ((Grew.refl _).drewN _))).mono ?_
           rintro en w3 ⟨⟨⟨wi, mn, mx, hm⟩, rfl⟩, t3, s3⟩
           have T3 : Hid (Turn [b] w w3) := T2.out.trans (by first | exact t3 | exact (((Grew.refl _).drew).turn _).trans t3 | exact (((Grew.refl _).drewN _).turn _).trans t3)
           have S3 : Hid (DR w3 b v l (.error (f, e))) := s3
           have M3 : Hid (w3.heap[w1.heap.size]? = some (.cells #[.int .i64 vn, .bool vb, .int .i64 vh] 32 (0, 0))) := t3.other (by first | exact M2.out | simpa using M2.out) (by simp; omega)
           have N3 : Hid (w3.heap[w.heap.size]? = some (.cells #[.int .i64 0, .bool false, .int .i64 0, .bool false, .int .u64 0, .int .u64 0, .bool false] 34 (0, 0))) := t3.other (by first | exact N2.out | simpa using N2.out) (by simp; omega)
           have k0 := cell_of M3.out 0
           have k1 := cell_of M3.out 1
           have k2 := cell_of M3.out 2
           have n0 := cell_of N3.out 0
           have y0 := free_of N3.out 0
           have n1 := cell_of N3.out 1
           have y1 := free_of N3.out 1
           have n2 := cell_of N3.out 2
           have y2 := free_of N3.out 2
           have n3 := cell_of N3.out 3
           have y3 := free_of N3.out 3
           have n4 := cell_of N3.out 4
           have y4 := free_of N3.out 4
           have n5 := cell_of N3.out 5
           have y5 := free_of N3.out 5
           have n6 := cell_of N3.out 6
           have y6 := free_of N3.out 6
           simp at k0 k1 k2 n0 n1 n2 n3 n4 n5 n6
           unfold LM.v
           clear t3 s3))
      all_goals
        go_wp2_with fail
        refine bodyPost_ret (v := TT.v ⟨⟨vn, vb, vh⟩, ⟨wi, mn, mx, hm⟩⟩) (by simp [results, Tryz.results24, go_sem, TT.v, n0, n1, n2, n3, n4, n5, n6]) rfl ?_
        exact ⟨⟨⟨⟨vn, vb, vh⟩, ⟨wi, mn, mx, hm⟩⟩, rfl⟩, ((((((((FinD.mk_ T3.out S3.out).set H.out (Nat.le_refl _)).set H.out (Nat.le_refl _)).set H.out (Nat.le_refl _)).set H.out (Nat.le_refl _)).set H.out (Nat.le_refl _)).set H.out (Nat.le_refl _)).set H.out (Nat.le_refl _))⟩
    | ok y =>
      obtain ⟨⟨wi, mn, mx, hm⟩, r⟩ := y
      simp only [mapR]
      have C : Hid (∀ w', DR w' b v l (.ok q) → Calls Tryz.prog 48 #[.pointer (some ⟨b, 0, none⟩)] w' fun en w'' => en = .returned (LM.v ⟨wi, mn, mx, hm⟩) ∧ FinD b v l w' w'' (.ok r)) := fun w' u => Calls.dok (dlimitsIf_any u) hy
      have S0 : Hid (DR (w.alloc (.cells #[.int .i64 0, .bool false, .int .i64 0, .bool false, .int .u64 0, .int .u64 0, .bool false] 34)) b v l st) := H.out.grew ((Grew.refl w).alloc _)
      have T0 : Hid (Turn [b] w (w.alloc (.cells #[.int .i64 0, .bool false, .int .i64 0, .bool false, .int .u64 0, .int .u64 0, .bool false] 34))) := (Turn.refl [b] w).alloc _
      have N0 : Hid ((w.alloc (.cells #[.int .i64 0, .bool false, .int .i64 0, .bool false, .int .u64 0, .int .u64 0, .bool false] 34)).heap[w.heap.size]? = some (.cells #[.int .i64 0, .bool false, .int .i64 0, .bool false, .int .u64 0, .int .u64 0, .bool false] 34 (0, 0))) := heap_alloc_last _ _
      go_enter Tryz.func24, Tryz.ntmps24
      go_wp2_with fail
      refine (Calls.dok (dvalF_any S0.out) hx).mono ?_
      rintro en w1 ⟨rfl, t1, s1⟩
      have T1 : Hid (Turn [b] w w1) := T0.out.trans t1
      have S1 : Hid (DR w1 b v l (.ok q)) := s1
      have N1 : Hid (w1.heap[w.heap.size]? = some (.cells #[.int .i64 0, .bool false, .int .i64 0, .bool false, .int .u64 0, .int .u64 0, .bool false] 34 (0, 0))) := t1.other N0.out (by simp; omega)
      clear t1 s1 T0 S0 N0
      have hs1 : b < w1.heap.size := S1.out.lt
      have hs2 : ¬ b = w1.heap.size := by omega
      have hs3 : w.heap.size < w1.heap.size := lt_of_obj N1.out
      have hs4 : ¬ w.heap.size = w1.heap.size := by omega
      clear hx
      unfold VT.v vt
      go_wp2_with fail
      generalize hw2 : w1.alloc (.cells #[.int .i64 vn, .bool vb, .int .i64 vh] 32) = w2
      have g2 : Grew w1 w2 := by rw [← hw2]; exact (Grew.refl w1).alloc _
      have M2 : Hid (w2.heap[w1.heap.size]? = some (.cells #[.int .i64 vn, .bool vb, .int .i64 vh] 32 (0, 0))) := by rw [← hw2]; exact heap_alloc_last _ _
      have T2 : Hid (Turn [b] w w2) := T1.out.trans (g2.turn _)
      have S2 : Hid (DR w2 b v l (.ok q)) := S1.out.grew g2
      have N2 : Hid (w2.heap[w.heap.size]? = some (.cells #[.int .i64 0, .bool false, .int .i64 0, .bool false, .int .u64 0, .int .u64 0, .bool false] 34 (0, 0))) := (g2.turn []).other N1.out (by simp)
      have m0 := cell_of M2.out 0
      have m1 := cell_of M2.out 1
      have m2 := cell_of M2.out 2
      simp at m0 m1 m2
      clear hw2 g2 T1 S1 N1
      go_region_with (first
        | (go_at_call 48
           refine (C.out _ (by first | exact S2.out | exact S2.out.grew ((Grew.refl _).drew) | exact S2.out.grew ((Grew.refl _).drewN _))).mono ?_
           rintro en w3 ⟨rfl, t3, s3⟩
           have T3 : Hid (Turn [b] w w3) := T2.out.trans (by first | exact t3 | exact (((Grew.refl _).drew).turn _).trans t3 | exact (((Grew.refl _).drewN _).turn _).trans t3)
           have S3 : Hid (DR w3 b v l (.ok r)) := s3
           have M3 : Hid (w3.heap[w1.heap.size]? = some (.cells #[.int .i64 vn, .bool vb, .int .i64 vh] 32 (0, 0))) := t3.other (by first | exact M2.out | simpa using M2.out) (by simp; omega)
           have N3 : Hid (w3.heap[w.heap.size]? = some (.cells #[.int .i64 0, .bool false, .int .i64 0, .bool false, .int .u64 0, .int .u64 0, .bool false] 34 (0, 0))) := t3.other (by first | exact N2.out | simpa using N2.out) (by simp; omega)
           have k0 := cell_of M3.out 0
           have k1 := cell_of M3.out 1
           have k2 := cell_of M3.out 2
           have n0 := cell_of N3.out 0
           have y0 := free_of N3.out 0
           have n1 := cell_of N3.out 1
           have y1 := free_of N3.out 1
           have n2 := cell_of N3.out 2
           have y2 := free_of N3.out 2
           have n3 := cell_of N3.out 3
           have y3 := free_of N3.out 3
           have n4 := cell_of N3.out 4
           have y4 := free_of N3.out 4
           have n5 := cell_of N3.out 5
           have y5 := free_of N3.out 5
           have n6 := cell_of N3.out 6
           have y6 := free_of N3.out 6
           simp at k0 k1 k2 n0 n1 n2 n3 n4 n5 n6
           unfold LM.v
           clear t3 s3))
      all_goals
        go_wp2_with fail
        refine bodyPost_ret (v := TT.v ⟨⟨vn, vb, vh⟩, ⟨wi, mn, mx, hm⟩⟩) (by simp [results, Tryz.results24, go_sem, TT.v, n0, n1, n2, n3, n4, n5, n6]) rfl ?_
        exact ⟨rfl, ((((((((FinD.mk_ T3.out S3.out).set H.out (Nat.le_refl _)).set H.out (Nat.le_refl _)).set H.out (Nat.le_refl _)).set H.out (Nat.le_refl _)).set H.out (Nat.le_refl _)).set H.out (Nat.le_refl _)).set H.out (Nat.le_refl _))⟩
end Go.Proofs.YtemaeigfhmnapaaGreatDoor
