/-
  The document's reading: the walks of many and vals; no statement is proved here.
-/
import Derived.Test.YtohapnninjdlfaaGreatDoorDHea
namespace Go.Proofs.YtohapnninjdlfaaGreatDoor
open Go.RowKit
set_option linter.unusedVariables false
set_option linter.unusedSimpArgs false
set_option linter.constructorNameAsVariable false

theorem mean_ref : ∀ c : _root_.Fin 256, ((c.1 : Int) = 99 ∨ (c.1 : Int) = 100) → decide ((mean (c.1 : Int)).2 = 1) = decide ((c.1 : Int) = 99) := by decide +kernel
theorem failat_any {w : World} {b : Nat} {v : Value} {l : List Int} {p : Nat} (h : DR w b v l (.ok p)) (pl e : Nat) (he : e ≠ 0) :
    Calls Tryz.prog 118 #[.pointer (some ⟨b, 0, none⟩), .int .i64 (pl : Int), .int .i64 (e : Int)] w fun en w' => en = .returned (.tuple #[]) ∧ Turn [b] w w' ∧ w'.heap[b]? = some (rdg v p pl e) := by
  have ho := h.st.1
  have c3 := cell_of h.st.1 3
  have c2 := cell_of h.st.1 2
  have z2 := free_of h.st.1 2
  have z3 := free_of h.st.1 3
  simp at c2 c3
  have HO : Hid (w.heap[b]? = some (rdg v p 0 0)) := ho
  clear h ho
  go_enter Tryz.func118, Tryz.ntmps118
  go_wp2_with fail
  go_end0
  refine ⟨rfl, ((Turn.refl [b] w).set (Or.inl (by simp)) _).set (Or.inl (by simp)) _, ?_⟩
  rw [heap_set (heap_set HO.out 2 _) 3 _]
  simp [rdg]
/- What val reads: any: number types too; field: packed ones too. -/
def valD (any field : Bool) (l : List Int) (p : Nat) : RS VT := atR l p fun c =>
  if c = 99 ∨ c = 100 then mapR (fun h => ⟨5, decide (c = 99), h⟩) (heapR l (p + 1))
  else if absH c ≠ 0 then .ok (⟨5, true, absH c⟩, p + 1)
  else if any = true ∧ c = 123 then .error (p, 8)
  else if any = true ∧ 124 ≤ c ∧ c ≤ 127 then .ok (⟨128 - c, false, 0⟩, p + 1)
  else if field = true ∧ c = 120 then .ok (⟨6, false, 0⟩, p + 1)
  else if field = true ∧ c = 119 then .ok (⟨7, false, 0⟩, p + 1)
  else .error (p, 4)
set_option maxRecDepth 100000 in
set_option maxHeartbeats 1000000 in
theorem dval_99 {w : World} {b : Nat} {v : Value} {l : List Int} {p : Nat} (any : Bool) (field : Bool) (h : DR w b v l (.ok p)) (hp : p < l.length) (c : Int) (hcv : l.getD p 0 = c) (hn : c = 99) :
    Calls Tryz.prog 116 #[.pointer (some ⟨b, 0, none⟩), .bool any, .bool field] w (DAns VT.v b v l w (mapR (fun h => (⟨5, true, h⟩ : VT)) (heapR l (p + 1)))) := by
  have H : Hid (DR w b v l (.ok p)) := h
  have hb : b < w.heap.size := h.lt
  have hl := h.len
  have hc := h.byt p
  have P : Hid (∀ w', DR w' b v l (.ok p) → Calls Tryz.prog 115 #[.pointer (some ⟨b, 0, none⟩)] w' fun en w'' => en = .returned (.tuple #[.int .u8 c, .bool true]) ∧ Grew w' w'') := fun w' u => by rw [← hcv]; exact dpeek_ok u hp
  rw [hcv] at hc
  have A : Hid (∀ w', Calls Tryz.prog 119 #[.int .u8 c] w' fun en w'' => en = .returned (.int .i64 (absH c)) ∧ w'' = w') := abstract_any c hc
  clear h hcv
  subst hn
  clear A
  cases hx : heapR l (p + 1) with
  | error y =>
    obtain ⟨f, e⟩ := y
    simp only [mapR]
    have S0 : Hid (DR (w.alloc (.cells #[.int .i64 0, .bool false, .int .i64 0] 28)) b v l (.ok p)) := H.out.grew ((Grew.refl w).alloc _)
    have T0 : Hid (Turn [b] w (w.alloc (.cells #[.int .i64 0, .bool false, .int .i64 0] 28))) := (Turn.refl [b] w).alloc _
    have N0 : Hid ((w.alloc (.cells #[.int .i64 0, .bool false, .int .i64 0] 28)).heap[w.heap.size]? = some (.cells #[.int .i64 0, .bool false, .int .i64 0] 28 (0, 0))) := heap_alloc_last _ _
    go_enter Tryz.func116, Tryz.ntmps116
    go_wp2_with fail
    refine (P.out _ S0.out).mono ?_
    rintro en w1 ⟨rfl, g1⟩
    have T1 : Hid (Turn [b] w w1) := T0.out.trans (g1.turn _)
    have S1 : Hid (DR w1 b v l (.ok p)) := S0.out.grew g1
    have N1 : Hid (w1.heap[w.heap.size]? = some (.cells #[.int .i64 0, .bool false, .int .i64 0] 28 (0, 0))) := (g1.turn []).other N0.out (by simp)
    clear g1 T0 S0 N0
    have c1_1 := cell_of S1.out.st.1 1
    have z1_1 := free_of S1.out.st.1 1
    simp at c1_1
    have hq2 : p + 1 ≤ l.length := by omega
    go_wp2_with fail
    generalize hw2 : w1.setCell { block := b, off := 1 } (Value.int IntKind.i64 ((p : Int) + 1)) = w2
    have f2 : FinD b v l w w2 (.ok (p + 1)) := by rw [← hw2]; exact (FinD.mk_ T1.out S1.out).inc hq2
    have T2 : Hid (Turn [b] w w2) := f2.1
    have S2 : Hid (DR w2 b v l (.ok (p + 1))) := f2.2
    have N2 : Hid (w2.heap[w.heap.size]? = some (.cells #[.int .i64 0, .bool false, .int .i64 0] 28 (0, 0))) := by rw [← hw2]; exact heap_other N1.out (by simp; omega) _
    clear f2 hw2 c1_1 z1_1 T1 S1 N1
    refine (Calls.der (dheap_any S2.out) hx).mono ?_
    rintro en w3 ⟨⟨y, rfl⟩, t3, s3⟩
    have T3 : Hid (Turn [b] w w3) := T2.out.trans t3
    have S3 : Hid (DR w3 b v l (.error (f, e))) := s3
    have N3 : Hid (w3.heap[w.heap.size]? = some (.cells #[.int .i64 0, .bool false, .int .i64 0] 28 (0, 0))) := t3.other N2.out (by simp; omega)
    clear t3 s3 T2 S2 N2
    have hne : ¬ b = w.heap.size := by omega
    have n0 := cell_of N3.out 0
    have y0 := free_of N3.out 0
    have n1 := cell_of N3.out 1
    have y1 := free_of N3.out 1
    have n2 := cell_of N3.out 2
    have y2 := free_of N3.out 2
    simp at n0 n1 n2
    go_wp2_with fail
    refine bodyPost_ret (v := vt 5 true y) (by simp [results, Tryz.results116, go_sem, vt, VT.v, n0, n1, n2]) rfl ?_
    exact ⟨⟨⟨5, true, y⟩, rfl⟩, (((((FinD.mk_ T3.out S3.out)).set H.out (Nat.le_refl _)).set H.out (Nat.le_refl _)).set H.out (Nat.le_refl _))⟩
  | ok y =>
    obtain ⟨x, q⟩ := y
    simp only [mapR]
    have S0 : Hid (DR (w.alloc (.cells #[.int .i64 0, .bool false, .int .i64 0] 28)) b v l (.ok p)) := H.out.grew ((Grew.refl w).alloc _)
    have T0 : Hid (Turn [b] w (w.alloc (.cells #[.int .i64 0, .bool false, .int .i64 0] 28))) := (Turn.refl [b] w).alloc _
    have N0 : Hid ((w.alloc (.cells #[.int .i64 0, .bool false, .int .i64 0] 28)).heap[w.heap.size]? = some (.cells #[.int .i64 0, .bool false, .int .i64 0] 28 (0, 0))) := heap_alloc_last _ _
    go_enter Tryz.func116, Tryz.ntmps116
    go_wp2_with fail
    refine (P.out _ S0.out).mono ?_
    rintro en w1 ⟨rfl, g1⟩
    have T1 : Hid (Turn [b] w w1) := T0.out.trans (g1.turn _)
    have S1 : Hid (DR w1 b v l (.ok p)) := S0.out.grew g1
    have N1 : Hid (w1.heap[w.heap.size]? = some (.cells #[.int .i64 0, .bool false, .int .i64 0] 28 (0, 0))) := (g1.turn []).other N0.out (by simp)
    clear g1 T0 S0 N0
    have c1_1 := cell_of S1.out.st.1 1
    have z1_1 := free_of S1.out.st.1 1
    simp at c1_1
    have hq2 : p + 1 ≤ l.length := by omega
    go_wp2_with fail
    generalize hw2 : w1.setCell { block := b, off := 1 } (Value.int IntKind.i64 ((p : Int) + 1)) = w2
    have f2 : FinD b v l w w2 (.ok (p + 1)) := by rw [← hw2]; exact (FinD.mk_ T1.out S1.out).inc hq2
    have T2 : Hid (Turn [b] w w2) := f2.1
    have S2 : Hid (DR w2 b v l (.ok (p + 1))) := f2.2
    have N2 : Hid (w2.heap[w.heap.size]? = some (.cells #[.int .i64 0, .bool false, .int .i64 0] 28 (0, 0))) := by rw [← hw2]; exact heap_other N1.out (by simp; omega) _
    clear f2 hw2 c1_1 z1_1 T1 S1 N1
    refine (Calls.dok (dheap_any S2.out) hx).mono ?_
    rintro en w3 ⟨rfl, t3, s3⟩
    have T3 : Hid (Turn [b] w w3) := T2.out.trans t3
    have S3 : Hid (DR w3 b v l (.ok q)) := s3
    have N3 : Hid (w3.heap[w.heap.size]? = some (.cells #[.int .i64 0, .bool false, .int .i64 0] 28 (0, 0))) := t3.other N2.out (by simp; omega)
    clear t3 s3 T2 S2 N2
    have hne : ¬ b = w.heap.size := by omega
    have n0 := cell_of N3.out 0
    have y0 := free_of N3.out 0
    have n1 := cell_of N3.out 1
    have y1 := free_of N3.out 1
    have n2 := cell_of N3.out 2
    have y2 := free_of N3.out 2
    simp at n0 n1 n2
    go_wp2_with fail
    refine bodyPost_ret (v := vt 5 true x) (by simp [results, Tryz.results116, go_sem, vt, VT.v, n0, n1, n2]) rfl ?_
    exact ⟨rfl, (((((FinD.mk_ T3.out S3.out)).set H.out (Nat.le_refl _)).set H.out (Nat.le_refl _)).set H.out (Nat.le_refl _))⟩
set_option maxRecDepth 100000 in
set_option maxHeartbeats 1000000 in
theorem dval_100 {w : World} {b : Nat} {v : Value} {l : List Int} {p : Nat} (any : Bool) (field : Bool) (h : DR w b v l (.ok p)) (hp : p < l.length) (c : Int) (hcv : l.getD p 0 = c) (hn : c = 100) :
    Calls Tryz.prog 116 #[.pointer (some ⟨b, 0, none⟩), .bool any, .bool field] w (DAns VT.v b v l w (mapR (fun h => (⟨5, false, h⟩ : VT)) (heapR l (p + 1)))) := by
  have H : Hid (DR w b v l (.ok p)) := h
  have hb : b < w.heap.size := h.lt
  have hl := h.len
  have hc := h.byt p
  have P : Hid (∀ w', DR w' b v l (.ok p) → Calls Tryz.prog 115 #[.pointer (some ⟨b, 0, none⟩)] w' fun en w'' => en = .returned (.tuple #[.int .u8 c, .bool true]) ∧ Grew w' w'') := fun w' u => by rw [← hcv]; exact dpeek_ok u hp
  rw [hcv] at hc
  have A : Hid (∀ w', Calls Tryz.prog 119 #[.int .u8 c] w' fun en w'' => en = .returned (.int .i64 (absH c)) ∧ w'' = w') := abstract_any c hc
  clear h hcv
  subst hn
  clear A
  cases hx : heapR l (p + 1) with
  | error y =>
    obtain ⟨f, e⟩ := y
    simp only [mapR]
    have S0 : Hid (DR (w.alloc (.cells #[.int .i64 0, .bool false, .int .i64 0] 28)) b v l (.ok p)) := H.out.grew ((Grew.refl w).alloc _)
    have T0 : Hid (Turn [b] w (w.alloc (.cells #[.int .i64 0, .bool false, .int .i64 0] 28))) := (Turn.refl [b] w).alloc _
    have N0 : Hid ((w.alloc (.cells #[.int .i64 0, .bool false, .int .i64 0] 28)).heap[w.heap.size]? = some (.cells #[.int .i64 0, .bool false, .int .i64 0] 28 (0, 0))) := heap_alloc_last _ _
    go_enter Tryz.func116, Tryz.ntmps116
    go_wp2_with fail
    refine (P.out _ S0.out).mono ?_
    rintro en w1 ⟨rfl, g1⟩
    have T1 : Hid (Turn [b] w w1) := T0.out.trans (g1.turn _)
    have S1 : Hid (DR w1 b v l (.ok p)) := S0.out.grew g1
    have N1 : Hid (w1.heap[w.heap.size]? = some (.cells #[.int .i64 0, .bool false, .int .i64 0] 28 (0, 0))) := (g1.turn []).other N0.out (by simp)
    clear g1 T0 S0 N0
    have c1_1 := cell_of S1.out.st.1 1
    have z1_1 := free_of S1.out.st.1 1
    simp at c1_1
    have hq2 : p + 1 ≤ l.length := by omega
    go_wp2_with fail
    generalize hw2 : w1.setCell { block := b, off := 1 } (Value.int IntKind.i64 ((p : Int) + 1)) = w2
    have f2 : FinD b v l w w2 (.ok (p + 1)) := by rw [← hw2]; exact (FinD.mk_ T1.out S1.out).inc hq2
    have T2 : Hid (Turn [b] w w2) := f2.1
    have S2 : Hid (DR w2 b v l (.ok (p + 1))) := f2.2
    have N2 : Hid (w2.heap[w.heap.size]? = some (.cells #[.int .i64 0, .bool false, .int .i64 0] 28 (0, 0))) := by rw [← hw2]; exact heap_other N1.out (by simp; omega) _
    clear f2 hw2 c1_1 z1_1 T1 S1 N1
    refine (Calls.der (dheap_any S2.out) hx).mono ?_
    rintro en w3 ⟨⟨y, rfl⟩, t3, s3⟩
    have T3 : Hid (Turn [b] w w3) := T2.out.trans t3
    have S3 : Hid (DR w3 b v l (.error (f, e))) := s3
    have N3 : Hid (w3.heap[w.heap.size]? = some (.cells #[.int .i64 0, .bool false, .int .i64 0] 28 (0, 0))) := t3.other N2.out (by simp; omega)
    clear t3 s3 T2 S2 N2
    have hne : ¬ b = w.heap.size := by omega
    have n0 := cell_of N3.out 0
    have y0 := free_of N3.out 0
    have n1 := cell_of N3.out 1
    have y1 := free_of N3.out 1
    have n2 := cell_of N3.out 2
    have y2 := free_of N3.out 2
    simp at n0 n1 n2
    go_wp2_with fail
    refine bodyPost_ret (v := vt 5 false y) (by simp [results, Tryz.results116, go_sem, vt, VT.v, n0, n1, n2]) rfl ?_
    exact ⟨⟨⟨5, false, y⟩, rfl⟩, (((((FinD.mk_ T3.out S3.out)).set H.out (Nat.le_refl _)).set H.out (Nat.le_refl _)).set H.out (Nat.le_refl _))⟩
  | ok y =>
    obtain ⟨x, q⟩ := y
    simp only [mapR]
    have S0 : Hid (DR (w.alloc (.cells #[.int .i64 0, .bool false, .int .i64 0] 28)) b v l (.ok p)) := H.out.grew ((Grew.refl w).alloc _)
    have T0 : Hid (Turn [b] w (w.alloc (.cells #[.int .i64 0, .bool false, .int .i64 0] 28))) := (Turn.refl [b] w).alloc _
    have N0 : Hid ((w.alloc (.cells #[.int .i64 0, .bool false, .int .i64 0] 28)).heap[w.heap.size]? = some (.cells #[.int .i64 0, .bool false, .int .i64 0] 28 (0, 0))) := heap_alloc_last _ _
    go_enter Tryz.func116, Tryz.ntmps116
    go_wp2_with fail
    refine (P.out _ S0.out).mono ?_
    rintro en w1 ⟨rfl, g1⟩
    have T1 : Hid (Turn [b] w w1) := T0.out.trans (g1.turn _)
    have S1 : Hid (DR w1 b v l (.ok p)) := S0.out.grew g1
    have N1 : Hid (w1.heap[w.heap.size]? = some (.cells #[.int .i64 0, .bool false, .int .i64 0] 28 (0, 0))) := (g1.turn []).other N0.out (by simp)
    clear g1 T0 S0 N0
    have c1_1 := cell_of S1.out.st.1 1
    have z1_1 := free_of S1.out.st.1 1
    simp at c1_1
    have hq2 : p + 1 ≤ l.length := by omega
    go_wp2_with fail
    generalize hw2 : w1.setCell { block := b, off := 1 } (Value.int IntKind.i64 ((p : Int) + 1)) = w2
    have f2 : FinD b v l w w2 (.ok (p + 1)) := by rw [← hw2]; exact (FinD.mk_ T1.out S1.out).inc hq2
    have T2 : Hid (Turn [b] w w2) := f2.1
    have S2 : Hid (DR w2 b v l (.ok (p + 1))) := f2.2
    have N2 : Hid (w2.heap[w.heap.size]? = some (.cells #[.int .i64 0, .bool false, .int .i64 0] 28 (0, 0))) := by rw [← hw2]; exact heap_other N1.out (by simp; omega) _
    clear f2 hw2 c1_1 z1_1 T1 S1 N1
    refine (Calls.dok (dheap_any S2.out) hx).mono ?_
    rintro en w3 ⟨rfl, t3, s3⟩
    have T3 : Hid (Turn [b] w w3) := T2.out.trans t3
    have S3 : Hid (DR w3 b v l (.ok q)) := s3
    have N3 : Hid (w3.heap[w.heap.size]? = some (.cells #[.int .i64 0, .bool false, .int .i64 0] 28 (0, 0))) := t3.other N2.out (by simp; omega)
    clear t3 s3 T2 S2 N2
    have hne : ¬ b = w.heap.size := by omega
    have n0 := cell_of N3.out 0
    have y0 := free_of N3.out 0
    have n1 := cell_of N3.out 1
    have y1 := free_of N3.out 1
    have n2 := cell_of N3.out 2
    have y2 := free_of N3.out 2
    simp at n0 n1 n2
    go_wp2_with fail
    refine bodyPost_ret (v := vt 5 false x) (by simp [results, Tryz.results116, go_sem, vt, VT.v, n0, n1, n2]) rfl ?_
    exact ⟨rfl, (((((FinD.mk_ T3.out S3.out)).set H.out (Nat.le_refl _)).set H.out (Nat.le_refl _)).set H.out (Nat.le_refl _))⟩
set_option maxRecDepth 100000 in
set_option maxHeartbeats 1000000 in
theorem dval_abs {w : World} {b : Nat} {v : Value} {l : List Int} {p : Nat} (any : Bool) (field : Bool) (h : DR w b v l (.ok p)) (hp : p < l.length) (c : Int) (hcv : l.getD p 0 = c) (d99 : (c == 99) = false) (d100 : (c == 100) = false) (h4 : absH c ≠ 0) :
    Calls Tryz.prog 116 #[.pointer (some ⟨b, 0, none⟩), .bool any, .bool field] w (DAns VT.v b v l w (.ok ((⟨5, true, absH c⟩ : VT), p + 1))) := by
  have H : Hid (DR w b v l (.ok p)) := h
  have hb : b < w.heap.size := h.lt
  have hl := h.len
  have hc := h.byt p
  have P : Hid (∀ w', DR w' b v l (.ok p) → Calls Tryz.prog 115 #[.pointer (some ⟨b, 0, none⟩)] w' fun en w'' => en = .returned (.tuple #[.int .u8 c, .bool true]) ∧ Grew w' w'') := fun w' u => by rw [← hcv]; exact dpeek_ok u hp
  rw [hcv] at hc
  have A : Hid (∀ w', Calls Tryz.prog 119 #[.int .u8 c] w' fun en w'' => en = .returned (.int .i64 (absH c)) ∧ w'' = w') := abstract_any c hc
  clear h hcv
  have d4 : (absH c != 0) = true := by simpa using h4
  clear h4
  have S0 : Hid (DR (w.alloc (.cells #[.int .i64 0, .bool false, .int .i64 0] 28)) b v l (.ok p)) := H.out.grew ((Grew.refl w).alloc _)
  have T0 : Hid (Turn [b] w (w.alloc (.cells #[.int .i64 0, .bool false, .int .i64 0] 28))) := (Turn.refl [b] w).alloc _
  have N0 : Hid ((w.alloc (.cells #[.int .i64 0, .bool false, .int .i64 0] 28)).heap[w.heap.size]? = some (.cells #[.int .i64 0, .bool false, .int .i64 0] 28 (0, 0))) := heap_alloc_last _ _
  go_enter Tryz.func116, Tryz.ntmps116
  go_wp2_with fail
  refine (P.out _ S0.out).mono ?_
  rintro en w1 ⟨rfl, g1⟩
  have T1 : Hid (Turn [b] w w1) := T0.out.trans (g1.turn _)
  have S1 : Hid (DR w1 b v l (.ok p)) := S0.out.grew g1
  have N1 : Hid (w1.heap[w.heap.size]? = some (.cells #[.int .i64 0, .bool false, .int .i64 0] 28 (0, 0))) := (g1.turn []).other N0.out (by simp)
  clear g1 T0 S0 N0
  go_wp2_with fail
  refine (A.out _).mono ?_
  rintro en w9 ⟨rfl, h9⟩
  obtain rfl := h9.symm
  clear h9
  have c1_1 := cell_of S1.out.st.1 1
  have z1_1 := free_of S1.out.st.1 1
  simp at c1_1
  have hq2 : p + 1 ≤ l.length := by omega
  go_wp2_with fail
  generalize hw2 : w1.setCell { block := b, off := 1 } (Value.int IntKind.i64 ((p : Int) + 1)) = w2
  have f2 : FinD b v l w w2 (.ok (p + 1)) := by rw [← hw2]; exact (FinD.mk_ T1.out S1.out).inc hq2
  have T2 : Hid (Turn [b] w w2) := f2.1
  have S2 : Hid (DR w2 b v l (.ok (p + 1))) := f2.2
  have N2 : Hid (w2.heap[w.heap.size]? = some (.cells #[.int .i64 0, .bool false, .int .i64 0] 28 (0, 0))) := by rw [← hw2]; exact heap_other N1.out (by simp; omega) _
  clear f2 hw2 c1_1 z1_1 T1 S1 N1
  refine (A.out _).mono ?_
  rintro en w9 ⟨rfl, h9⟩
  obtain rfl := h9.symm
  clear h9
  have hne : ¬ b = w.heap.size := by omega
  have n0 := cell_of N2.out 0
  have y0 := free_of N2.out 0
  have n1 := cell_of N2.out 1
  have y1 := free_of N2.out 1
  have n2 := cell_of N2.out 2
  have y2 := free_of N2.out 2
  simp at n0 n1 n2
  go_wp2_with fail
  refine bodyPost_ret (v := vt 5 true (absH c)) (by simp [results, Tryz.results116, go_sem, vt, VT.v, n0, n1, n2]) rfl ?_
  exact ⟨rfl, (((((FinD.mk_ T2.out S2.out)).set H.out (Nat.le_refl _)).set H.out (Nat.le_refl _)).set H.out (Nat.le_refl _))⟩
set_option maxRecDepth 100000 in
set_option maxHeartbeats 1000000 in
theorem dval_simd {w : World} {b : Nat} {v : Value} {l : List Int} {p : Nat} (field : Bool) (h : DR w b v l (.ok p)) (hp : p < l.length) (c : Int) (hcv : l.getD p 0 = c) (d99 : (c == 99) = false) (d100 : (c == 100) = false) (e0 : absH c = 0) (d5 : (c == 123) = true) :
    Calls Tryz.prog 116 #[.pointer (some ⟨b, 0, none⟩), .bool true, .bool field] w (DAns VT.v b v l w ((.error (p, 8) : RS VT))) := by
  have H : Hid (DR w b v l (.ok p)) := h
  have hb : b < w.heap.size := h.lt
  have hl := h.len
  have hc := h.byt p
  have P : Hid (∀ w', DR w' b v l (.ok p) → Calls Tryz.prog 115 #[.pointer (some ⟨b, 0, none⟩)] w' fun en w'' => en = .returned (.tuple #[.int .u8 c, .bool true]) ∧ Grew w' w'') := fun w' u => by rw [← hcv]; exact dpeek_ok u hp
  rw [hcv] at hc
  have A : Hid (∀ w', Calls Tryz.prog 119 #[.int .u8 c] w' fun en w'' => en = .returned (.int .i64 (absH c)) ∧ w'' = w') := abstract_any c hc
  clear h hcv
  have d4 : (absH c != 0) = false := by rw [e0]; rfl
  clear e0
  have S0 : Hid (DR (w.alloc (.cells #[.int .i64 0, .bool false, .int .i64 0] 28)) b v l (.ok p)) := H.out.grew ((Grew.refl w).alloc _)
  have T0 : Hid (Turn [b] w (w.alloc (.cells #[.int .i64 0, .bool false, .int .i64 0] 28))) := (Turn.refl [b] w).alloc _
  have N0 : Hid ((w.alloc (.cells #[.int .i64 0, .bool false, .int .i64 0] 28)).heap[w.heap.size]? = some (.cells #[.int .i64 0, .bool false, .int .i64 0] 28 (0, 0))) := heap_alloc_last _ _
  go_enter Tryz.func116, Tryz.ntmps116
  go_wp2_with fail
  refine (P.out _ S0.out).mono ?_
  rintro en w1 ⟨rfl, g1⟩
  have T1 : Hid (Turn [b] w w1) := T0.out.trans (g1.turn _)
  have S1 : Hid (DR w1 b v l (.ok p)) := S0.out.grew g1
  have N1 : Hid (w1.heap[w.heap.size]? = some (.cells #[.int .i64 0, .bool false, .int .i64 0] 28 (0, 0))) := (g1.turn []).other N0.out (by simp)
  clear g1 T0 S0 N0
  go_wp2_with fail
  refine (A.out _).mono ?_
  rintro en w9 ⟨rfl, h9⟩
  obtain rfl := h9.symm
  clear h9
  have c1_1 := cell_of S1.out.st.1 1
  simp at c1_1
  go_wp2_with fail
  refine (fail_any S1.out p 8 (by decide)).mono ?_
  rintro en w2 ⟨rfl, t2, s2⟩
  have T2 : Hid (Turn [b] w w2) := T1.out.trans t2
  have S2 : Hid (DR w2 b v l (.error (p, 8))) := s2
  have N2 : Hid (w2.heap[w.heap.size]? = some (.cells #[.int .i64 0, .bool false, .int .i64 0] 28 (0, 0))) := t2.other N1.out (by simp; omega)
  clear t2 s2 T1 S1 N1
  have hne : ¬ b = w.heap.size := by omega
  have n0 := cell_of N2.out 0
  have y0 := free_of N2.out 0
  have n1 := cell_of N2.out 1
  have y1 := free_of N2.out 1
  have n2 := cell_of N2.out 2
  have y2 := free_of N2.out 2
  simp at n0 n1 n2
  go_wp2_with fail
  refine bodyPost_ret (v := vt 0 false 0) (by simp [results, Tryz.results116, go_sem, vt, VT.v, n0, n1, n2]) rfl ?_
  exact ⟨⟨⟨0, false, 0⟩, rfl⟩, (((((FinD.mk_ T2.out S2.out)).set H.out (Nat.le_refl _)).set H.out (Nat.le_refl _)).set H.out (Nat.le_refl _))⟩
set_option maxRecDepth 100000 in
set_option maxHeartbeats 1000000 in
theorem dval_num {w : World} {b : Nat} {v : Value} {l : List Int} {p : Nat} (field : Bool) (h : DR w b v l (.ok p)) (hp : p < l.length) (c : Int) (hcv : l.getD p 0 = c) (d99 : (c == 99) = false) (d100 : (c == 100) = false) (e0 : absH c = 0) (d5 : (c == 123) = false) (h71 : 124 ≤ c) (h72 : c ≤ 127) :
    Calls Tryz.prog 116 #[.pointer (some ⟨b, 0, none⟩), .bool true, .bool field] w (DAns VT.v b v l w (.ok ((⟨128 - c, false, 0⟩ : VT), p + 1))) := by
  have H : Hid (DR w b v l (.ok p)) := h
  have hb : b < w.heap.size := h.lt
  have hl := h.len
  have hc := h.byt p
  have P : Hid (∀ w', DR w' b v l (.ok p) → Calls Tryz.prog 115 #[.pointer (some ⟨b, 0, none⟩)] w' fun en w'' => en = .returned (.tuple #[.int .u8 c, .bool true]) ∧ Grew w' w'') := fun w' u => by rw [← hcv]; exact dpeek_ok u hp
  rw [hcv] at hc
  have A : Hid (∀ w', Calls Tryz.prog 119 #[.int .u8 c] w' fun en w'' => en = .returned (.int .i64 (absH c)) ∧ w'' = w') := abstract_any c hc
  clear h hcv
  have d4 : (absH c != 0) = false := by rw [e0]; rfl
  clear e0
  have d71 : decide (124 ≤ c) = true := by simpa using h71
  have d72 : decide (c ≤ 127) = true := by simpa using h72
  have S0 : Hid (DR (w.alloc (.cells #[.int .i64 0, .bool false, .int .i64 0] 28)) b v l (.ok p)) := H.out.grew ((Grew.refl w).alloc _)
  have T0 : Hid (Turn [b] w (w.alloc (.cells #[.int .i64 0, .bool false, .int .i64 0] 28))) := (Turn.refl [b] w).alloc _
  have N0 : Hid ((w.alloc (.cells #[.int .i64 0, .bool false, .int .i64 0] 28)).heap[w.heap.size]? = some (.cells #[.int .i64 0, .bool false, .int .i64 0] 28 (0, 0))) := heap_alloc_last _ _
  go_enter Tryz.func116, Tryz.ntmps116
  go_wp2_with fail
  refine (P.out _ S0.out).mono ?_
  rintro en w1 ⟨rfl, g1⟩
  have T1 : Hid (Turn [b] w w1) := T0.out.trans (g1.turn _)
  have S1 : Hid (DR w1 b v l (.ok p)) := S0.out.grew g1
  have N1 : Hid (w1.heap[w.heap.size]? = some (.cells #[.int .i64 0, .bool false, .int .i64 0] 28 (0, 0))) := (g1.turn []).other N0.out (by simp)
  clear g1 T0 S0 N0
  go_wp2_with fail
  refine (A.out _).mono ?_
  rintro en w9 ⟨rfl, h9⟩
  obtain rfl := h9.symm
  clear h9
  have c1_1 := cell_of S1.out.st.1 1
  have z1_1 := free_of S1.out.st.1 1
  simp at c1_1
  have hq1 : p + 1 ≤ l.length := by omega
  have hne : ¬ b = w.heap.size := by omega
  have n0 := cell_of N1.out 0
  have y0 := free_of N1.out 0
  have n1 := cell_of N1.out 1
  have y1 := free_of N1.out 1
  have n2 := cell_of N1.out 2
  have y2 := free_of N1.out 2
  simp at n0 n1 n2
  go_wp2_with fail
  refine bodyPost_ret (v := vt (128 - c) false 0) (by simp [results, Tryz.results116, go_sem, vt, VT.v, n0, n1, n2]) rfl ?_
  exact ⟨rfl, (((((FinD.mk_ T1.out S1.out).inc hq1).set H.out (Nat.le_refl _)).set H.out (Nat.le_refl _)).set H.out (Nat.le_refl _))⟩
set_option maxRecDepth 100000 in
set_option maxHeartbeats 1000000 in
theorem dval_p6t {w : World} {b : Nat} {v : Value} {l : List Int} {p : Nat} (h : DR w b v l (.ok p)) (hp : p < l.length) (c : Int) (hcv : l.getD p 0 = c) (hn : c = 120) :
    Calls Tryz.prog 116 #[.pointer (some ⟨b, 0, none⟩), .bool true, .bool true] w (DAns VT.v b v l w (.ok ((⟨6, false, 0⟩ : VT), p + 1))) := by
  have H : Hid (DR w b v l (.ok p)) := h
  have hb : b < w.heap.size := h.lt
  have hl := h.len
  have hc := h.byt p
  have P : Hid (∀ w', DR w' b v l (.ok p) → Calls Tryz.prog 115 #[.pointer (some ⟨b, 0, none⟩)] w' fun en w'' => en = .returned (.tuple #[.int .u8 c, .bool true]) ∧ Grew w' w'') := fun w' u => by rw [← hcv]; exact dpeek_ok u hp
  rw [hcv] at hc
  have A : Hid (∀ w', Calls Tryz.prog 119 #[.int .u8 c] w' fun en w'' => en = .returned (.int .i64 (absH c)) ∧ w'' = w') := abstract_any c hc
  clear h hcv
  subst hn
  have e0 : absH 120 = 0 := by decide
  have d4 : (absH 120 != 0) = false := by rw [e0]; rfl
  clear e0
  have S0 : Hid (DR (w.alloc (.cells #[.int .i64 0, .bool false, .int .i64 0] 28)) b v l (.ok p)) := H.out.grew ((Grew.refl w).alloc _)
  have T0 : Hid (Turn [b] w (w.alloc (.cells #[.int .i64 0, .bool false, .int .i64 0] 28))) := (Turn.refl [b] w).alloc _
  have N0 : Hid ((w.alloc (.cells #[.int .i64 0, .bool false, .int .i64 0] 28)).heap[w.heap.size]? = some (.cells #[.int .i64 0, .bool false, .int .i64 0] 28 (0, 0))) := heap_alloc_last _ _
  go_enter Tryz.func116, Tryz.ntmps116
  go_wp2_with fail
  refine (P.out _ S0.out).mono ?_
  rintro en w1 ⟨rfl, g1⟩
  have T1 : Hid (Turn [b] w w1) := T0.out.trans (g1.turn _)
  have S1 : Hid (DR w1 b v l (.ok p)) := S0.out.grew g1
  have N1 : Hid (w1.heap[w.heap.size]? = some (.cells #[.int .i64 0, .bool false, .int .i64 0] 28 (0, 0))) := (g1.turn []).other N0.out (by simp)
  clear g1 T0 S0 N0
  go_wp2_with fail
  refine (A.out _).mono ?_
  rintro en w9 ⟨rfl, h9⟩
  obtain rfl := h9.symm
  clear h9
  have c1_1 := cell_of S1.out.st.1 1
  have z1_1 := free_of S1.out.st.1 1
  simp at c1_1
  have hq1 : p + 1 ≤ l.length := by omega
  have hne : ¬ b = w.heap.size := by omega
  have n0 := cell_of N1.out 0
  have y0 := free_of N1.out 0
  have n1 := cell_of N1.out 1
  have y1 := free_of N1.out 1
  have n2 := cell_of N1.out 2
  have y2 := free_of N1.out 2
  simp at n0 n1 n2
  go_wp2_with fail
  refine bodyPost_ret (v := vt 6 false 0) (by simp [results, Tryz.results116, go_sem, vt, VT.v, n0, n1, n2]) rfl ?_
  exact ⟨rfl, (((((FinD.mk_ T1.out S1.out).inc hq1).set H.out (Nat.le_refl _)).set H.out (Nat.le_refl _)).set H.out (Nat.le_refl _))⟩
set_option maxRecDepth 100000 in
set_option maxHeartbeats 1000000 in
theorem dval_p6f {w : World} {b : Nat} {v : Value} {l : List Int} {p : Nat} (h : DR w b v l (.ok p)) (hp : p < l.length) (c : Int) (hcv : l.getD p 0 = c) (hn : c = 120) :
    Calls Tryz.prog 116 #[.pointer (some ⟨b, 0, none⟩), .bool false, .bool true] w (DAns VT.v b v l w (.ok ((⟨6, false, 0⟩ : VT), p + 1))) := by
  have H : Hid (DR w b v l (.ok p)) := h
  have hb : b < w.heap.size := h.lt
  have hl := h.len
  have hc := h.byt p
  have P : Hid (∀ w', DR w' b v l (.ok p) → Calls Tryz.prog 115 #[.pointer (some ⟨b, 0, none⟩)] w' fun en w'' => en = .returned (.tuple #[.int .u8 c, .bool true]) ∧ Grew w' w'') := fun w' u => by rw [← hcv]; exact dpeek_ok u hp
  rw [hcv] at hc
  have A : Hid (∀ w', Calls Tryz.prog 119 #[.int .u8 c] w' fun en w'' => en = .returned (.int .i64 (absH c)) ∧ w'' = w') := abstract_any c hc
  clear h hcv
  subst hn
  have e0 : absH 120 = 0 := by decide
  have d4 : (absH 120 != 0) = false := by rw [e0]; rfl
  clear e0
  have S0 : Hid (DR (w.alloc (.cells #[.int .i64 0, .bool false, .int .i64 0] 28)) b v l (.ok p)) := H.out.grew ((Grew.refl w).alloc _)
  have T0 : Hid (Turn [b] w (w.alloc (.cells #[.int .i64 0, .bool false, .int .i64 0] 28))) := (Turn.refl [b] w).alloc _
  have N0 : Hid ((w.alloc (.cells #[.int .i64 0, .bool false, .int .i64 0] 28)).heap[w.heap.size]? = some (.cells #[.int .i64 0, .bool false, .int .i64 0] 28 (0, 0))) := heap_alloc_last _ _
  go_enter Tryz.func116, Tryz.ntmps116
  go_wp2_with fail
  refine (P.out _ S0.out).mono ?_
  rintro en w1 ⟨rfl, g1⟩
  have T1 : Hid (Turn [b] w w1) := T0.out.trans (g1.turn _)
  have S1 : Hid (DR w1 b v l (.ok p)) := S0.out.grew g1
  have N1 : Hid (w1.heap[w.heap.size]? = some (.cells #[.int .i64 0, .bool false, .int .i64 0] 28 (0, 0))) := (g1.turn []).other N0.out (by simp)
  clear g1 T0 S0 N0
  go_wp2_with fail
  refine (A.out _).mono ?_
  rintro en w9 ⟨rfl, h9⟩
  obtain rfl := h9.symm
  clear h9
  have c1_1 := cell_of S1.out.st.1 1
  have z1_1 := free_of S1.out.st.1 1
  simp at c1_1
  have hq1 : p + 1 ≤ l.length := by omega
  have hne : ¬ b = w.heap.size := by omega
  have n0 := cell_of N1.out 0
  have y0 := free_of N1.out 0
  have n1 := cell_of N1.out 1
  have y1 := free_of N1.out 1
  have n2 := cell_of N1.out 2
  have y2 := free_of N1.out 2
  simp at n0 n1 n2
  go_wp2_with fail
  refine bodyPost_ret (v := vt 6 false 0) (by simp [results, Tryz.results116, go_sem, vt, VT.v, n0, n1, n2]) rfl ?_
  exact ⟨rfl, (((((FinD.mk_ T1.out S1.out).inc hq1).set H.out (Nat.le_refl _)).set H.out (Nat.le_refl _)).set H.out (Nat.le_refl _))⟩
set_option maxRecDepth 100000 in
set_option maxHeartbeats 1000000 in
theorem dval_p7t {w : World} {b : Nat} {v : Value} {l : List Int} {p : Nat} (h : DR w b v l (.ok p)) (hp : p < l.length) (c : Int) (hcv : l.getD p 0 = c) (hn : c = 119) :
    Calls Tryz.prog 116 #[.pointer (some ⟨b, 0, none⟩), .bool true, .bool true] w (DAns VT.v b v l w (.ok ((⟨7, false, 0⟩ : VT), p + 1))) := by
  have H : Hid (DR w b v l (.ok p)) := h
  have hb : b < w.heap.size := h.lt
  have hl := h.len
  have hc := h.byt p
  have P : Hid (∀ w', DR w' b v l (.ok p) → Calls Tryz.prog 115 #[.pointer (some ⟨b, 0, none⟩)] w' fun en w'' => en = .returned (.tuple #[.int .u8 c, .bool true]) ∧ Grew w' w'') := fun w' u => by rw [← hcv]; exact dpeek_ok u hp
  rw [hcv] at hc
  have A : Hid (∀ w', Calls Tryz.prog 119 #[.int .u8 c] w' fun en w'' => en = .returned (.int .i64 (absH c)) ∧ w'' = w') := abstract_any c hc
  clear h hcv
  subst hn
  have e0 : absH 119 = 0 := by decide
  have d4 : (absH 119 != 0) = false := by rw [e0]; rfl
  clear e0
  have S0 : Hid (DR (w.alloc (.cells #[.int .i64 0, .bool false, .int .i64 0] 28)) b v l (.ok p)) := H.out.grew ((Grew.refl w).alloc _)
  have T0 : Hid (Turn [b] w (w.alloc (.cells #[.int .i64 0, .bool false, .int .i64 0] 28))) := (Turn.refl [b] w).alloc _
  have N0 : Hid ((w.alloc (.cells #[.int .i64 0, .bool false, .int .i64 0] 28)).heap[w.heap.size]? = some (.cells #[.int .i64 0, .bool false, .int .i64 0] 28 (0, 0))) := heap_alloc_last _ _
  go_enter Tryz.func116, Tryz.ntmps116
  go_wp2_with fail
  refine (P.out _ S0.out).mono ?_
  rintro en w1 ⟨rfl, g1⟩
  have T1 : Hid (Turn [b] w w1) := T0.out.trans (g1.turn _)
  have S1 : Hid (DR w1 b v l (.ok p)) := S0.out.grew g1
  have N1 : Hid (w1.heap[w.heap.size]? = some (.cells #[.int .i64 0, .bool false, .int .i64 0] 28 (0, 0))) := (g1.turn []).other N0.out (by simp)
  clear g1 T0 S0 N0
  go_wp2_with fail
  refine (A.out _).mono ?_
  rintro en w9 ⟨rfl, h9⟩
  obtain rfl := h9.symm
  clear h9
  have c1_1 := cell_of S1.out.st.1 1
  have z1_1 := free_of S1.out.st.1 1
  simp at c1_1
  have hq1 : p + 1 ≤ l.length := by omega
  have hne : ¬ b = w.heap.size := by omega
  have n0 := cell_of N1.out 0
  have y0 := free_of N1.out 0
  have n1 := cell_of N1.out 1
  have y1 := free_of N1.out 1
  have n2 := cell_of N1.out 2
  have y2 := free_of N1.out 2
  simp at n0 n1 n2
  go_wp2_with fail
  refine bodyPost_ret (v := vt 7 false 0) (by simp [results, Tryz.results116, go_sem, vt, VT.v, n0, n1, n2]) rfl ?_
  exact ⟨rfl, (((((FinD.mk_ T1.out S1.out).inc hq1).set H.out (Nat.le_refl _)).set H.out (Nat.le_refl _)).set H.out (Nat.le_refl _))⟩
set_option maxRecDepth 100000 in
set_option maxHeartbeats 1000000 in
theorem dval_p7f {w : World} {b : Nat} {v : Value} {l : List Int} {p : Nat} (h : DR w b v l (.ok p)) (hp : p < l.length) (c : Int) (hcv : l.getD p 0 = c) (hn : c = 119) :
    Calls Tryz.prog 116 #[.pointer (some ⟨b, 0, none⟩), .bool false, .bool true] w (DAns VT.v b v l w (.ok ((⟨7, false, 0⟩ : VT), p + 1))) := by
  have H : Hid (DR w b v l (.ok p)) := h
  have hb : b < w.heap.size := h.lt
  have hl := h.len
  have hc := h.byt p
  have P : Hid (∀ w', DR w' b v l (.ok p) → Calls Tryz.prog 115 #[.pointer (some ⟨b, 0, none⟩)] w' fun en w'' => en = .returned (.tuple #[.int .u8 c, .bool true]) ∧ Grew w' w'') := fun w' u => by rw [← hcv]; exact dpeek_ok u hp
  rw [hcv] at hc
  have A : Hid (∀ w', Calls Tryz.prog 119 #[.int .u8 c] w' fun en w'' => en = .returned (.int .i64 (absH c)) ∧ w'' = w') := abstract_any c hc
  clear h hcv
  subst hn
  have e0 : absH 119 = 0 := by decide
  have d4 : (absH 119 != 0) = false := by rw [e0]; rfl
  clear e0
  have S0 : Hid (DR (w.alloc (.cells #[.int .i64 0, .bool false, .int .i64 0] 28)) b v l (.ok p)) := H.out.grew ((Grew.refl w).alloc _)
  have T0 : Hid (Turn [b] w (w.alloc (.cells #[.int .i64 0, .bool false, .int .i64 0] 28))) := (Turn.refl [b] w).alloc _
  have N0 : Hid ((w.alloc (.cells #[.int .i64 0, .bool false, .int .i64 0] 28)).heap[w.heap.size]? = some (.cells #[.int .i64 0, .bool false, .int .i64 0] 28 (0, 0))) := heap_alloc_last _ _
  go_enter Tryz.func116, Tryz.ntmps116
  go_wp2_with fail
  refine (P.out _ S0.out).mono ?_
  rintro en w1 ⟨rfl, g1⟩
  have T1 : Hid (Turn [b] w w1) := T0.out.trans (g1.turn _)
  have S1 : Hid (DR w1 b v l (.ok p)) := S0.out.grew g1
  have N1 : Hid (w1.heap[w.heap.size]? = some (.cells #[.int .i64 0, .bool false, .int .i64 0] 28 (0, 0))) := (g1.turn []).other N0.out (by simp)
  clear g1 T0 S0 N0
  go_wp2_with fail
  refine (A.out _).mono ?_
  rintro en w9 ⟨rfl, h9⟩
  obtain rfl := h9.symm
  clear h9
  have c1_1 := cell_of S1.out.st.1 1
  have z1_1 := free_of S1.out.st.1 1
  simp at c1_1
  have hq1 : p + 1 ≤ l.length := by omega
  have hne : ¬ b = w.heap.size := by omega
  have n0 := cell_of N1.out 0
  have y0 := free_of N1.out 0
  have n1 := cell_of N1.out 1
  have y1 := free_of N1.out 1
  have n2 := cell_of N1.out 2
  have y2 := free_of N1.out 2
  simp at n0 n1 n2
  go_wp2_with fail
  refine bodyPost_ret (v := vt 7 false 0) (by simp [results, Tryz.results116, go_sem, vt, VT.v, n0, n1, n2]) rfl ?_
  exact ⟨rfl, (((((FinD.mk_ T1.out S1.out).inc hq1).set H.out (Nat.le_refl _)).set H.out (Nat.le_refl _)).set H.out (Nat.le_refl _))⟩
set_option maxRecDepth 100000 in
set_option maxHeartbeats 1000000 in
theorem dval_fttl {w : World} {b : Nat} {v : Value} {l : List Int} {p : Nat} (h : DR w b v l (.ok p)) (hp : p < l.length) (c : Int) (hcv : l.getD p 0 = c) (d99 : (c == 99) = false) (d100 : (c == 100) = false) (e0 : absH c = 0) (d81 : (c == 120) = false) (d82 : (c == 119) = false) (d5 : (c == 123) = false) (d71 : decide (124 ≤ c) = false) :
    Calls Tryz.prog 116 #[.pointer (some ⟨b, 0, none⟩), .bool true, .bool true] w (DAns VT.v b v l w ((.error (p, 4) : RS VT))) := by
  have H : Hid (DR w b v l (.ok p)) := h
  have hb : b < w.heap.size := h.lt
  have hl := h.len
  have hc := h.byt p
  have P : Hid (∀ w', DR w' b v l (.ok p) → Calls Tryz.prog 115 #[.pointer (some ⟨b, 0, none⟩)] w' fun en w'' => en = .returned (.tuple #[.int .u8 c, .bool true]) ∧ Grew w' w'') := fun w' u => by rw [← hcv]; exact dpeek_ok u hp
  rw [hcv] at hc
  have A : Hid (∀ w', Calls Tryz.prog 119 #[.int .u8 c] w' fun en w'' => en = .returned (.int .i64 (absH c)) ∧ w'' = w') := abstract_any c hc
  clear h hcv
  have d4 : (absH c != 0) = false := by rw [e0]; rfl
  clear e0
  have S0 : Hid (DR (w.alloc (.cells #[.int .i64 0, .bool false, .int .i64 0] 28)) b v l (.ok p)) := H.out.grew ((Grew.refl w).alloc _)
  have T0 : Hid (Turn [b] w (w.alloc (.cells #[.int .i64 0, .bool false, .int .i64 0] 28))) := (Turn.refl [b] w).alloc _
  have N0 : Hid ((w.alloc (.cells #[.int .i64 0, .bool false, .int .i64 0] 28)).heap[w.heap.size]? = some (.cells #[.int .i64 0, .bool false, .int .i64 0] 28 (0, 0))) := heap_alloc_last _ _
  go_enter Tryz.func116, Tryz.ntmps116
  go_wp2_with fail
  refine (P.out _ S0.out).mono ?_
  rintro en w1 ⟨rfl, g1⟩
  have T1 : Hid (Turn [b] w w1) := T0.out.trans (g1.turn _)
  have S1 : Hid (DR w1 b v l (.ok p)) := S0.out.grew g1
  have N1 : Hid (w1.heap[w.heap.size]? = some (.cells #[.int .i64 0, .bool false, .int .i64 0] 28 (0, 0))) := (g1.turn []).other N0.out (by simp)
  clear g1 T0 S0 N0
  go_wp2_with fail
  refine (A.out _).mono ?_
  rintro en w9 ⟨rfl, h9⟩
  obtain rfl := h9.symm
  clear h9
  have c1_1 := cell_of S1.out.st.1 1
  simp at c1_1
  go_wp2_with fail
  refine (failat_any S1.out p 4 (by decide)).mono ?_
  rintro en w2 ⟨rfl, t2, o2⟩
  have T2 : Hid (Turn [b] w w2) := T1.out.trans t2
  have O2 : Hid (w2.heap[b]? = some (rdg v p p 4)) := o2
  have N2 : Hid (w2.heap[w.heap.size]? = some (.cells #[.int .i64 0, .bool false, .int .i64 0] 28 (0, 0))) := t2.other N1.out (by simp; omega)
  have c1_2 := cell_of o2 1
  have z1_2 := free_of o2 1
  simp at c1_2
  clear t2 o2 T1 S1 N1
  have hne : ¬ b = w.heap.size := by omega
  have n0 := cell_of N2.out 0
  have y0 := free_of N2.out 0
  have n1 := cell_of N2.out 1
  have y1 := free_of N2.out 1
  have n2 := cell_of N2.out 2
  have y2 := free_of N2.out 2
  simp at n0 n1 n2
  go_wp2_with fail
  refine bodyPost_ret (v := vt 0 false 0) (by simp [results, Tryz.results116, go_sem, vt, VT.v, n0, n1, n2]) rfl ?_
  have F8 : FinD b v l w (w2.setCell ⟨b, 1, none⟩ (.int .i64 ((p : Int) + 1))) (.error (p, 4)) := by
    have t8 : Turn [b] w (w2.setCell ⟨b, 1, none⟩ (.int .i64 ((p : Int) + 1))) := T2.out.set (Or.inl (by simp)) _
    refine ⟨t8, H.out.of t8 ⟨p + 1, ?_, by omega, by decide⟩⟩
    rw [heap_set O2.out]
    simp [rdg]
  exact ⟨⟨⟨0, false, 0⟩, rfl⟩, ((F8.set H.out (Nat.le_refl _)).set H.out (Nat.le_refl _)).set H.out (Nat.le_refl _)⟩
set_option maxRecDepth 100000 in
set_option maxHeartbeats 1000000 in
theorem dval_ftth {w : World} {b : Nat} {v : Value} {l : List Int} {p : Nat} (h : DR w b v l (.ok p)) (hp : p < l.length) (c : Int) (hcv : l.getD p 0 = c) (d99 : (c == 99) = false) (d100 : (c == 100) = false) (e0 : absH c = 0) (d81 : (c == 120) = false) (d82 : (c == 119) = false) (d5 : (c == 123) = false) (d71 : decide (124 ≤ c) = true) (d72 : decide (c ≤ 127) = false) :
    Calls Tryz.prog 116 #[.pointer (some ⟨b, 0, none⟩), .bool true, .bool true] w (DAns VT.v b v l w ((.error (p, 4) : RS VT))) := by
  have H : Hid (DR w b v l (.ok p)) := h
  have hb : b < w.heap.size := h.lt
  have hl := h.len
  have hc := h.byt p
  have P : Hid (∀ w', DR w' b v l (.ok p) → Calls Tryz.prog 115 #[.pointer (some ⟨b, 0, none⟩)] w' fun en w'' => en = .returned (.tuple #[.int .u8 c, .bool true]) ∧ Grew w' w'') := fun w' u => by rw [← hcv]; exact dpeek_ok u hp
  rw [hcv] at hc
  have A : Hid (∀ w', Calls Tryz.prog 119 #[.int .u8 c] w' fun en w'' => en = .returned (.int .i64 (absH c)) ∧ w'' = w') := abstract_any c hc
  clear h hcv
  have d4 : (absH c != 0) = false := by rw [e0]; rfl
  clear e0
  have S0 : Hid (DR (w.alloc (.cells #[.int .i64 0, .bool false, .int .i64 0] 28)) b v l (.ok p)) := H.out.grew ((Grew.refl w).alloc _)
  have T0 : Hid (Turn [b] w (w.alloc (.cells #[.int .i64 0, .bool false, .int .i64 0] 28))) := (Turn.refl [b] w).alloc _
  have N0 : Hid ((w.alloc (.cells #[.int .i64 0, .bool false, .int .i64 0] 28)).heap[w.heap.size]? = some (.cells #[.int .i64 0, .bool false, .int .i64 0] 28 (0, 0))) := heap_alloc_last _ _
  go_enter Tryz.func116, Tryz.ntmps116
  go_wp2_with fail
  refine (P.out _ S0.out).mono ?_
  rintro en w1 ⟨rfl, g1⟩
  have T1 : Hid (Turn [b] w w1) := T0.out.trans (g1.turn _)
  have S1 : Hid (DR w1 b v l (.ok p)) := S0.out.grew g1
  have N1 : Hid (w1.heap[w.heap.size]? = some (.cells #[.int .i64 0, .bool false, .int .i64 0] 28 (0, 0))) := (g1.turn []).other N0.out (by simp)
  clear g1 T0 S0 N0
  go_wp2_with fail
  refine (A.out _).mono ?_
  rintro en w9 ⟨rfl, h9⟩
  obtain rfl := h9.symm
  clear h9
  have c1_1 := cell_of S1.out.st.1 1
  simp at c1_1
  go_wp2_with fail
  refine (failat_any S1.out p 4 (by decide)).mono ?_
  rintro en w2 ⟨rfl, t2, o2⟩
  have T2 : Hid (Turn [b] w w2) := T1.out.trans t2
  have O2 : Hid (w2.heap[b]? = some (rdg v p p 4)) := o2
  have N2 : Hid (w2.heap[w.heap.size]? = some (.cells #[.int .i64 0, .bool false, .int .i64 0] 28 (0, 0))) := t2.other N1.out (by simp; omega)
  have c1_2 := cell_of o2 1
  have z1_2 := free_of o2 1
  simp at c1_2
  clear t2 o2 T1 S1 N1
  have hne : ¬ b = w.heap.size := by omega
  have n0 := cell_of N2.out 0
  have y0 := free_of N2.out 0
  have n1 := cell_of N2.out 1
  have y1 := free_of N2.out 1
  have n2 := cell_of N2.out 2
  have y2 := free_of N2.out 2
  simp at n0 n1 n2
  go_wp2_with fail
  refine bodyPost_ret (v := vt 0 false 0) (by simp [results, Tryz.results116, go_sem, vt, VT.v, n0, n1, n2]) rfl ?_
  have F8 : FinD b v l w (w2.setCell ⟨b, 1, none⟩ (.int .i64 ((p : Int) + 1))) (.error (p, 4)) := by
    have t8 : Turn [b] w (w2.setCell ⟨b, 1, none⟩ (.int .i64 ((p : Int) + 1))) := T2.out.set (Or.inl (by simp)) _
    refine ⟨t8, H.out.of t8 ⟨p + 1, ?_, by omega, by decide⟩⟩
    rw [heap_set O2.out]
    simp [rdg]
  exact ⟨⟨⟨0, false, 0⟩, rfl⟩, ((F8.set H.out (Nat.le_refl _)).set H.out (Nat.le_refl _)).set H.out (Nat.le_refl _)⟩
set_option maxRecDepth 100000 in
set_option maxHeartbeats 1000000 in
theorem dval_ftfl {w : World} {b : Nat} {v : Value} {l : List Int} {p : Nat} (h : DR w b v l (.ok p)) (hp : p < l.length) (c : Int) (hcv : l.getD p 0 = c) (d99 : (c == 99) = false) (d100 : (c == 100) = false) (e0 : absH c = 0) (d5 : (c == 123) = false) (d71 : decide (124 ≤ c) = false) :
    Calls Tryz.prog 116 #[.pointer (some ⟨b, 0, none⟩), .bool true, .bool false] w (DAns VT.v b v l w ((.error (p, 4) : RS VT))) := by
  have H : Hid (DR w b v l (.ok p)) := h
  have hb : b < w.heap.size := h.lt
  have hl := h.len
  have hc := h.byt p
  have P : Hid (∀ w', DR w' b v l (.ok p) → Calls Tryz.prog 115 #[.pointer (some ⟨b, 0, none⟩)] w' fun en w'' => en = .returned (.tuple #[.int .u8 c, .bool true]) ∧ Grew w' w'') := fun w' u => by rw [← hcv]; exact dpeek_ok u hp
  rw [hcv] at hc
  have A : Hid (∀ w', Calls Tryz.prog 119 #[.int .u8 c] w' fun en w'' => en = .returned (.int .i64 (absH c)) ∧ w'' = w') := abstract_any c hc
  clear h hcv
  have d4 : (absH c != 0) = false := by rw [e0]; rfl
  clear e0
  have S0 : Hid (DR (w.alloc (.cells #[.int .i64 0, .bool false, .int .i64 0] 28)) b v l (.ok p)) := H.out.grew ((Grew.refl w).alloc _)
  have T0 : Hid (Turn [b] w (w.alloc (.cells #[.int .i64 0, .bool false, .int .i64 0] 28))) := (Turn.refl [b] w).alloc _
  have N0 : Hid ((w.alloc (.cells #[.int .i64 0, .bool false, .int .i64 0] 28)).heap[w.heap.size]? = some (.cells #[.int .i64 0, .bool false, .int .i64 0] 28 (0, 0))) := heap_alloc_last _ _
  go_enter Tryz.func116, Tryz.ntmps116
  go_wp2_with fail
  refine (P.out _ S0.out).mono ?_
  rintro en w1 ⟨rfl, g1⟩
  have T1 : Hid (Turn [b] w w1) := T0.out.trans (g1.turn _)
  have S1 : Hid (DR w1 b v l (.ok p)) := S0.out.grew g1
  have N1 : Hid (w1.heap[w.heap.size]? = some (.cells #[.int .i64 0, .bool false, .int .i64 0] 28 (0, 0))) := (g1.turn []).other N0.out (by simp)
  clear g1 T0 S0 N0
  go_wp2_with fail
  refine (A.out _).mono ?_
  rintro en w9 ⟨rfl, h9⟩
  obtain rfl := h9.symm
  clear h9
  have c1_1 := cell_of S1.out.st.1 1
  simp at c1_1
  go_wp2_with fail
  refine (failat_any S1.out p 4 (by decide)).mono ?_
  rintro en w2 ⟨rfl, t2, o2⟩
  have T2 : Hid (Turn [b] w w2) := T1.out.trans t2
  have O2 : Hid (w2.heap[b]? = some (rdg v p p 4)) := o2
  have N2 : Hid (w2.heap[w.heap.size]? = some (.cells #[.int .i64 0, .bool false, .int .i64 0] 28 (0, 0))) := t2.other N1.out (by simp; omega)
  have c1_2 := cell_of o2 1
  have z1_2 := free_of o2 1
  simp at c1_2
  clear t2 o2 T1 S1 N1
  have hne : ¬ b = w.heap.size := by omega
  have n0 := cell_of N2.out 0
  have y0 := free_of N2.out 0
  have n1 := cell_of N2.out 1
  have y1 := free_of N2.out 1
  have n2 := cell_of N2.out 2
  have y2 := free_of N2.out 2
  simp at n0 n1 n2
  go_wp2_with fail
  refine bodyPost_ret (v := vt 0 false 0) (by simp [results, Tryz.results116, go_sem, vt, VT.v, n0, n1, n2]) rfl ?_
  have F8 : FinD b v l w (w2.setCell ⟨b, 1, none⟩ (.int .i64 ((p : Int) + 1))) (.error (p, 4)) := by
    have t8 : Turn [b] w (w2.setCell ⟨b, 1, none⟩ (.int .i64 ((p : Int) + 1))) := T2.out.set (Or.inl (by simp)) _
    refine ⟨t8, H.out.of t8 ⟨p + 1, ?_, by omega, by decide⟩⟩
    rw [heap_set O2.out]
    simp [rdg]
  exact ⟨⟨⟨0, false, 0⟩, rfl⟩, ((F8.set H.out (Nat.le_refl _)).set H.out (Nat.le_refl _)).set H.out (Nat.le_refl _)⟩
set_option maxRecDepth 100000 in
set_option maxHeartbeats 1000000 in
theorem dval_ftfh {w : World} {b : Nat} {v : Value} {l : List Int} {p : Nat} (h : DR w b v l (.ok p)) (hp : p < l.length) (c : Int) (hcv : l.getD p 0 = c) (d99 : (c == 99) = false) (d100 : (c == 100) = false) (e0 : absH c = 0) (d5 : (c == 123) = false) (d71 : decide (124 ≤ c) = true) (d72 : decide (c ≤ 127) = false) :
    Calls Tryz.prog 116 #[.pointer (some ⟨b, 0, none⟩), .bool true, .bool false] w (DAns VT.v b v l w ((.error (p, 4) : RS VT))) := by
  have H : Hid (DR w b v l (.ok p)) := h
  have hb : b < w.heap.size := h.lt
  have hl := h.len
  have hc := h.byt p
  have P : Hid (∀ w', DR w' b v l (.ok p) → Calls Tryz.prog 115 #[.pointer (some ⟨b, 0, none⟩)] w' fun en w'' => en = .returned (.tuple #[.int .u8 c, .bool true]) ∧ Grew w' w'') := fun w' u => by rw [← hcv]; exact dpeek_ok u hp
  rw [hcv] at hc
  have A : Hid (∀ w', Calls Tryz.prog 119 #[.int .u8 c] w' fun en w'' => en = .returned (.int .i64 (absH c)) ∧ w'' = w') := abstract_any c hc
  clear h hcv
  have d4 : (absH c != 0) = false := by rw [e0]; rfl
  clear e0
  have S0 : Hid (DR (w.alloc (.cells #[.int .i64 0, .bool false, .int .i64 0] 28)) b v l (.ok p)) := H.out.grew ((Grew.refl w).alloc _)
  have T0 : Hid (Turn [b] w (w.alloc (.cells #[.int .i64 0, .bool false, .int .i64 0] 28))) := (Turn.refl [b] w).alloc _
  have N0 : Hid ((w.alloc (.cells #[.int .i64 0, .bool false, .int .i64 0] 28)).heap[w.heap.size]? = some (.cells #[.int .i64 0, .bool false, .int .i64 0] 28 (0, 0))) := heap_alloc_last _ _
  go_enter Tryz.func116, Tryz.ntmps116
  go_wp2_with fail
  refine (P.out _ S0.out).mono ?_
  rintro en w1 ⟨rfl, g1⟩
  have T1 : Hid (Turn [b] w w1) := T0.out.trans (g1.turn _)
  have S1 : Hid (DR w1 b v l (.ok p)) := S0.out.grew g1
  have N1 : Hid (w1.heap[w.heap.size]? = some (.cells #[.int .i64 0, .bool false, .int .i64 0] 28 (0, 0))) := (g1.turn []).other N0.out (by simp)
  clear g1 T0 S0 N0
  go_wp2_with fail
  refine (A.out _).mono ?_
  rintro en w9 ⟨rfl, h9⟩
  obtain rfl := h9.symm
  clear h9
  have c1_1 := cell_of S1.out.st.1 1
  simp at c1_1
  go_wp2_with fail
  refine (failat_any S1.out p 4 (by decide)).mono ?_
  rintro en w2 ⟨rfl, t2, o2⟩
  have T2 : Hid (Turn [b] w w2) := T1.out.trans t2
  have O2 : Hid (w2.heap[b]? = some (rdg v p p 4)) := o2
  have N2 : Hid (w2.heap[w.heap.size]? = some (.cells #[.int .i64 0, .bool false, .int .i64 0] 28 (0, 0))) := t2.other N1.out (by simp; omega)
  have c1_2 := cell_of o2 1
  have z1_2 := free_of o2 1
  simp at c1_2
  clear t2 o2 T1 S1 N1
  have hne : ¬ b = w.heap.size := by omega
  have n0 := cell_of N2.out 0
  have y0 := free_of N2.out 0
  have n1 := cell_of N2.out 1
  have y1 := free_of N2.out 1
  have n2 := cell_of N2.out 2
  have y2 := free_of N2.out 2
  simp at n0 n1 n2
  go_wp2_with fail
  refine bodyPost_ret (v := vt 0 false 0) (by simp [results, Tryz.results116, go_sem, vt, VT.v, n0, n1, n2]) rfl ?_
  have F8 : FinD b v l w (w2.setCell ⟨b, 1, none⟩ (.int .i64 ((p : Int) + 1))) (.error (p, 4)) := by
    have t8 : Turn [b] w (w2.setCell ⟨b, 1, none⟩ (.int .i64 ((p : Int) + 1))) := T2.out.set (Or.inl (by simp)) _
    refine ⟨t8, H.out.of t8 ⟨p + 1, ?_, by omega, by decide⟩⟩
    rw [heap_set O2.out]
    simp [rdg]
  exact ⟨⟨⟨0, false, 0⟩, rfl⟩, ((F8.set H.out (Nat.le_refl _)).set H.out (Nat.le_refl _)).set H.out (Nat.le_refl _)⟩
set_option maxRecDepth 100000 in
set_option maxHeartbeats 1000000 in
theorem dval_fft {w : World} {b : Nat} {v : Value} {l : List Int} {p : Nat} (h : DR w b v l (.ok p)) (hp : p < l.length) (c : Int) (hcv : l.getD p 0 = c) (d99 : (c == 99) = false) (d100 : (c == 100) = false) (e0 : absH c = 0) (d81 : (c == 120) = false) (d82 : (c == 119) = false) :
    Calls Tryz.prog 116 #[.pointer (some ⟨b, 0, none⟩), .bool false, .bool true] w (DAns VT.v b v l w ((.error (p, 4) : RS VT))) := by
  have H : Hid (DR w b v l (.ok p)) := h
  have hb : b < w.heap.size := h.lt
  have hl := h.len
  have hc := h.byt p
  have P : Hid (∀ w', DR w' b v l (.ok p) → Calls Tryz.prog 115 #[.pointer (some ⟨b, 0, none⟩)] w' fun en w'' => en = .returned (.tuple #[.int .u8 c, .bool true]) ∧ Grew w' w'') := fun w' u => by rw [← hcv]; exact dpeek_ok u hp
  rw [hcv] at hc
  have A : Hid (∀ w', Calls Tryz.prog 119 #[.int .u8 c] w' fun en w'' => en = .returned (.int .i64 (absH c)) ∧ w'' = w') := abstract_any c hc
  clear h hcv
  have d4 : (absH c != 0) = false := by rw [e0]; rfl
  clear e0
  have S0 : Hid (DR (w.alloc (.cells #[.int .i64 0, .bool false, .int .i64 0] 28)) b v l (.ok p)) := H.out.grew ((Grew.refl w).alloc _)
  have T0 : Hid (Turn [b] w (w.alloc (.cells #[.int .i64 0, .bool false, .int .i64 0] 28))) := (Turn.refl [b] w).alloc _
  have N0 : Hid ((w.alloc (.cells #[.int .i64 0, .bool false, .int .i64 0] 28)).heap[w.heap.size]? = some (.cells #[.int .i64 0, .bool false, .int .i64 0] 28 (0, 0))) := heap_alloc_last _ _
  go_enter Tryz.func116, Tryz.ntmps116
  go_wp2_with fail
  refine (P.out _ S0.out).mono ?_
  rintro en w1 ⟨rfl, g1⟩
  have T1 : Hid (Turn [b] w w1) := T0.out.trans (g1.turn _)
  have S1 : Hid (DR w1 b v l (.ok p)) := S0.out.grew g1
  have N1 : Hid (w1.heap[w.heap.size]? = some (.cells #[.int .i64 0, .bool false, .int .i64 0] 28 (0, 0))) := (g1.turn []).other N0.out (by simp)
  clear g1 T0 S0 N0
  go_wp2_with fail
  refine (A.out _).mono ?_
  rintro en w9 ⟨rfl, h9⟩
  obtain rfl := h9.symm
  clear h9
  have c1_1 := cell_of S1.out.st.1 1
  simp at c1_1
  go_wp2_with fail
  refine (failat_any S1.out p 4 (by decide)).mono ?_
  rintro en w2 ⟨rfl, t2, o2⟩
  have T2 : Hid (Turn [b] w w2) := T1.out.trans t2
  have O2 : Hid (w2.heap[b]? = some (rdg v p p 4)) := o2
  have N2 : Hid (w2.heap[w.heap.size]? = some (.cells #[.int .i64 0, .bool false, .int .i64 0] 28 (0, 0))) := t2.other N1.out (by simp; omega)
  have c1_2 := cell_of o2 1
  have z1_2 := free_of o2 1
  simp at c1_2
  clear t2 o2 T1 S1 N1
  have hne : ¬ b = w.heap.size := by omega
  have n0 := cell_of N2.out 0
  have y0 := free_of N2.out 0
  have n1 := cell_of N2.out 1
  have y1 := free_of N2.out 1
  have n2 := cell_of N2.out 2
  have y2 := free_of N2.out 2
  simp at n0 n1 n2
  go_wp2_with fail
  refine bodyPost_ret (v := vt 0 false 0) (by simp [results, Tryz.results116, go_sem, vt, VT.v, n0, n1, n2]) rfl ?_
  have F8 : FinD b v l w (w2.setCell ⟨b, 1, none⟩ (.int .i64 ((p : Int) + 1))) (.error (p, 4)) := by
    have t8 : Turn [b] w (w2.setCell ⟨b, 1, none⟩ (.int .i64 ((p : Int) + 1))) := T2.out.set (Or.inl (by simp)) _
    refine ⟨t8, H.out.of t8 ⟨p + 1, ?_, by omega, by decide⟩⟩
    rw [heap_set O2.out]
    simp [rdg]
  exact ⟨⟨⟨0, false, 0⟩, rfl⟩, ((F8.set H.out (Nat.le_refl _)).set H.out (Nat.le_refl _)).set H.out (Nat.le_refl _)⟩
set_option maxRecDepth 100000 in
set_option maxHeartbeats 1000000 in
theorem dval_fff {w : World} {b : Nat} {v : Value} {l : List Int} {p : Nat} (h : DR w b v l (.ok p)) (hp : p < l.length) (c : Int) (hcv : l.getD p 0 = c) (d99 : (c == 99) = false) (d100 : (c == 100) = false) (e0 : absH c = 0) :
    Calls Tryz.prog 116 #[.pointer (some ⟨b, 0, none⟩), .bool false, .bool false] w (DAns VT.v b v l w ((.error (p, 4) : RS VT))) := by
  have H : Hid (DR w b v l (.ok p)) := h
  have hb : b < w.heap.size := h.lt
  have hl := h.len
  have hc := h.byt p
  have P : Hid (∀ w', DR w' b v l (.ok p) → Calls Tryz.prog 115 #[.pointer (some ⟨b, 0, none⟩)] w' fun en w'' => en = .returned (.tuple #[.int .u8 c, .bool true]) ∧ Grew w' w'') := fun w' u => by rw [← hcv]; exact dpeek_ok u hp
  rw [hcv] at hc
  have A : Hid (∀ w', Calls Tryz.prog 119 #[.int .u8 c] w' fun en w'' => en = .returned (.int .i64 (absH c)) ∧ w'' = w') := abstract_any c hc
  clear h hcv
  have d4 : (absH c != 0) = false := by rw [e0]; rfl
  clear e0
  have S0 : Hid (DR (w.alloc (.cells #[.int .i64 0, .bool false, .int .i64 0] 28)) b v l (.ok p)) := H.out.grew ((Grew.refl w).alloc _)
  have T0 : Hid (Turn [b] w (w.alloc (.cells #[.int .i64 0, .bool false, .int .i64 0] 28))) := (Turn.refl [b] w).alloc _
  have N0 : Hid ((w.alloc (.cells #[.int .i64 0, .bool false, .int .i64 0] 28)).heap[w.heap.size]? = some (.cells #[.int .i64 0, .bool false, .int .i64 0] 28 (0, 0))) := heap_alloc_last _ _
  go_enter Tryz.func116, Tryz.ntmps116
  go_wp2_with fail
  refine (P.out _ S0.out).mono ?_
  rintro en w1 ⟨rfl, g1⟩
  have T1 : Hid (Turn [b] w w1) := T0.out.trans (g1.turn _)
  have S1 : Hid (DR w1 b v l (.ok p)) := S0.out.grew g1
  have N1 : Hid (w1.heap[w.heap.size]? = some (.cells #[.int .i64 0, .bool false, .int .i64 0] 28 (0, 0))) := (g1.turn []).other N0.out (by simp)
  clear g1 T0 S0 N0
  go_wp2_with fail
  refine (A.out _).mono ?_
  rintro en w9 ⟨rfl, h9⟩
  obtain rfl := h9.symm
  clear h9
  have c1_1 := cell_of S1.out.st.1 1
  simp at c1_1
  go_wp2_with fail
  refine (failat_any S1.out p 4 (by decide)).mono ?_
  rintro en w2 ⟨rfl, t2, o2⟩
  have T2 : Hid (Turn [b] w w2) := T1.out.trans t2
  have O2 : Hid (w2.heap[b]? = some (rdg v p p 4)) := o2
  have N2 : Hid (w2.heap[w.heap.size]? = some (.cells #[.int .i64 0, .bool false, .int .i64 0] 28 (0, 0))) := t2.other N1.out (by simp; omega)
  have c1_2 := cell_of o2 1
  have z1_2 := free_of o2 1
  simp at c1_2
  clear t2 o2 T1 S1 N1
  have hne : ¬ b = w.heap.size := by omega
  have n0 := cell_of N2.out 0
  have y0 := free_of N2.out 0
  have n1 := cell_of N2.out 1
  have y1 := free_of N2.out 1
  have n2 := cell_of N2.out 2
  have y2 := free_of N2.out 2
  simp at n0 n1 n2
  go_wp2_with fail
  refine bodyPost_ret (v := vt 0 false 0) (by simp [results, Tryz.results116, go_sem, vt, VT.v, n0, n1, n2]) rfl ?_
  have F8 : FinD b v l w (w2.setCell ⟨b, 1, none⟩ (.int .i64 ((p : Int) + 1))) (.error (p, 4)) := by
    have t8 : Turn [b] w (w2.setCell ⟨b, 1, none⟩ (.int .i64 ((p : Int) + 1))) := T2.out.set (Or.inl (by simp)) _
    refine ⟨t8, H.out.of t8 ⟨p + 1, ?_, by omega, by decide⟩⟩
    rw [heap_set O2.out]
    simp [rdg]
  exact ⟨⟨⟨0, false, 0⟩, rfl⟩, ((F8.set H.out (Nat.le_refl _)).set H.out (Nat.le_refl _)).set H.out (Nat.le_refl _)⟩
set_option maxRecDepth 100000 in
set_option maxHeartbeats 1000000 in
theorem dval_no {w : World} {b : Nat} {v : Value} {l : List Int} {st : Except (Nat × Nat) Nat} (any field : Bool) (h : DR w b v l st) (hp : ¬ Ahead l st) :
    Calls Tryz.prog 116 #[.pointer (some ⟨b, 0, none⟩), .bool any, .bool field] w (DAns VT.v b v l w (runR (valD any field l) st)) := by
  have H : Hid (DR w b v l st) := h
  have hb : b < w.heap.size := h.lt
  have hl := h.len
  have hr : ∃ f e, runR (valD any field l) st = .error (f, e) ∧ failS st l.length 3 = .error (f, e) := by
    cases st with
    | error x => obtain ⟨f, e⟩ := x; exact ⟨f, e, rfl, rfl⟩
    | ok p =>
      have hpl : p = l.length := by
        have := h.st.2
        rcases Nat.lt_or_ge p l.length with h' | h'
        · exact absurd ⟨p, rfl, h'⟩ hp
        · omega
      subst hpl
      exact ⟨l.length, 3, by show valD any field l l.length = _; unfold valD; exact atR_no (by omega), rfl⟩
  obtain ⟨f, e, hr1, hf⟩ := hr
  rw [hr1]
  obtain ⟨sa, cap, rfl⟩ := h.rd.len
  clear h hr1
  have S0 : Hid (DR (w.alloc (.cells #[.int .i64 0, .bool false, .int .i64 0] 28)) b (.slice sa l.length cap) l st) := H.out.grew ((Grew.refl w).alloc _)
  have T0 : Hid (Turn [b] w (w.alloc (.cells #[.int .i64 0, .bool false, .int .i64 0] 28))) := (Turn.refl [b] w).alloc _
  have N0 : Hid ((w.alloc (.cells #[.int .i64 0, .bool false, .int .i64 0] 28)).heap[w.heap.size]? = some (.cells #[.int .i64 0, .bool false, .int .i64 0] 28 (0, 0))) := heap_alloc_last _ _
  go_enter Tryz.func116, Tryz.ntmps116
  go_wp2_with fail
  refine (dpeek_no S0.out hp).mono ?_
  rintro en w1 ⟨rfl, g1⟩
  have T1 : Hid (Turn [b] w w1) := T0.out.trans (g1.turn _)
  have S1 : Hid (DR w1 b (.slice sa l.length cap) l st) := S0.out.grew g1
  have N1 : Hid (w1.heap[w.heap.size]? = some (.cells #[.int .i64 0, .bool false, .int .i64 0] 28 (0, 0))) := (g1.turn []).other N0.out (by simp)
  clear g1 T0 S0 N0
  obtain ⟨av1, plv1, ev1, ho1⟩ := S1.out.obj
  have c0_1 := cell_of ho1 0
  simp at c0_1
  clear ho1
  go_wp2_with fail
  refine (fail_any S1.out l.length 3 (by decide)).mono ?_
  rw [hf]
  rintro en w2 ⟨rfl, t2, s2⟩
  have T2 : Hid (Turn [b] w w2) := T1.out.trans t2
  have S2 : Hid (DR w2 b (.slice sa l.length cap) l (.error (f, e))) := s2
  have N2 : Hid (w2.heap[w.heap.size]? = some (.cells #[.int .i64 0, .bool false, .int .i64 0] 28 (0, 0))) := t2.other N1.out (by simp; omega)
  clear t2 s2 T1 S1 N1
  have hne : ¬ b = w.heap.size := by omega
  have n0 := cell_of N2.out 0
  have y0 := free_of N2.out 0
  have n1 := cell_of N2.out 1
  have y1 := free_of N2.out 1
  have n2 := cell_of N2.out 2
  have y2 := free_of N2.out 2
  simp at n0 n1 n2
  go_wp2_with fail
  refine bodyPost_ret (v := vt 0 false 0) (by simp [results, Tryz.results116, go_sem, vt, VT.v, n0, n1, n2]) rfl ?_
  exact ⟨⟨⟨0, false, 0⟩, rfl⟩, (((((FinD.mk_ T2.out S2.out)).set H.out (Nat.le_refl _)).set H.out (Nat.le_refl _)).set H.out (Nat.le_refl _))⟩
theorem dval_any {w : World} {b : Nat} {v : Value} {l : List Int} {st : Except (Nat × Nat) Nat} (any field : Bool) (h : DR w b v l st) :
    Calls Tryz.prog 116 #[.pointer (some ⟨b, 0, none⟩), .bool any, .bool field] w (DAns VT.v b v l w (runR (valD any field l) st)) := by
  by_cases hp : Ahead l st
  · obtain ⟨p, rfl, hp⟩ := hp
    show Calls _ _ _ _ (DAns _ _ _ _ _ (valD any field l p))
    unfold valD
    rw [atR_in hp]
    obtain ⟨c, hcv⟩ : ∃ c, l.getD p 0 = c := ⟨_, rfl⟩
    rw [hcv]
    by_cases h99 : c = 99
    · rw [if_pos (Or.inl h99), decide_eq_true h99]
      exact dval_99 any field h hp c hcv h99
    · by_cases h100 : c = 100
      · rw [if_pos (Or.inr h100), decide_eq_false h99]
        exact dval_100 any field h hp c hcv h100
      · have d99 : (c == 99) = false := by simpa using h99
        have d100 : (c == 100) = false := by simpa using h100
        rw [if_neg (show ¬ (c = 99 ∨ c = 100) by omega)]
        by_cases h4 : absH c ≠ 0
        · rw [if_pos h4]
          exact dval_abs any field h hp c hcv d99 d100 h4
        · rw [if_neg h4]
          have e0 : absH c = 0 := by simpa using h4
          cases any with
          | true =>
            by_cases h5 : c = 123
            · rw [if_pos (show true = true ∧ c = 123 from ⟨rfl, h5⟩)]
              exact dval_simd field h hp c hcv d99 d100 e0 (by simpa using h5)
            · rw [if_neg (show ¬ (true = true ∧ c = 123) from fun h => h5 h.2)]
              have d5 : (c == 123) = false := by simpa using h5
              by_cases h7 : 124 ≤ c ∧ c ≤ 127
              · rw [if_pos (show true = true ∧ 124 ≤ c ∧ c ≤ 127 from ⟨rfl, h7⟩)]
                exact dval_num field h hp c hcv d99 d100 e0 d5 h7.1 h7.2
              · rw [if_neg (show ¬ (true = true ∧ 124 ≤ c ∧ c ≤ 127) from fun h => h7 h.2)]
                cases field with
                | true =>
                  by_cases h8 : c = 120
                  · rw [if_pos (show true = true ∧ c = 120 from ⟨rfl, h8⟩)]
                    exact dval_p6t h hp c hcv h8
                  · rw [if_neg (show ¬ (true = true ∧ c = 120) from fun h => h8 h.2)]
                    by_cases h9 : c = 119
                    · rw [if_pos (show true = true ∧ c = 119 from ⟨rfl, h9⟩)]
                      exact dval_p7t h hp c hcv h9
                    · rw [if_neg (show ¬ (true = true ∧ c = 119) from fun h => h9 h.2)]
                      by_cases h71 : 124 ≤ c
                      · exact dval_ftth h hp c hcv d99 d100 e0 (by simpa using h8) (by simpa using h9) d5 (by simpa using h71) (by simp; omega)
                      · exact dval_fttl h hp c hcv d99 d100 e0 (by simpa using h8) (by simpa using h9) d5 (by simpa using h71)
                | false =>
                  rw [if_neg (show ¬ (false = true ∧ c = 120) from fun h => absurd h.1 (by decide)), if_neg (show ¬ (false = true ∧ c = 119) from fun h => absurd h.1 (by decide))]
                  by_cases h71 : 124 ≤ c
                  · exact dval_ftfh h hp c hcv d99 d100 e0 d5 (by simpa using h71) (by simp; omega)
                  · exact dval_ftfl h hp c hcv d99 d100 e0 d5 (by simpa using h71)
          | false =>
            rw [if_neg (show ¬ (false = true ∧ c = 123) from fun h => absurd h.1 (by decide)), if_neg (show ¬ (false = true ∧ 124 ≤ c ∧ c ≤ 127) from fun h => absurd h.1 (by decide))]
            cases field with
            | true =>
              by_cases h8 : c = 120
              · rw [if_pos (show true = true ∧ c = 120 from ⟨rfl, h8⟩)]
                exact dval_p6f h hp c hcv h8
              · rw [if_neg (show ¬ (true = true ∧ c = 120) from fun h => h8 h.2)]
                by_cases h9 : c = 119
                · rw [if_pos (show true = true ∧ c = 119 from ⟨rfl, h9⟩)]
                  exact dval_p7f h hp c hcv h9
                · rw [if_neg (show ¬ (true = true ∧ c = 119) from fun h => h9 h.2)]
                  exact dval_fft h hp c hcv d99 d100 e0 (by simpa using h8) (by simpa using h9)
            | false =>
              rw [if_neg (show ¬ (false = true ∧ c = 120) from fun h => absurd h.1 (by decide)), if_neg (show ¬ (false = true ∧ c = 119) from fun h => absurd h.1 (by decide))]
              exact dval_fff h hp c hcv d99 d100 e0
  · exact dval_no any field h hp
theorem valD_val (l : List Int) (hb : Byt l) (p : Nat) : valD true false l p = valR l p := by
  unfold valD valR atR
  split
  · rename_i hp
    obtain ⟨m1, m2, m3, m4, m5⟩ := byte_all (P := fun c => (((mean c).1 = 4) = (absH c ≠ 0)) ∧ (((mean c).1 = 5) = (c = 99 ∨ c = 100)) ∧ (((mean c).1 = 2) = (c = 123)) ∧ (((mean c).1 = 1) = (124 ≤ c ∧ c ≤ 127)) ∧ (((mean c).1 = 3) = (c = 120 ∨ c = 119))) mean_all (hb p)
    have mn := byte_all (P := fun c => (124 ≤ c ∧ c ≤ 127) → (mean c).2 = 128 - c) mean_num (hb p)
    have m6 := byte_all (P := fun c => (c = 99 ∨ c = 100) → decide ((mean c).2 = 1) = decide (c = 99)) mean_ref (hb p)
    have m7 := absH_four (l.getD p 0)
    have hr : refR l p = if (mean (l.getD p 0)).1 = 4 then .ok (⟨5, true, (mean (l.getD p 0)).2⟩, p + 1) else if (mean (l.getD p 0)).1 = 5 then mapR (fun h => ⟨5, decide ((mean (l.getD p 0)).2 = 1), h⟩) (heapR l (p + 1)) else .error (p, 4) := by unfold refR; exact atR_in hp
    rw [hr]
    dsimp only
    generalize l.getD p 0 = c at *
    by_cases h5 : c = 99 ∨ c = 100
    · have k5 : (mean c).1 = 5 := by rw [m2]; exact h5
      rw [if_pos h5, if_neg (by rw [k5]; decide), if_neg (by rw [k5]; decide), if_neg (by rw [k5]; decide), if_pos k5, m6 h5]
    · have k5 : ¬ (mean c).1 = 5 := by rw [m2]; exact h5
      rw [if_neg h5]
      by_cases h4 : absH c ≠ 0
      · obtain ⟨k4, ev⟩ := m7 h4
        rw [if_pos h4, if_neg (by rw [k4]; decide), if_neg (by rw [k4]; decide), if_pos k4, ev]
      · have k4 : ¬ (mean c).1 = 4 := by rw [m1]; exact h4
        rw [if_neg h4, if_neg k4, if_neg k5]
        by_cases h2 : c = 123
        · rw [if_pos (show true = true ∧ c = 123 from ⟨rfl, h2⟩), if_pos (show (mean c).1 = 2 by rw [m3]; exact h2)]
        · rw [if_neg (show ¬ (true = true ∧ c = 123) from fun h => h2 h.2), if_neg (show ¬ (mean c).1 = 2 by rw [m3]; exact h2)]
          by_cases h1 : 124 ≤ c ∧ c ≤ 127
          · rw [if_pos (show true = true ∧ 124 ≤ c ∧ c ≤ 127 from ⟨rfl, h1⟩), if_pos (show (mean c).1 = 1 by rw [m4]; exact h1), mn h1]
          · rw [if_neg (show ¬ (true = true ∧ 124 ≤ c ∧ c ≤ 127) from fun h => h1 h.2), if_neg (show ¬ (mean c).1 = 1 by rw [m4]; exact h1), if_neg (show ¬ (false = true ∧ c = 120) from fun h => absurd h.1 (by decide)), if_neg (show ¬ (false = true ∧ c = 119) from fun h => absurd h.1 (by decide))]
  · rfl
theorem valD_ref (l : List Int) (hb : Byt l) (p : Nat) : valD false false l p = refR l p := by
  unfold valD refR atR
  split
  · rename_i hp
    obtain ⟨m1, m2, m3, m4, m5⟩ := byte_all (P := fun c => (((mean c).1 = 4) = (absH c ≠ 0)) ∧ (((mean c).1 = 5) = (c = 99 ∨ c = 100)) ∧ (((mean c).1 = 2) = (c = 123)) ∧ (((mean c).1 = 1) = (124 ≤ c ∧ c ≤ 127)) ∧ (((mean c).1 = 3) = (c = 120 ∨ c = 119))) mean_all (hb p)
    have m6 := byte_all (P := fun c => (c = 99 ∨ c = 100) → decide ((mean c).2 = 1) = decide (c = 99)) mean_ref (hb p)
    have m7 := absH_four (l.getD p 0)
    dsimp only
    generalize l.getD p 0 = c at *
    by_cases h5 : c = 99 ∨ c = 100
    · have k5 : (mean c).1 = 5 := by rw [m2]; exact h5
      rw [if_pos h5, if_neg (by rw [k5]; decide), if_pos k5, m6 h5]
    · have k5 : ¬ (mean c).1 = 5 := by rw [m2]; exact h5
      rw [if_neg h5]
      by_cases h4 : absH c ≠ 0
      · obtain ⟨k4, ev⟩ := m7 h4
        rw [if_pos h4, if_pos k4, ev]
      · have k4 : ¬ (mean c).1 = 4 := by rw [m1]; exact h4
        rw [if_neg h4, if_neg k4, if_neg k5, if_neg (show ¬ (false = true ∧ c = 123) from fun h => absurd h.1 (by decide)), if_neg (show ¬ (false = true ∧ 124 ≤ c ∧ c ≤ 127) from fun h => absurd h.1 (by decide)), if_neg (show ¬ (false = true ∧ c = 120) from fun h => absurd h.1 (by decide)), if_neg (show ¬ (false = true ∧ c = 119) from fun h => absurd h.1 (by decide))]
  · rfl
theorem valD_stor (l : List Int) (hb : Byt l) (p : Nat) : valD true true l p = storR l p := by
  have hv := valD_val l hb p
  unfold storR atR
  split
  · rename_i hp
    obtain ⟨m1, m2, m3, m4, m5⟩ := byte_all (P := fun c => (((mean c).1 = 4) = (absH c ≠ 0)) ∧ (((mean c).1 = 5) = (c = 99 ∨ c = 100)) ∧ (((mean c).1 = 2) = (c = 123)) ∧ (((mean c).1 = 1) = (124 ≤ c ∧ c ≤ 127)) ∧ (((mean c).1 = 3) = (c = 120 ∨ c = 119))) mean_all (hb p)
    rw [← hv]
    unfold valD
    rw [atR_in hp, atR_in hp]
    have e120 : mean 120 = (3, 6) := by decide
    have e119 : mean 119 = (3, 7) := by decide
    have a120 : absH 120 = 0 := by decide
    have a119 : absH 119 = 0 := by decide
    dsimp only
    generalize l.getD p 0 = c at *
    by_cases h8 : c = 120
    · subst h8
      rw [e120, a120]
      simp
    · by_cases h9 : c = 119
      · subst h9
        rw [e119, a119]
        simp
      · have k3 : ¬ (mean c).1 = 3 := by rw [m5]; omega
        rw [if_neg k3]
        simp [h8, h9]
  · unfold valD
    exact atR_no (by assumption)
end Go.Proofs.YtohapnninjdlfaaGreatDoor

namespace Go.Proofs.YtohapnninjdlfaaGreatDoor
open Go.RowKit
set_option linter.unusedVariables false
set_option linter.unusedSimpArgs false
set_option linter.constructorNameAsVariable false

theorem many_bd {l : List Int} (hb : Byt l) {most : Nat} {st : Except (Nat × Nat) Nat} (hs : ∀ p, st = .ok p → p ≤ l.length) {n : Int} {q : Nat} (h : runR (fun p => limR p (most : Int) (numR 32 false l p)) st = .ok (n, q)) : 0 ≤ n ∧ n ≤ most := by
  cases st with
  | error e => cases h
  | ok p =>
    have h' : limR p (most : Int) (numR 32 false l p) = .ok (n, q) := h
    rcases numR_ways (b := 32) (sg := false) (hs p rfl) with ⟨m, r, hr, _, _, hx⟩ | ⟨m, f, e, hr, _, _, _, hx⟩
    · rw [hx] at h'
      have := rd_32 hb hr
      simp only [limR] at h'
      split at h'
      · cases h'
      · simp only [Except.ok.injEq, Prod.mk.injEq] at h'
        omega
    · rw [hx] at h'
      cases h'
theorem dvalR_any {w : World} {b : Nat} {v : Value} {l : List Int} {st : Except (Nat × Nat) Nat} (h : DR w b v l st) :
    Calls Tryz.prog 116 #[.pointer (some ⟨b, 0, none⟩), .bool true, .bool false] w (DAns VT.v b v l w (runR (valR l) st)) := by
  have := dval_any true false h
  rwa [show valD true false l = valR l from funext (valD_val l h.byt)] at this
def DAnsV (b : Nat) (v : Value) (l : List Int) (w : World) (r : RS (List VT)) (en : Ending) (w' : World) : Prop := match r with
  | .ok (x, q) => ∃ rv, en = .returned rv ∧ RowV w.heap.size w' rv x ∧ FinD b v l w w' (.ok q)
  | .error (f, e) => ∃ rv x, en = .returned rv ∧ RowV w.heap.size w' rv x ∧ FinD b v l w w' (.error (f, e))
end Go.Proofs.YtohapnninjdlfaaGreatDoor
