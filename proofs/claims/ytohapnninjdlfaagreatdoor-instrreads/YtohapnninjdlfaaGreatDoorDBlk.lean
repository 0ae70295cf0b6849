/-
  The document's reading: the walks of block and BlockType; no statement is proved here.
-/
import Derived.Test.YtohapnninjdlfaaGreatDoorDTop
namespace Go.Proofs.YtohapnninjdlfaaGreatDoor
open Go.RowKit
set_option linter.unusedVariables false
set_option linter.unusedSimpArgs false
set_option linter.constructorNameAsVariable false

theorem one_neg {c : Int} (h : 64 ≤ c ∧ c < 128) : sg64 (ws (addAt 0 c 0) 7 true) < 0 := by
  have ha : addAt 0 c 0 = c := by unfold addAt; simp; omega
  rw [ha]
  unfold ws
  rw [if_pos ⟨rfl, by omega, by decide⟩]
  unfold sg64
  omega
/- One byte of 64 to 127 is a number below 0. -/
theorem tyS_neg {l : List Int} {p : Nat} (hp : p < l.length) (h : 64 ≤ l.getD p 0 ∧ l.getD p 0 < 128) : tyS l p = .error (p, 4) := by
  have hs : seg l p l.length = l.getD p 0 :: (seg l p l.length).drop 1 := by
    have := seg_step (l := l) (a := p) (e := l.length) (k := 0) (by omega) (Nat.le_refl _)
    simpa using this
  have hr : rd 33 true l p l.length = (ws (addAt 0 (l.getD p 0) 0) 7 true, (p : Int) + 1, 0) := by
    refine rd_in (by omega) (Nat.le_refl _) ?_
    rw [hs, scan, if_neg (fun h => absurd h.1 (by decide)), if_pos h.2]
    rfl
  have hv : sg64 (ws (addAt 0 (l.getD p 0) 0) 7 true) < 0 := one_neg h
  unfold tyS numR
  rw [hr]
  simp only [if_true]
  rw [if_pos hv]
def blockD (l : List Int) (p : Nat) : RS BK := atR l p fun c =>
  if c = 64 then .ok (⟨-1, ⟨0, false, 0⟩⟩, p + 1)
  else if 64 < c ∧ c < 128 then mapR (fun v => ⟨-1, v⟩) (valR l p)
  else mapR (fun n => ⟨n, ⟨0, false, 0⟩⟩) (tyS l p)
theorem mean_blk : ∀ c : _root_.Fin 256, ((mean (c.1 : Int)).1 = 1 ∨ (mean (c.1 : Int)).1 = 2 ∨ (mean (c.1 : Int)).1 = 4 ∨ (mean (c.1 : Int)).1 = 5) → 64 < (c.1 : Int) ∧ (c.1 : Int) < 128 := by decide +kernel
theorem blockD_eq (l : List Int) (hb : Byt l) (p : Nat) : blockD l p = blockR l p := by
  by_cases hp : p < l.length
  · unfold blockD blockR
    rw [atR_in hp, atR_in hp]
    have hk := byte_all (P := fun c => ((mean c).1 = 1 ∨ (mean c).1 = 2 ∨ (mean c).1 = 4 ∨ (mean c).1 = 5) → 64 < c ∧ c < 128) mean_blk (hb p)
    by_cases h0 : l.getD p 0 = 64
    · rw [if_pos h0, if_pos h0]
    · rw [if_neg h0, if_neg h0]
      by_cases h1 : (mean (l.getD p 0)).1 = 1 ∨ (mean (l.getD p 0)).1 = 2 ∨ (mean (l.getD p 0)).1 = 4 ∨ (mean (l.getD p 0)).1 = 5
      · rw [if_pos (hk h1), if_pos h1]
      · rw [if_neg h1]
        by_cases h2 : 64 < l.getD p 0 ∧ l.getD p 0 < 128
        · rw [if_pos h2, tyS_neg hp ⟨by omega, h2.2⟩]
          have : valR l p = .error (p, 4) := by
            unfold valR
            rw [atR_in hp, if_neg (fun h => h1 (Or.inr (Or.inl h))), if_neg (fun h => h1 (Or.inl h))]
            unfold refR
            rw [atR_in hp, if_neg (fun h => h1 (Or.inr (Or.inr (Or.inl h)))), if_neg (fun h => h1 (Or.inr (Or.inr (Or.inr h))))]
          rw [this]
          rfl
        · rw [if_neg h2]
  · unfold blockD blockR
    rw [atR_no hp, atR_no hp]
set_option maxRecDepth 100000 in
set_option maxHeartbeats 1000000 in
theorem dblk_40 {w : World} {b : Nat} {v : Value} {l : List Int} {p : Nat} (h : DR w b v l (.ok p)) (hp : p < l.length) (c : Int) (hcv : l.getD p 0 = c) (hn : c = 64) :
    Calls Tryz.prog 89 #[.pointer (some ⟨b, 0, none⟩)] w (DAns BK.v b v l w (.ok ((⟨-1, ⟨0, false, 0⟩⟩ : BK), p + 1))) := by
  have H : Hid (DR w b v l (.ok p)) := h
  have hb : b < w.heap.size := h.lt
  have hl := h.len
  have hc := h.byt p
  have P : Hid (∀ w', DR w' b v l (.ok p) → Calls Tryz.prog 115 #[.pointer (some ⟨b, 0, none⟩)] w' fun en w'' => en = .returned (.tuple #[.int .u8 c, .bool true]) ∧ Grew w' w'') := fun w' u => by rw [← hcv]; exact dpeek_ok u hp
  rw [hcv] at hc
  clear h hcv
  subst hn
  have S0 : Hid (DR (w.alloc (.cells #[.int .i64 0, .int .i64 0, .bool false, .int .i64 0] 30)) b v l (.ok p)) := H.out.grew ((Grew.refl w).alloc _)
  have T0 : Hid (Turn [b] w (w.alloc (.cells #[.int .i64 0, .int .i64 0, .bool false, .int .i64 0] 30))) := (Turn.refl [b] w).alloc _
  have N0 : Hid ((w.alloc (.cells #[.int .i64 0, .int .i64 0, .bool false, .int .i64 0] 30)).heap[w.heap.size]? = some (.cells #[.int .i64 0, .int .i64 0, .bool false, .int .i64 0] 30 (0, 0))) := heap_alloc_last _ _
  go_enter Tryz.func89, Tryz.ntmps89
  go_wp2_with fail
  refine (P.out _ S0.out).mono ?_
  rintro en w1 ⟨rfl, g1⟩
  have T1 : Hid (Turn [b] w w1) := T0.out.trans (g1.turn _)
  have S1 : Hid (DR w1 b v l (.ok p)) := S0.out.grew g1
  have N1 : Hid (w1.heap[w.heap.size]? = some (.cells #[.int .i64 0, .int .i64 0, .bool false, .int .i64 0] 30 (0, 0))) := (g1.turn []).other N0.out (by simp)
  clear g1 T0 S0 N0
  have c1_1 := cell_of S1.out.st.1 1
  have z1_1 := free_of S1.out.st.1 1
  simp at c1_1
  have hq1 : p + 1 ≤ l.length := by omega
  have hne : ¬ b = w.heap.size := by omega
  have n0 := cell_of N1.out 0
  have y0 := free_of N1.out 0
  have n1 := cell_of N1.out 1
  have y1 := free_of N1.out 1
  have n2 := cell_of N1.out 2
  have y2 := free_of N1.out 2
  have n3 := cell_of N1.out 3
  have y3 := free_of N1.out 3
  simp at n0 n1 n2 n3
  go_wp2_with fail
  refine bodyPost_ret (v := BK.v ⟨-1, ⟨0, false, 0⟩⟩) (by simp [results, Tryz.results89, go_sem, vt, VT.v, BK.v, n0, n1, n2, n3]) rfl ?_
  exact ⟨rfl, ((((((FinD.mk_ T1.out S1.out).inc hq1).set H.out (Nat.le_refl _)).set H.out (Nat.le_refl _)).set H.out (Nat.le_refl _)).set H.out (Nat.le_refl _))⟩
set_option maxRecDepth 100000 in
set_option maxHeartbeats 1000000 in
theorem dblk_val {w : World} {b : Nat} {v : Value} {l : List Int} {p : Nat} (h : DR w b v l (.ok p)) (hp : p < l.length) (c : Int) (hcv : l.getD p 0 = c) (h1 : 64 < c) (h2 : c < 128) :
    Calls Tryz.prog 89 #[.pointer (some ⟨b, 0, none⟩)] w (DAns BK.v b v l w (mapR (fun v => (⟨-1, v⟩ : BK)) (valR l p))) := by
  have H : Hid (DR w b v l (.ok p)) := h
  have hb : b < w.heap.size := h.lt
  have hl := h.len
  have hc := h.byt p
  have P : Hid (∀ w', DR w' b v l (.ok p) → Calls Tryz.prog 115 #[.pointer (some ⟨b, 0, none⟩)] w' fun en w'' => en = .returned (.tuple #[.int .u8 c, .bool true]) ∧ Grew w' w'') := fun w' u => by rw [← hcv]; exact dpeek_ok u hp
  rw [hcv] at hc
  clear h hcv
  have d0 : (c == 64) = false := by simp; omega
  have d1 : decide (64 < c) = true := by simp; omega
  have d2 : decide (c < 128) = true := by simp; omega
  cases hx : valR l p with
  | error y =>
    obtain ⟨f, e⟩ := y
    simp only [mapR]
    have S0 : Hid (DR (w.alloc (.cells #[.int .i64 0, .int .i64 0, .bool false, .int .i64 0] 30)) b v l (.ok p)) := H.out.grew ((Grew.refl w).alloc _)
    have T0 : Hid (Turn [b] w (w.alloc (.cells #[.int .i64 0, .int .i64 0, .bool false, .int .i64 0] 30))) := (Turn.refl [b] w).alloc _
    have N0 : Hid ((w.alloc (.cells #[.int .i64 0, .int .i64 0, .bool false, .int .i64 0] 30)).heap[w.heap.size]? = some (.cells #[.int .i64 0, .int .i64 0, .bool false, .int .i64 0] 30 (0, 0))) := heap_alloc_last _ _
    go_enter Tryz.func89, Tryz.ntmps89
    go_wp2_with fail
    refine (P.out _ S0.out).mono ?_
    rintro en w1 ⟨rfl, g1⟩
    have T1 : Hid (Turn [b] w w1) := T0.out.trans (g1.turn _)
    have S1 : Hid (DR w1 b v l (.ok p)) := S0.out.grew g1
    have N1 : Hid (w1.heap[w.heap.size]? = some (.cells #[.int .i64 0, .int .i64 0, .bool false, .int .i64 0] 30 (0, 0))) := (g1.turn []).other N0.out (by simp)
    clear g1 T0 S0 N0
    go_wp2_with fail
    refine (Calls.der (dvalR_any S1.out) hx).mono ?_
    rintro en w2 ⟨⟨y, rfl⟩, t2, s2⟩
    have T2 : Hid (Turn [b] w w2) := T1.out.trans t2
    have S2 : Hid (DR w2 b v l (.error (f, e))) := s2
    have N2 : Hid (w2.heap[w.heap.size]? = some (.cells #[.int .i64 0, .int .i64 0, .bool false, .int .i64 0] 30 (0, 0))) := t2.other N1.out (by simp; omega)
    clear t2 s2 T1 S1 N1
    obtain ⟨vn, vb, vh⟩ := y
    unfold VT.v vt
    have hne : ¬ b = w.heap.size := by omega
    have n0 := cell_of N2.out 0
    have y0 := free_of N2.out 0
    have n1 := cell_of N2.out 1
    have y1 := free_of N2.out 1
    have n2 := cell_of N2.out 2
    have y2 := free_of N2.out 2
    have n3 := cell_of N2.out 3
    have y3 := free_of N2.out 3
    simp at n0 n1 n2 n3
    go_wp2_with fail
    refine bodyPost_ret (v := BK.v ⟨-1, ⟨vn, vb, vh⟩⟩) (by simp [results, Tryz.results89, go_sem, vt, VT.v, BK.v, n0, n1, n2, n3]) rfl ?_
    exact ⟨⟨⟨-1, ⟨vn, vb, vh⟩⟩, rfl⟩, ((((((FinD.mk_ T2.out S2.out)).set H.out (Nat.le_refl _)).set H.out (Nat.le_refl _)).set H.out (Nat.le_refl _)).set H.out (Nat.le_refl _))⟩
  | ok y =>
    obtain ⟨⟨vn, vb, vh⟩, q⟩ := y
    simp only [mapR]
    have S0 : Hid (DR (w.alloc (.cells #[.int .i64 0, .int .i64 0, .bool false, .int .i64 0] 30)) b v l (.ok p)) := H.out.grew ((Grew.refl w).alloc _)
    have T0 : Hid (Turn [b] w (w.alloc (.cells #[.int .i64 0, .int .i64 0, .bool false, .int .i64 0] 30))) := (Turn.refl [b] w).alloc _
    have N0 : Hid ((w.alloc (.cells #[.int .i64 0, .int .i64 0, .bool false, .int .i64 0] 30)).heap[w.heap.size]? = some (.cells #[.int .i64 0, .int .i64 0, .bool false, .int .i64 0] 30 (0, 0))) := heap_alloc_last _ _
    go_enter Tryz.func89, Tryz.ntmps89
    go_wp2_with fail
    refine (P.out _ S0.out).mono ?_
    rintro en w1 ⟨rfl, g1⟩
    have T1 : Hid (Turn [b] w w1) := T0.out.trans (g1.turn _)
    have S1 : Hid (DR w1 b v l (.ok p)) := S0.out.grew g1
    have N1 : Hid (w1.heap[w.heap.size]? = some (.cells #[.int .i64 0, .int .i64 0, .bool false, .int .i64 0] 30 (0, 0))) := (g1.turn []).other N0.out (by simp)
    clear g1 T0 S0 N0
    go_wp2_with fail
    refine (Calls.dok (dvalR_any S1.out) hx).mono ?_
    rintro en w2 ⟨rfl, t2, s2⟩
    have T2 : Hid (Turn [b] w w2) := T1.out.trans t2
    have S2 : Hid (DR w2 b v l (.ok q)) := s2
    have N2 : Hid (w2.heap[w.heap.size]? = some (.cells #[.int .i64 0, .int .i64 0, .bool false, .int .i64 0] 30 (0, 0))) := t2.other N1.out (by simp; omega)
    clear t2 s2 T1 S1 N1
    unfold VT.v vt
    have hne : ¬ b = w.heap.size := by omega
    have n0 := cell_of N2.out 0
    have y0 := free_of N2.out 0
    have n1 := cell_of N2.out 1
    have y1 := free_of N2.out 1
    have n2 := cell_of N2.out 2
    have y2 := free_of N2.out 2
    have n3 := cell_of N2.out 3
    have y3 := free_of N2.out 3
    simp at n0 n1 n2 n3
    go_wp2_with fail
    refine bodyPost_ret (v := BK.v ⟨-1, ⟨vn, vb, vh⟩⟩) (by simp [results, Tryz.results89, go_sem, vt, VT.v, BK.v, n0, n1, n2, n3]) rfl ?_
    exact ⟨rfl, ((((((FinD.mk_ T2.out S2.out)).set H.out (Nat.le_refl _)).set H.out (Nat.le_refl _)).set H.out (Nat.le_refl _)).set H.out (Nat.le_refl _))⟩
theorem dnumS_ez {w : World} {b : Nat} {v : Value} {l : List Int} {st : Except (Nat × Nat) Nat} {f e : Nat} (h : DR w b v l st) (hx : runR (numR 33 true l) st = .error (f, e)) :
    Calls Tryz.prog 117 #[.pointer (some ⟨b, 0, none⟩), .int .i64 33, .bool true] w fun en w' => en = .returned (.int .u64 0) ∧ FinD b v l w w' (.error (f, e)) := by
  have := dnumS_z h
  rw [hx] at this
  exact this
set_option maxRecDepth 100000 in
set_option maxHeartbeats 1000000 in
theorem dblk_lo {w : World} {b : Nat} {v : Value} {l : List Int} {p : Nat} (h : DR w b v l (.ok p)) (hp : p < l.length) (c : Int) (hcv : l.getD p 0 = c) (h1 : c < 64) :
    Calls Tryz.prog 89 #[.pointer (some ⟨b, 0, none⟩)] w (DAns BK.v b v l w (mapR (fun n => (⟨n, ⟨0, false, 0⟩⟩ : BK)) (tyS l p))) := by
  have H : Hid (DR w b v l (.ok p)) := h
  have hb : b < w.heap.size := h.lt
  have hl := h.len
  have hc := h.byt p
  have P : Hid (∀ w', DR w' b v l (.ok p) → Calls Tryz.prog 115 #[.pointer (some ⟨b, 0, none⟩)] w' fun en w'' => en = .returned (.tuple #[.int .u8 c, .bool true]) ∧ Grew w' w'') := fun w' u => by rw [← hcv]; exact dpeek_ok u hp
  rw [hcv] at hc
  clear h hcv
  have d0 : (c == 64) = false := by simp; omega
  have d1 : decide (64 < c) = false := by simp; omega
  have he : ∀ f e, numR 33 true l p = .error (f, e) → e ≠ 0 := fun f e hx => by have := (num_adv 33 true l p (by omega)).2 f e hx; omega
  unfold tyS
  cases hx : numR 33 true l p with
  | error y =>
    obtain ⟨f, e⟩ := y
    simp only [mapR]
    have S0 : Hid (DR (w.alloc (.cells #[.int .i64 0, .int .i64 0, .bool false, .int .i64 0] 30)) b v l (.ok p)) := H.out.grew ((Grew.refl w).alloc _)
    have T0 : Hid (Turn [b] w (w.alloc (.cells #[.int .i64 0, .int .i64 0, .bool false, .int .i64 0] 30))) := (Turn.refl [b] w).alloc _
    have N0 : Hid ((w.alloc (.cells #[.int .i64 0, .int .i64 0, .bool false, .int .i64 0] 30)).heap[w.heap.size]? = some (.cells #[.int .i64 0, .int .i64 0, .bool false, .int .i64 0] 30 (0, 0))) := heap_alloc_last _ _
    go_enter Tryz.func89, Tryz.ntmps89
    go_wp2_with fail
    refine (P.out _ S0.out).mono ?_
    rintro en w1 ⟨rfl, g1⟩
    have T1 : Hid (Turn [b] w w1) := T0.out.trans (g1.turn _)
    have S1 : Hid (DR w1 b v l (.ok p)) := S0.out.grew g1
    have N1 : Hid (w1.heap[w.heap.size]? = some (.cells #[.int .i64 0, .int .i64 0, .bool false, .int .i64 0] 30 (0, 0))) := (g1.turn []).other N0.out (by simp)
    clear g1 T0 S0 N0
    have c1_1 := cell_of S1.out.st.1 1
    have c3_1 := cell_of S1.out.st.1 3
    simp at c1_1 c3_1
    go_wp2_with fail
    refine (dnumS_ez S1.out hx).mono ?_
    rintro en w2 ⟨rfl, t2, s2⟩
    have T2 : Hid (Turn [b] w w2) := T1.out.trans t2
    have S2 : Hid (DR w2 b v l (.error (f, e))) := s2
    have N2 : Hid (w2.heap[w.heap.size]? = some (.cells #[.int .i64 0, .int .i64 0, .bool false, .int .i64 0] 30 (0, 0))) := t2.other N1.out (by simp; omega)
    clear t2 s2 T1 S1 N1
    obtain ⟨a2, o2, ha2, he2⟩ := S2.out.st
    have c3_2 := cell_of o2 3
    simp at c3_2
    have dn2 : ((e : Int) != 0) = true := by first | (simp; done) | (simp; omega)
    have de2 : ((e : Int) == 0) = false := by first | (simp; done) | (simp; omega)
    clear o2
    have hne : ¬ b = w.heap.size := by omega
    have n0 := cell_of N2.out 0
    have y0 := free_of N2.out 0
    have n1 := cell_of N2.out 1
    have y1 := free_of N2.out 1
    have n2 := cell_of N2.out 2
    have y2 := free_of N2.out 2
    have n3 := cell_of N2.out 3
    have y3 := free_of N2.out 3
    simp at n0 n1 n2 n3
    go_wp2_with fail
    refine bodyPost_ret (v := BK.v ⟨0, ⟨0, false, 0⟩⟩) (by simp [results, Tryz.results89, go_sem, vt, VT.v, BK.v, n0, n1, n2, n3]) rfl ?_
    exact ⟨⟨⟨0, ⟨0, false, 0⟩⟩, rfl⟩, ((((((FinD.mk_ T2.out S2.out)).set H.out (Nat.le_refl _)).set H.out (Nat.le_refl _)).set H.out (Nat.le_refl _)).set H.out (Nat.le_refl _))⟩
  | ok y =>
    obtain ⟨n, q⟩ := y
    simp only
    by_cases h0 : sg64 n < 0
    · rw [if_pos h0]
      have e0 : decide (sg64 n < 0) = true := by simpa using h0
      simp only [mapR]
      have S0 : Hid (DR (w.alloc (.cells #[.int .i64 0, .int .i64 0, .bool false, .int .i64 0] 30)) b v l (.ok p)) := H.out.grew ((Grew.refl w).alloc _)
      have T0 : Hid (Turn [b] w (w.alloc (.cells #[.int .i64 0, .int .i64 0, .bool false, .int .i64 0] 30))) := (Turn.refl [b] w).alloc _
      have N0 : Hid ((w.alloc (.cells #[.int .i64 0, .int .i64 0, .bool false, .int .i64 0] 30)).heap[w.heap.size]? = some (.cells #[.int .i64 0, .int .i64 0, .bool false, .int .i64 0] 30 (0, 0))) := heap_alloc_last _ _
      go_enter Tryz.func89, Tryz.ntmps89
      go_wp2_with fail
      refine (P.out _ S0.out).mono ?_
      rintro en w1 ⟨rfl, g1⟩
      have T1 : Hid (Turn [b] w w1) := T0.out.trans (g1.turn _)
      have S1 : Hid (DR w1 b v l (.ok p)) := S0.out.grew g1
      have N1 : Hid (w1.heap[w.heap.size]? = some (.cells #[.int .i64 0, .int .i64 0, .bool false, .int .i64 0] 30 (0, 0))) := (g1.turn []).other N0.out (by simp)
      clear g1 T0 S0 N0
      have c1_1 := cell_of S1.out.st.1 1
      have c3_1 := cell_of S1.out.st.1 3
      simp at c1_1 c3_1
      go_wp2_with fail
      refine (Calls.dok (dnumS_any S1.out) hx).mono ?_
      rintro en w2 ⟨rfl, t2, s2⟩
      have T2 : Hid (Turn [b] w w2) := T1.out.trans t2
      have S2 : Hid (DR w2 b v l (.ok q)) := s2
      have N2 : Hid (w2.heap[w.heap.size]? = some (.cells #[.int .i64 0, .int .i64 0, .bool false, .int .i64 0] 30 (0, 0))) := t2.other N1.out (by simp; omega)
      clear t2 s2 T1 S1 N1
      have cv := conv_sg n
      have c3_2 := cell_of S2.out.st.1 3
      simp at c3_2
      go_wp2_with fail
      refine (fail_any S2.out p 4 (by decide)).mono ?_
      rintro en w3 ⟨rfl, t3, s3⟩
      have T3 : Hid (Turn [b] w w3) := T2.out.trans t3
      have S3 : Hid (DR w3 b v l (.error (p, 4))) := s3
      have N3 : Hid (w3.heap[w.heap.size]? = some (.cells #[.int .i64 0, .int .i64 0, .bool false, .int .i64 0] 30 (0, 0))) := t3.other N2.out (by simp; omega)
      clear t3 s3 T2 S2 N2
      obtain ⟨a3, o3, ha3, he3⟩ := S3.out.st
      have c3_3 := cell_of o3 3
      simp at c3_3
      have dn3 : ((4 : Int) != 0) = true := by first | (simp; done) | (simp; omega)
      have de3 : ((4 : Int) == 0) = false := by first | (simp; done) | (simp; omega)
      clear o3
      have hne : ¬ b = w.heap.size := by omega
      have n0 := cell_of N3.out 0
      have y0 := free_of N3.out 0
      have n1 := cell_of N3.out 1
      have y1 := free_of N3.out 1
      have n2 := cell_of N3.out 2
      have y2 := free_of N3.out 2
      have n3 := cell_of N3.out 3
      have y3 := free_of N3.out 3
      simp at n0 n1 n2 n3
      go_wp2_with fail
      refine bodyPost_ret (v := BK.v ⟨sg64 n, ⟨0, false, 0⟩⟩) (by simp [results, Tryz.results89, go_sem, vt, VT.v, BK.v, n0, n1, n2, n3]) rfl ?_
      exact ⟨⟨⟨sg64 n, ⟨0, false, 0⟩⟩, rfl⟩, ((((((FinD.mk_ T3.out S3.out)).set H.out (Nat.le_refl _)).set H.out (Nat.le_refl _)).set H.out (Nat.le_refl _)).set H.out (Nat.le_refl _))⟩
    · rw [if_neg h0]
      have e0 : decide (sg64 n < 0) = false := by simpa using h0
      by_cases h3 : 2147483647 < sg64 n
      · rw [if_pos h3]
        have e3 : decide (2147483648 ≤ sg64 n) = true := by simp; omega
        simp only [mapR]
        have S0 : Hid (DR (w.alloc (.cells #[.int .i64 0, .int .i64 0, .bool false, .int .i64 0] 30)) b v l (.ok p)) := H.out.grew ((Grew.refl w).alloc _)
        have T0 : Hid (Turn [b] w (w.alloc (.cells #[.int .i64 0, .int .i64 0, .bool false, .int .i64 0] 30))) := (Turn.refl [b] w).alloc _
        have N0 : Hid ((w.alloc (.cells #[.int .i64 0, .int .i64 0, .bool false, .int .i64 0] 30)).heap[w.heap.size]? = some (.cells #[.int .i64 0, .int .i64 0, .bool false, .int .i64 0] 30 (0, 0))) := heap_alloc_last _ _
        go_enter Tryz.func89, Tryz.ntmps89
        go_wp2_with fail
        refine (P.out _ S0.out).mono ?_
        rintro en w1 ⟨rfl, g1⟩
        have T1 : Hid (Turn [b] w w1) := T0.out.trans (g1.turn _)
        have S1 : Hid (DR w1 b v l (.ok p)) := S0.out.grew g1
        have N1 : Hid (w1.heap[w.heap.size]? = some (.cells #[.int .i64 0, .int .i64 0, .bool false, .int .i64 0] 30 (0, 0))) := (g1.turn []).other N0.out (by simp)
        clear g1 T0 S0 N0
        have c1_1 := cell_of S1.out.st.1 1
        have c3_1 := cell_of S1.out.st.1 3
        simp at c1_1 c3_1
        go_wp2_with fail
        refine (Calls.dok (dnumS_any S1.out) hx).mono ?_
        rintro en w2 ⟨rfl, t2, s2⟩
        have T2 : Hid (Turn [b] w w2) := T1.out.trans t2
        have S2 : Hid (DR w2 b v l (.ok q)) := s2
        have N2 : Hid (w2.heap[w.heap.size]? = some (.cells #[.int .i64 0, .int .i64 0, .bool false, .int .i64 0] 30 (0, 0))) := t2.other N1.out (by simp; omega)
        clear t2 s2 T1 S1 N1
        have cv := conv_sg n
        have c3_2 := cell_of S2.out.st.1 3
        simp at c3_2
        go_wp2_with fail
        refine (fail_any S2.out p 2 (by decide)).mono ?_
        rintro en w3 ⟨rfl, t3, s3⟩
        have T3 : Hid (Turn [b] w w3) := T2.out.trans t3
        have S3 : Hid (DR w3 b v l (.error (p, 2))) := s3
        have N3 : Hid (w3.heap[w.heap.size]? = some (.cells #[.int .i64 0, .int .i64 0, .bool false, .int .i64 0] 30 (0, 0))) := t3.other N2.out (by simp; omega)
        clear t3 s3 T2 S2 N2
        obtain ⟨a3, o3, ha3, he3⟩ := S3.out.st
        have c3_3 := cell_of o3 3
        simp at c3_3
        have dn3 : ((2 : Int) != 0) = true := by first | (simp; done) | (simp; omega)
        have de3 : ((2 : Int) == 0) = false := by first | (simp; done) | (simp; omega)
        clear o3
        have hne : ¬ b = w.heap.size := by omega
        have n0 := cell_of N3.out 0
        have y0 := free_of N3.out 0
        have n1 := cell_of N3.out 1
        have y1 := free_of N3.out 1
        have n2 := cell_of N3.out 2
        have y2 := free_of N3.out 2
        have n3 := cell_of N3.out 3
        have y3 := free_of N3.out 3
        simp at n0 n1 n2 n3
        go_wp2_with fail
        refine bodyPost_ret (v := BK.v ⟨sg64 n, ⟨0, false, 0⟩⟩) (by simp [results, Tryz.results89, go_sem, vt, VT.v, BK.v, n0, n1, n2, n3]) rfl ?_
        exact ⟨⟨⟨sg64 n, ⟨0, false, 0⟩⟩, rfl⟩, ((((((FinD.mk_ T3.out S3.out)).set H.out (Nat.le_refl _)).set H.out (Nat.le_refl _)).set H.out (Nat.le_refl _)).set H.out (Nat.le_refl _))⟩
      · rw [if_neg h3]
        have e3 : decide (2147483648 ≤ sg64 n) = false := by simp; omega
        simp only [mapR]
        have S0 : Hid (DR (w.alloc (.cells #[.int .i64 0, .int .i64 0, .bool false, .int .i64 0] 30)) b v l (.ok p)) := H.out.grew ((Grew.refl w).alloc _)
        have T0 : Hid (Turn [b] w (w.alloc (.cells #[.int .i64 0, .int .i64 0, .bool false, .int .i64 0] 30))) := (Turn.refl [b] w).alloc _
        have N0 : Hid ((w.alloc (.cells #[.int .i64 0, .int .i64 0, .bool false, .int .i64 0] 30)).heap[w.heap.size]? = some (.cells #[.int .i64 0, .int .i64 0, .bool false, .int .i64 0] 30 (0, 0))) := heap_alloc_last _ _
        go_enter Tryz.func89, Tryz.ntmps89
        go_wp2_with fail
        refine (P.out _ S0.out).mono ?_
        rintro en w1 ⟨rfl, g1⟩
        have T1 : Hid (Turn [b] w w1) := T0.out.trans (g1.turn _)
        have S1 : Hid (DR w1 b v l (.ok p)) := S0.out.grew g1
        have N1 : Hid (w1.heap[w.heap.size]? = some (.cells #[.int .i64 0, .int .i64 0, .bool false, .int .i64 0] 30 (0, 0))) := (g1.turn []).other N0.out (by simp)
        clear g1 T0 S0 N0
        have c1_1 := cell_of S1.out.st.1 1
        have c3_1 := cell_of S1.out.st.1 3
        simp at c1_1 c3_1
        go_wp2_with fail
        refine (Calls.dok (dnumS_any S1.out) hx).mono ?_
        rintro en w2 ⟨rfl, t2, s2⟩
        have T2 : Hid (Turn [b] w w2) := T1.out.trans t2
        have S2 : Hid (DR w2 b v l (.ok q)) := s2
        have N2 : Hid (w2.heap[w.heap.size]? = some (.cells #[.int .i64 0, .int .i64 0, .bool false, .int .i64 0] 30 (0, 0))) := t2.other N1.out (by simp; omega)
        clear t2 s2 T1 S1 N1
        have cv := conv_sg n
        have c3_2 := cell_of S2.out.st.1 3
        simp at c3_2
        have hne : ¬ b = w.heap.size := by omega
        have n0 := cell_of N2.out 0
        have y0 := free_of N2.out 0
        have n1 := cell_of N2.out 1
        have y1 := free_of N2.out 1
        have n2 := cell_of N2.out 2
        have y2 := free_of N2.out 2
        have n3 := cell_of N2.out 3
        have y3 := free_of N2.out 3
        simp at n0 n1 n2 n3
        go_wp2_with fail
        refine bodyPost_ret (v := BK.v ⟨sg64 n, ⟨0, false, 0⟩⟩) (by simp [results, Tryz.results89, go_sem, vt, VT.v, BK.v, n0, n1, n2, n3]) rfl ?_
        exact ⟨rfl, ((((((FinD.mk_ T2.out S2.out)).set H.out (Nat.le_refl _)).set H.out (Nat.le_refl _)).set H.out (Nat.le_refl _)).set H.out (Nat.le_refl _))⟩
set_option maxRecDepth 100000 in
set_option maxHeartbeats 1000000 in
theorem dblk_hi {w : World} {b : Nat} {v : Value} {l : List Int} {p : Nat} (h : DR w b v l (.ok p)) (hp : p < l.length) (c : Int) (hcv : l.getD p 0 = c) (h1 : 128 ≤ c) :
    Calls Tryz.prog 89 #[.pointer (some ⟨b, 0, none⟩)] w (DAns BK.v b v l w (mapR (fun n => (⟨n, ⟨0, false, 0⟩⟩ : BK)) (tyS l p))) := by
  have H : Hid (DR w b v l (.ok p)) := h
  have hb : b < w.heap.size := h.lt
  have hl := h.len
  have hc := h.byt p
  have P : Hid (∀ w', DR w' b v l (.ok p) → Calls Tryz.prog 115 #[.pointer (some ⟨b, 0, none⟩)] w' fun en w'' => en = .returned (.tuple #[.int .u8 c, .bool true]) ∧ Grew w' w'') := fun w' u => by rw [← hcv]; exact dpeek_ok u hp
  rw [hcv] at hc
  clear h hcv
  have d0 : (c == 64) = false := by simp; omega
  have d1 : decide (64 < c) = true := by simp; omega
  have d2 : decide (c < 128) = false := by simp; omega
  have he : ∀ f e, numR 33 true l p = .error (f, e) → e ≠ 0 := fun f e hx => by have := (num_adv 33 true l p (by omega)).2 f e hx; omega
  unfold tyS
  cases hx : numR 33 true l p with
  | error y =>
    obtain ⟨f, e⟩ := y
    simp only [mapR]
    have S0 : Hid (DR (w.alloc (.cells #[.int .i64 0, .int .i64 0, .bool false, .int .i64 0] 30)) b v l (.ok p)) := H.out.grew ((Grew.refl w).alloc _)
    have T0 : Hid (Turn [b] w (w.alloc (.cells #[.int .i64 0, .int .i64 0, .bool false, .int .i64 0] 30))) := (Turn.refl [b] w).alloc _
    have N0 : Hid ((w.alloc (.cells #[.int .i64 0, .int .i64 0, .bool false, .int .i64 0] 30)).heap[w.heap.size]? = some (.cells #[.int .i64 0, .int .i64 0, .bool false, .int .i64 0] 30 (0, 0))) := heap_alloc_last _ _
    go_enter Tryz.func89, Tryz.ntmps89
    go_wp2_with fail
    refine (P.out _ S0.out).mono ?_
    rintro en w1 ⟨rfl, g1⟩
    have T1 : Hid (Turn [b] w w1) := T0.out.trans (g1.turn _)
    have S1 : Hid (DR w1 b v l (.ok p)) := S0.out.grew g1
    have N1 : Hid (w1.heap[w.heap.size]? = some (.cells #[.int .i64 0, .int .i64 0, .bool false, .int .i64 0] 30 (0, 0))) := (g1.turn []).other N0.out (by simp)
    clear g1 T0 S0 N0
    have c1_1 := cell_of S1.out.st.1 1
    have c3_1 := cell_of S1.out.st.1 3
    simp at c1_1 c3_1
    go_wp2_with fail
    refine (dnumS_ez S1.out hx).mono ?_
    rintro en w2 ⟨rfl, t2, s2⟩
    have T2 : Hid (Turn [b] w w2) := T1.out.trans t2
    have S2 : Hid (DR w2 b v l (.error (f, e))) := s2
    have N2 : Hid (w2.heap[w.heap.size]? = some (.cells #[.int .i64 0, .int .i64 0, .bool false, .int .i64 0] 30 (0, 0))) := t2.other N1.out (by simp; omega)
    clear t2 s2 T1 S1 N1
    obtain ⟨a2, o2, ha2, he2⟩ := S2.out.st
    have c3_2 := cell_of o2 3
    simp at c3_2
    have dn2 : ((e : Int) != 0) = true := by first | (simp; done) | (simp; omega)
    have de2 : ((e : Int) == 0) = false := by first | (simp; done) | (simp; omega)
    clear o2
    have hne : ¬ b = w.heap.size := by omega
    have n0 := cell_of N2.out 0
    have y0 := free_of N2.out 0
    have n1 := cell_of N2.out 1
    have y1 := free_of N2.out 1
    have n2 := cell_of N2.out 2
    have y2 := free_of N2.out 2
    have n3 := cell_of N2.out 3
    have y3 := free_of N2.out 3
    simp at n0 n1 n2 n3
    go_wp2_with fail
    refine bodyPost_ret (v := BK.v ⟨0, ⟨0, false, 0⟩⟩) (by simp [results, Tryz.results89, go_sem, vt, VT.v, BK.v, n0, n1, n2, n3]) rfl ?_
    exact ⟨⟨⟨0, ⟨0, false, 0⟩⟩, rfl⟩, ((((((FinD.mk_ T2.out S2.out)).set H.out (Nat.le_refl _)).set H.out (Nat.le_refl _)).set H.out (Nat.le_refl _)).set H.out (Nat.le_refl _))⟩
  | ok y =>
    obtain ⟨n, q⟩ := y
    simp only
    by_cases h0 : sg64 n < 0
    · rw [if_pos h0]
      have e0 : decide (sg64 n < 0) = true := by simpa using h0
      simp only [mapR]
      have S0 : Hid (DR (w.alloc (.cells #[.int .i64 0, .int .i64 0, .bool false, .int .i64 0] 30)) b v l (.ok p)) := H.out.grew ((Grew.refl w).alloc _)
      have T0 : Hid (Turn [b] w (w.alloc (.cells #[.int .i64 0, .int .i64 0, .bool false, .int .i64 0] 30))) := (Turn.refl [b] w).alloc _
      have N0 : Hid ((w.alloc (.cells #[.int .i64 0, .int .i64 0, .bool false, .int .i64 0] 30)).heap[w.heap.size]? = some (.cells #[.int .i64 0, .int .i64 0, .bool false, .int .i64 0] 30 (0, 0))) := heap_alloc_last _ _
      go_enter Tryz.func89, Tryz.ntmps89
      go_wp2_with fail
      refine (P.out _ S0.out).mono ?_
      rintro en w1 ⟨rfl, g1⟩
      have T1 : Hid (Turn [b] w w1) := T0.out.trans (g1.turn _)
      have S1 : Hid (DR w1 b v l (.ok p)) := S0.out.grew g1
      have N1 : Hid (w1.heap[w.heap.size]? = some (.cells #[.int .i64 0, .int .i64 0, .bool false, .int .i64 0] 30 (0, 0))) := (g1.turn []).other N0.out (by simp)
      clear g1 T0 S0 N0
      have c1_1 := cell_of S1.out.st.1 1
      have c3_1 := cell_of S1.out.st.1 3
      simp at c1_1 c3_1
      go_wp2_with fail
      refine (Calls.dok (dnumS_any S1.out) hx).mono ?_
      rintro en w2 ⟨rfl, t2, s2⟩
      have T2 : Hid (Turn [b] w w2) := T1.out.trans t2
      have S2 : Hid (DR w2 b v l (.ok q)) := s2
      have N2 : Hid (w2.heap[w.heap.size]? = some (.cells #[.int .i64 0, .int .i64 0, .bool false, .int .i64 0] 30 (0, 0))) := t2.other N1.out (by simp; omega)
      clear t2 s2 T1 S1 N1
      have cv := conv_sg n
      have c3_2 := cell_of S2.out.st.1 3
      simp at c3_2
      go_wp2_with fail
      refine (fail_any S2.out p 4 (by decide)).mono ?_
      rintro en w3 ⟨rfl, t3, s3⟩
      have T3 : Hid (Turn [b] w w3) := T2.out.trans t3
      have S3 : Hid (DR w3 b v l (.error (p, 4))) := s3
      have N3 : Hid (w3.heap[w.heap.size]? = some (.cells #[.int .i64 0, .int .i64 0, .bool false, .int .i64 0] 30 (0, 0))) := t3.other N2.out (by simp; omega)
      clear t3 s3 T2 S2 N2
      obtain ⟨a3, o3, ha3, he3⟩ := S3.out.st
      have c3_3 := cell_of o3 3
      simp at c3_3
      have dn3 : ((4 : Int) != 0) = true := by first | (simp; done) | (simp; omega)
      have de3 : ((4 : Int) == 0) = false := by first | (simp; done) | (simp; omega)
      clear o3
      have hne : ¬ b = w.heap.size := by omega
      have n0 := cell_of N3.out 0
      have y0 := free_of N3.out 0
      have n1 := cell_of N3.out 1
      have y1 := free_of N3.out 1
      have n2 := cell_of N3.out 2
      have y2 := free_of N3.out 2
      have n3 := cell_of N3.out 3
      have y3 := free_of N3.out 3
      simp at n0 n1 n2 n3
      go_wp2_with fail
      refine bodyPost_ret (v := BK.v ⟨sg64 n, ⟨0, false, 0⟩⟩) (by simp [results, Tryz.results89, go_sem, vt, VT.v, BK.v, n0, n1, n2, n3]) rfl ?_
      exact ⟨⟨⟨sg64 n, ⟨0, false, 0⟩⟩, rfl⟩, ((((((FinD.mk_ T3.out S3.out)).set H.out (Nat.le_refl _)).set H.out (Nat.le_refl _)).set H.out (Nat.le_refl _)).set H.out (Nat.le_refl _))⟩
    · rw [if_neg h0]
      have e0 : decide (sg64 n < 0) = false := by simpa using h0
      by_cases h3 : 2147483647 < sg64 n
      · rw [if_pos h3]
        have e3 : decide (2147483648 ≤ sg64 n) = true := by simp; omega
        simp only [mapR]
        have S0 : Hid (DR (w.alloc (.cells #[.int .i64 0, .int .i64 0, .bool false, .int .i64 0] 30)) b v l (.ok p)) := H.out.grew ((Grew.refl w).alloc _)
        have T0 : Hid (Turn [b] w (w.alloc (.cells #[.int .i64 0, .int .i64 0, .bool false, .int .i64 0] 30))) := (Turn.refl [b] w).alloc _
        have N0 : Hid ((w.alloc (.cells #[.int .i64 0, .int .i64 0, .bool false, .int .i64 0] 30)).heap[w.heap.size]? = some (.cells #[.int .i64 0, .int .i64 0, .bool false, .int .i64 0] 30 (0, 0))) := heap_alloc_last _ _
        go_enter Tryz.func89, Tryz.ntmps89
        go_wp2_with fail
        refine (P.out _ S0.out).mono ?_
        rintro en w1 ⟨rfl, g1⟩
        have T1 : Hid (Turn [b] w w1) := T0.out.trans (g1.turn _)
        have S1 : Hid (DR w1 b v l (.ok p)) := S0.out.grew g1
        have N1 : Hid (w1.heap[w.heap.size]? = some (.cells #[.int .i64 0, .int .i64 0, .bool false, .int .i64 0] 30 (0, 0))) := (g1.turn []).other N0.out (by simp)
        clear g1 T0 S0 N0
        have c1_1 := cell_of S1.out.st.1 1
        have c3_1 := cell_of S1.out.st.1 3
        simp at c1_1 c3_1
        go_wp2_with fail
        refine (Calls.dok (dnumS_any S1.out) hx).mono ?_
        rintro en w2 ⟨rfl, t2, s2⟩
        have T2 : Hid (Turn [b] w w2) := T1.out.trans t2
        have S2 : Hid (DR w2 b v l (.ok q)) := s2
        have N2 : Hid (w2.heap[w.heap.size]? = some (.cells #[.int .i64 0, .int .i64 0, .bool false, .int .i64 0] 30 (0, 0))) := t2.other N1.out (by simp; omega)
        clear t2 s2 T1 S1 N1
        have cv := conv_sg n
        have c3_2 := cell_of S2.out.st.1 3
        simp at c3_2
        go_wp2_with fail
        refine (fail_any S2.out p 2 (by decide)).mono ?_
        rintro en w3 ⟨rfl, t3, s3⟩
        have T3 : Hid (Turn [b] w w3) := T2.out.trans t3
        have S3 : Hid (DR w3 b v l (.error (p, 2))) := s3
        have N3 : Hid (w3.heap[w.heap.size]? = some (.cells #[.int .i64 0, .int .i64 0, .bool false, .int .i64 0] 30 (0, 0))) := t3.other N2.out (by simp; omega)
        clear t3 s3 T2 S2 N2
        obtain ⟨a3, o3, ha3, he3⟩ := S3.out.st
        have c3_3 := cell_of o3 3
        simp at c3_3
        have dn3 : ((2 : Int) != 0) = true := by first | (simp; done) | (simp; omega)
        have de3 : ((2 : Int) == 0) = false := by first | (simp; done) | (simp; omega)
        clear o3
        have hne : ¬ b = w.heap.size := by omega
        have n0 := cell_of N3.out 0
        have y0 := free_of N3.out 0
        have n1 := cell_of N3.out 1
        have y1 := free_of N3.out 1
        have n2 := cell_of N3.out 2
        have y2 := free_of N3.out 2
        have n3 := cell_of N3.out 3
        have y3 := free_of N3.out 3
        simp at n0 n1 n2 n3
        go_wp2_with fail
        refine bodyPost_ret (v := BK.v ⟨sg64 n, ⟨0, false, 0⟩⟩) (by simp [results, Tryz.results89, go_sem, vt, VT.v, BK.v, n0, n1, n2, n3]) rfl ?_
        exact ⟨⟨⟨sg64 n, ⟨0, false, 0⟩⟩, rfl⟩, ((((((FinD.mk_ T3.out S3.out)).set H.out (Nat.le_refl _)).set H.out (Nat.le_refl _)).set H.out (Nat.le_refl _)).set H.out (Nat.le_refl _))⟩
      · rw [if_neg h3]
        have e3 : decide (2147483648 ≤ sg64 n) = false := by simp; omega
        simp only [mapR]
        have S0 : Hid (DR (w.alloc (.cells #[.int .i64 0, .int .i64 0, .bool false, .int .i64 0] 30)) b v l (.ok p)) := H.out.grew ((Grew.refl w).alloc _)
        have T0 : Hid (Turn [b] w (w.alloc (.cells #[.int .i64 0, .int .i64 0, .bool false, .int .i64 0] 30))) := (Turn.refl [b] w).alloc _
        have N0 : Hid ((w.alloc (.cells #[.int .i64 0, .int .i64 0, .bool false, .int .i64 0] 30)).heap[w.heap.size]? = some (.cells #[.int .i64 0, .int .i64 0, .bool false, .int .i64 0] 30 (0, 0))) := heap_alloc_last _ _
        go_enter Tryz.func89, Tryz.ntmps89
        go_wp2_with fail
        refine (P.out _ S0.out).mono ?_
        rintro en w1 ⟨rfl, g1⟩
        have T1 : Hid (Turn [b] w w1) := T0.out.trans (g1.turn _)
        have S1 : Hid (DR w1 b v l (.ok p)) := S0.out.grew g1
        have N1 : Hid (w1.heap[w.heap.size]? = some (.cells #[.int .i64 0, .int .i64 0, .bool false, .int .i64 0] 30 (0, 0))) := (g1.turn []).other N0.out (by simp)
        clear g1 T0 S0 N0
        have c1_1 := cell_of S1.out.st.1 1
        have c3_1 := cell_of S1.out.st.1 3
        simp at c1_1 c3_1
        go_wp2_with fail
        refine (Calls.dok (dnumS_any S1.out) hx).mono ?_
        rintro en w2 ⟨rfl, t2, s2⟩
        have T2 : Hid (Turn [b] w w2) := T1.out.trans t2
        have S2 : Hid (DR w2 b v l (.ok q)) := s2
        have N2 : Hid (w2.heap[w.heap.size]? = some (.cells #[.int .i64 0, .int .i64 0, .bool false, .int .i64 0] 30 (0, 0))) := t2.other N1.out (by simp; omega)
        clear t2 s2 T1 S1 N1
        have cv := conv_sg n
        have c3_2 := cell_of S2.out.st.1 3
        simp at c3_2
        have hne : ¬ b = w.heap.size := by omega
        have n0 := cell_of N2.out 0
        have y0 := free_of N2.out 0
        have n1 := cell_of N2.out 1
        have y1 := free_of N2.out 1
        have n2 := cell_of N2.out 2
        have y2 := free_of N2.out 2
        have n3 := cell_of N2.out 3
        have y3 := free_of N2.out 3
        simp at n0 n1 n2 n3
        go_wp2_with fail
        refine bodyPost_ret (v := BK.v ⟨sg64 n, ⟨0, false, 0⟩⟩) (by simp [results, Tryz.results89, go_sem, vt, VT.v, BK.v, n0, n1, n2, n3]) rfl ?_
        exact ⟨rfl, ((((((FinD.mk_ T2.out S2.out)).set H.out (Nat.le_refl _)).set H.out (Nat.le_refl _)).set H.out (Nat.le_refl _)).set H.out (Nat.le_refl _))⟩
set_option maxRecDepth 100000 in
set_option maxHeartbeats 1000000 in
theorem dblk_no {w : World} {b : Nat} {v : Value} {l : List Int} {st : Except (Nat × Nat) Nat} (h : DR w b v l st) (hp : ¬ Ahead l st) :
    Calls Tryz.prog 89 #[.pointer (some ⟨b, 0, none⟩)] w (DAns BK.v b v l w (runR (blockR l) st)) := by
  have H : Hid (DR w b v l st) := h
  have hb : b < w.heap.size := h.lt
  have hr : ∃ f e, runR (blockR l) st = .error (f, e) ∧ runR (numR 33 true l) st = .error (f, e) ∧ e ≠ 0 := by
    cases st with
    | error x => obtain ⟨f, e⟩ := x; obtain ⟨a, _, _, he⟩ := h.st; exact ⟨f, e, rfl, rfl, he⟩
    | ok p =>
      have hpl : p = l.length := by
        have := h.st.2
        rcases Nat.lt_or_ge p l.length with h' | h'
        · exact absurd ⟨p, rfl, h'⟩ hp
        · omega
      refine ⟨p, 3, by show blockR l p = _; unfold blockR; exact atR_no (by omega), ?_, by decide⟩
      subst hpl
      exact numR_end _ _ _
  obtain ⟨f, e, hr1, hx, he⟩ := hr
  rw [hr1]
  clear h hr1
  have S0 : Hid (DR (w.alloc (.cells #[.int .i64 0, .int .i64 0, .bool false, .int .i64 0] 30)) b v l st) := H.out.grew ((Grew.refl w).alloc _)
  have T0 : Hid (Turn [b] w (w.alloc (.cells #[.int .i64 0, .int .i64 0, .bool false, .int .i64 0] 30))) := (Turn.refl [b] w).alloc _
  have N0 : Hid ((w.alloc (.cells #[.int .i64 0, .int .i64 0, .bool false, .int .i64 0] 30)).heap[w.heap.size]? = some (.cells #[.int .i64 0, .int .i64 0, .bool false, .int .i64 0] 30 (0, 0))) := heap_alloc_last _ _
  go_enter Tryz.func89, Tryz.ntmps89
  go_wp2_with fail
  refine (dpeek_no S0.out hp).mono ?_
  rintro en w1 ⟨rfl, g1⟩
  have T1 : Hid (Turn [b] w w1) := T0.out.trans (g1.turn _)
  have S1 : Hid (DR w1 b v l st) := S0.out.grew g1
  have N1 : Hid (w1.heap[w.heap.size]? = some (.cells #[.int .i64 0, .int .i64 0, .bool false, .int .i64 0] 30 (0, 0))) := (g1.turn []).other N0.out (by simp)
  clear g1 T0 S0 N0
  obtain ⟨av1, plv1, ev1, ho1⟩ := S1.out.obj
  have c1_1 := cell_of ho1 1
  simp at c1_1
  clear ho1
  go_wp2_with fail
  refine (dnumS_ez S1.out hx).mono ?_
  rintro en w2 ⟨rfl, t2, s2⟩
  have T2 : Hid (Turn [b] w w2) := T1.out.trans t2
  have S2 : Hid (DR w2 b v l (.error (f, e))) := s2
  have N2 : Hid (w2.heap[w.heap.size]? = some (.cells #[.int .i64 0, .int .i64 0, .bool false, .int .i64 0] 30 (0, 0))) := t2.other N1.out (by simp; omega)
  clear t2 s2 T1 S1 N1
  obtain ⟨a2, o2, ha2, he2⟩ := S2.out.st
  have c3_2 := cell_of o2 3
  simp at c3_2
  have dn2 : ((e : Int) != 0) = true := by first | (simp; done) | (simp; omega)
  have de2 : ((e : Int) == 0) = false := by first | (simp; done) | (simp; omega)
  clear o2
  have hne : ¬ b = w.heap.size := by omega
  have n0 := cell_of N2.out 0
  have y0 := free_of N2.out 0
  have n1 := cell_of N2.out 1
  have y1 := free_of N2.out 1
  have n2 := cell_of N2.out 2
  have y2 := free_of N2.out 2
  have n3 := cell_of N2.out 3
  have y3 := free_of N2.out 3
  simp at n0 n1 n2 n3
  go_wp2_with fail
  refine bodyPost_ret (v := BK.v ⟨0, ⟨0, false, 0⟩⟩) (by simp [results, Tryz.results89, go_sem, vt, VT.v, BK.v, n0, n1, n2, n3]) rfl ?_
  exact ⟨⟨⟨0, ⟨0, false, 0⟩⟩, rfl⟩, ((((((FinD.mk_ T2.out S2.out)).set H.out (Nat.le_refl _)).set H.out (Nat.le_refl _)).set H.out (Nat.le_refl _)).set H.out (Nat.le_refl _))⟩
theorem dblock_any {w : World} {b : Nat} {v : Value} {l : List Int} {st : Except (Nat × Nat) Nat} (h : DR w b v l st) :
    Calls Tryz.prog 89 #[.pointer (some ⟨b, 0, none⟩)] w (DAns BK.v b v l w (runR (blockR l) st)) := by
  by_cases hp : Ahead l st
  · obtain ⟨p, rfl, hp⟩ := hp
    show Calls _ _ _ _ (DAns _ _ _ _ _ (blockR l p))
    rw [← blockD_eq l h.byt p]
    unfold blockD
    rw [atR_in hp]
    obtain ⟨c, hcv⟩ : ∃ c, l.getD p 0 = c := ⟨_, rfl⟩
    rw [hcv]
    by_cases h0 : c = 64
    · rw [if_pos h0]; exact dblk_40 h hp c hcv h0
    · rw [if_neg h0]
      by_cases h1 : 64 < c ∧ c < 128
      · rw [if_pos h1]; exact dblk_val h hp c hcv h1.1 h1.2
      · rw [if_neg h1]
        by_cases h2 : c < 64
        · exact dblk_lo h hp c hcv h2
        · exact dblk_hi h hp c hcv (by omega)
  · exact dblk_no h hp
set_option maxRecDepth 100000 in
set_option maxHeartbeats 1000000 in
theorem dtopB_any (v : Value) (l : List Int) (x : Int) (w : World) (hR : Reads w v l) (hB : Byt l) (hl : l.length ≤ 140737488351232) :
    Calls Tryz.prog 57 #[v, .int .i64 x] w fun en w' => en = .returned (ansB (topR (blockR l) ⟨0, ⟨0, false, 0⟩⟩ l x)) ∧ Grew w w' := by
  have BG := begin_any v l x (w.alloc (.cells #[.int .i64 0, .int .i64 0, .bool false, .int .i64 0] 30)) (((Grew.refl w).alloc _).reads hR)
  rw [alloc_size] at BG
  have HR : Hid (Reads w v l) := hR
  have HB : Hid (Byt l) := hB
  obtain ⟨X, hX⟩ : ∃ X, X = topR (blockR l) ⟨0, ⟨0, false, 0⟩⟩ l x := ⟨_, rfl⟩
  rw [← hX]
  clear hR hB
  by_cases hin : 0 ≤ x ∧ x ≤ l.length
  · obtain ⟨p, rfl⟩ : ∃ p : Nat, x = p := ⟨x.toNat, by omega⟩
    have hp : p ≤ l.length := by omega
    rw [topR_in hp] at hX
    rw [decide_eq_true hin] at BG
    clear hin
    cases hx : blockR l p with
    | error y =>
      obtain ⟨f, e⟩ := y
      rw [hx] at hX
      have HX : Hid (X = (⟨0, ⟨0, false, 0⟩⟩, (f : Int), (e : Int))) := hX
      clear hX
      go_enter Tryz.func57, Tryz.ntmps57
      go_wp2_with fail
      refine BG.mono ?_
      rintro en W ⟨rfl, hW⟩
      have G0 : Hid (Grew w W) := by rw [hW]; exact ((Grew.refl w).alloc _).alloc _
      have A0 : Hid (W.heap[w.heap.size]? = some (.cells #[.int .i64 0, .int .i64 0, .bool false, .int .i64 0] 30 (0, 0))) := by rw [hW]; exact heap_alloc (heap_alloc_last _ _) _
      have o0 : W.heap[w.heap.size + 1]? = some (rdg v p 0 0)  := by
        rw [hW]
        have h1 : (w.alloc (.cells #[.int .i64 0, .int .i64 0, .bool false, .int .i64 0] 30)).heap.size = w.heap.size + 1 := alloc_size _ _
        rw [← h1]; exact heap_alloc_last _ _
      have S0 : Hid (DR W (w.heap.size + 1) v l (.ok p)) := ⟨⟨o0, hp⟩, G0.out.reads HR.out, HB.out, hl⟩
      have hWs : w.heap.size + 1 < W.heap.size := lt_of_obj o0
      clear BG hW o0
      go_wp2_with fail
      refine (Calls.der (dblock_any S0.out) hx).mono ?_
      rintro en w2 ⟨⟨y, rfl⟩, t2, s2⟩
      have G2 : Hid (Grew w w2) := t2.grew G0.out (by intro y hy; simp at hy; omega)
      have S2 : Hid (DR w2 (w.heap.size + 1) v l (.error (f, e))) := s2
      have he : e ≠ 0 := by obtain ⟨a, _, _, he⟩ := s2.st; exact he
      have d : ((e : Int) != 0) = true := by simp; exact he
      have hs2 := t2.size
      have A2 : Hid (w2.heap[w.heap.size]? = some (.cells #[.int .i64 0, .int .i64 0, .bool false, .int .i64 0] 30 (0, 0))) := t2.other A0.out (by simp)
      clear t2 s2 S0 hx
      obtain ⟨bt, ⟨vn, vb, vh⟩⟩ := y
      unfold BK.v
      go_wp2_with fail
      generalize hw3 : w2.alloc _ = w3
      have g3 : Grew w2 w3 := by rw [← hw3]; exact (Grew.refl w2).alloc _
      refine (end_any (S2.out.grew g3)).mono ?_
      rintro en w4 ⟨rfl, g4⟩
      have G4 : Hid (Grew w w4) := G2.out.trans (g3.trans g4)
      have A4 := ((g3.trans g4).turn []).other A2.out (by simp)
      clear hw3 g3 g4
      have n0 := cell_of A4 0
      have y0 := free_of A4 0
      have n1 := cell_of A4 1
      have y1 := free_of A4 1
      have n2 := cell_of A4 2
      have y2 := free_of A4 2
      have n3 := cell_of A4 3
      have y3 := free_of A4 3
      simp at n0 n1 n2 n3
      clear A4
      unfold endV
      go_wp2_with fail
      refine bodyPost_ret (v := .tuple #[.agg #[.int .i64 0, .int .i64 0, .bool false, .int .i64 0], .int .i64 f, .int .i64 e]) (by simp [results, Tryz.results57, go_sem, BK.v, n0, n1, n2, n3]) rfl ?_
      rw [HX.out]
      exact ⟨rfl, ((((G4.out.set (p := ⟨w.heap.size, 0, none⟩) (by simp) _).set (p := ⟨w.heap.size, 1, none⟩) (by simp) _).set (p := ⟨w.heap.size, 2, none⟩) (by simp) _).set (p := ⟨w.heap.size, 3, none⟩) (by simp) _)⟩
    | ok y =>
      obtain ⟨a, q⟩ := y
      obtain ⟨bt, ⟨vn, vb, vh⟩⟩ := a
      rw [hx] at hX
      have HX : Hid (X = (⟨bt, ⟨vn, vb, vh⟩⟩, (q : Int), 0)) := hX
      clear hX
      go_enter Tryz.func57, Tryz.ntmps57
      go_wp2_with fail
      refine BG.mono ?_
      rintro en W ⟨rfl, hW⟩
      have G0 : Hid (Grew w W) := by rw [hW]; exact ((Grew.refl w).alloc _).alloc _
      have A0 : Hid (W.heap[w.heap.size]? = some (.cells #[.int .i64 0, .int .i64 0, .bool false, .int .i64 0] 30 (0, 0))) := by rw [hW]; exact heap_alloc (heap_alloc_last _ _) _
      have o0 : W.heap[w.heap.size + 1]? = some (rdg v p 0 0)  := by
        rw [hW]
        have h1 : (w.alloc (.cells #[.int .i64 0, .int .i64 0, .bool false, .int .i64 0] 30)).heap.size = w.heap.size + 1 := alloc_size _ _
        rw [← h1]; exact heap_alloc_last _ _
      have S0 : Hid (DR W (w.heap.size + 1) v l (.ok p)) := ⟨⟨o0, hp⟩, G0.out.reads HR.out, HB.out, hl⟩
      have hWs : w.heap.size + 1 < W.heap.size := lt_of_obj o0
      clear BG hW o0
      go_wp2_with fail
      refine (Calls.dok (dblock_any S0.out) hx).mono ?_
      rintro en w2 ⟨rfl, t2, s2⟩
      have G2 : Hid (Grew w w2) := t2.grew G0.out (by intro y hy; simp at hy; omega)
      have S2 : Hid (DR w2 (w.heap.size + 1) v l (.ok q)) := s2
      have hs2 := t2.size
      have A2 : Hid (w2.heap[w.heap.size]? = some (.cells #[.int .i64 0, .int .i64 0, .bool false, .int .i64 0] 30 (0, 0))) := t2.other A0.out (by simp)
      clear t2 s2 S0 hx
      unfold BK.v
      go_wp2_with fail
      generalize hw3 : w2.alloc (.cells #[.int .i64 bt, .int .i64 vn, .bool vb, .int .i64 vh] 30) = w3
      have g3 : Grew w2 w3 := by rw [← hw3]; exact (Grew.refl w2).alloc _
      have D3 : w3.heap[w2.heap.size]? = some (.cells #[.int .i64 bt, .int .i64 vn, .bool vb, .int .i64 vh] 30 (0, 0)) := by rw [← hw3]; exact heap_alloc_last _ _
      refine (end_any (S2.out.grew g3)).mono ?_
      rintro en w4 ⟨rfl, g4⟩
      have G4 : Hid (Grew w w4) := G2.out.trans (g3.trans g4)
      have A4 := ((g3.trans g4).turn []).other A2.out (by simp)
      have D4 := (g4.turn []).other D3 (by simp)
      have n0 := cell_of A4 0
      have y0 := free_of A4 0
      have d0 := cell_of D4 0
      have n1 := cell_of A4 1
      have y1 := free_of A4 1
      have d1 := cell_of D4 1
      have n2 := cell_of A4 2
      have y2 := free_of A4 2
      have d2 := cell_of D4 2
      have n3 := cell_of A4 3
      have y3 := free_of A4 3
      have d3 := cell_of D4 3
      simp at n0 d0 n1 d1 n2 d2 n3 d3
      clear hw3 g3 g4 A4 D3 D4
      have hne : ¬ w2.heap.size = w.heap.size := by omega
      unfold endV
      go_wp2_with fail
      refine bodyPost_ret (v := .tuple #[BK.v ⟨bt, ⟨vn, vb, vh⟩⟩, .int .i64 q, .int .i64 0]) (by simp [results, Tryz.results57, go_sem, BK.v, n0, n1, n2, n3]) rfl ?_
      rw [HX.out]
      exact ⟨rfl, ((((G4.out.set (p := ⟨w.heap.size, 0, none⟩) (by simp) _).set (p := ⟨w.heap.size, 1, none⟩) (by simp) _).set (p := ⟨w.heap.size, 2, none⟩) (by simp) _).set (p := ⟨w.heap.size, 3, none⟩) (by simp) _)⟩
  · rw [topR_out hin] at hX
    have HX : Hid (X = (⟨0, ⟨0, false, 0⟩⟩, 0, 1)) := hX
    rw [decide_eq_false hin] at BG
    clear hX hin
    go_enter Tryz.func57, Tryz.ntmps57
    go_wp2_with fail
    refine BG.mono ?_
    rintro en W ⟨rfl, hW⟩
    have G0 : Hid (Grew w W) := by rw [hW]; exact ((Grew.refl w).alloc _).alloc _
    have A0 : W.heap[w.heap.size]? = some (.cells #[.int .i64 0, .int .i64 0, .bool false, .int .i64 0] 30 (0, 0)) := by rw [hW]; exact heap_alloc (heap_alloc_last _ _) _
    have n0 := cell_of A0 0
    have y0 := free_of A0 0
    have n1 := cell_of A0 1
    have y1 := free_of A0 1
    have n2 := cell_of A0 2
    have y2 := free_of A0 2
    have n3 := cell_of A0 3
    have y3 := free_of A0 3
    simp at n0 n1 n2 n3
    clear A0
    clear BG hW
    go_wp2_with fail
    refine bodyPost_ret (v := .tuple #[.agg #[.int .i64 0, .int .i64 0, .bool false, .int .i64 0], .int .i64 0, .int .i64 1]) (by simp [results, Tryz.results57, go_sem, BK.v, n0, n1, n2, n3]) rfl ?_
    rw [HX.out]
    exact ⟨rfl, ((((G0.out.set (p := ⟨w.heap.size, 0, none⟩) (by simp) _).set (p := ⟨w.heap.size, 1, none⟩) (by simp) _).set (p := ⟨w.heap.size, 2, none⟩) (by simp) _).set (p := ⟨w.heap.size, 3, none⟩) (by simp) _)⟩
end Go.Proofs.YtohapnninjdlfaaGreatDoor
