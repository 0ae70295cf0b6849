/-
  The document's calls at a place: heap types, value types, references; no statement is proved here.
-/
import Derived.Test.YtohapnninjdlfaaGreatDoorDVls
import Derived.Test.YtohapnninjdlfaaGreatDoorTopL
namespace Go.Proofs.YtohapnninjdlfaaGreatDoor
open Go.RowKit
set_option linter.unusedVariables false
set_option linter.unusedSimpArgs false
set_option linter.constructorNameAsVariable false

set_option maxRecDepth 100000 in
set_option maxHeartbeats 1000000 in
theorem begin_any (v : Value) (l : List Int) (x : Int) (w : World) (hR : Reads w v l) :
    Calls Tryz.prog 88 #[v, .int .i64 x] w fun en w' => en = .returned (.tuple #[.pointer (some ⟨w.heap.size, 0, none⟩), .bool (decide (0 ≤ x ∧ x ≤ l.length))]) ∧ w' = w.alloc (.cells #[v, .int .i64 x, .int .i64 0, .int .i64 0] 167) := by
  obtain ⟨sa, cap, rfl⟩ := hR.len
  clear hR
  by_cases h0 : 0 ≤ x
  · have d0 : decide (0 ≤ x) = true := by simpa using h0
    by_cases h1 : x ≤ l.length
    · have d1 : decide (x ≤ (l.length : Int)) = true := by simpa using h1
      rw [show decide (0 ≤ x ∧ x ≤ (l.length : Int)) = true by simp; omega]
      go_enter Tryz.func88, Tryz.ntmps88
      go_wp2_with fail
      go_ret2
      exact ⟨rfl, rfl⟩
    · have d1 : decide (x ≤ (l.length : Int)) = false := by simpa using h1
      rw [show decide (0 ≤ x ∧ x ≤ (l.length : Int)) = false by simp; omega]
      go_enter Tryz.func88, Tryz.ntmps88
      go_wp2_with fail
      go_ret2
      exact ⟨rfl, rfl⟩
  · have d0 : decide (0 ≤ x) = false := by simpa using h0
    rw [show decide (0 ≤ x ∧ x ≤ (l.length : Int)) = false by simp; omega]
    go_enter Tryz.func88, Tryz.ntmps88
    go_wp2_with fail
    go_ret2
    exact ⟨rfl, rfl⟩
def endV : Except (Nat × Nat) Nat → Int × Int
  | .ok p => (p, 0)
  | .error (f, e) => (f, e)
set_option maxRecDepth 100000 in
set_option maxHeartbeats 1000000 in
theorem end_any {w : World} {b : Nat} {v : Value} {l : List Int} {st : Except (Nat × Nat) Nat} (h : DR w b v l st) :
    Calls Tryz.prog 90 #[.pointer (some ⟨b, 0, none⟩)] w fun en w' => en = .returned (.tuple #[.int .i64 (endV st).1, .int .i64 (endV st).2]) ∧ Grew w w' := by
  cases st with
  | ok p =>
    have c1 := cell_of h.st.1 1
    have c3 := cell_of h.st.1 3
    simp at c1 c3
    clear h
    go_enter Tryz.func90, Tryz.ntmps90
    go_wp2_with fail
    go_ret2
    exact ⟨rfl, Grew.refl _⟩
  | error x =>
    obtain ⟨f, e⟩ := x
    obtain ⟨a, ho, _, he⟩ := h.st
    have c2 := cell_of ho 2
    have c3 := cell_of ho 3
    simp at c2 c3
    have d : ((e : Int) != 0) = true := by simp; exact he
    clear h ho
    go_enter Tryz.func90, Tryz.ntmps90
    go_wp2_with fail
    go_quiet (fail)
    go_wp2_with fail
    go_ret2
    exact ⟨rfl, (Grew.refl w).drewN _⟩
set_option maxRecDepth 100000 in
set_option maxHeartbeats 1000000 in
theorem dtopH_any (v : Value) (l : List Int) (x : Int) (w : World) (hR : Reads w v l) (hB : Byt l) (hl : l.length ≤ 140737488351232) :
    Calls Tryz.prog 61 #[v, .int .i64 x] w fun en w' => en = .returned (ansH (topR (heapR l) 0 l x)) ∧ Grew w w' := by
  have BG := begin_any v l x w hR
  skip
  have HR : Hid (Reads w v l) := hR
  have HB : Hid (Byt l) := hB
  obtain ⟨X, hX⟩ : ∃ X, X = topR (heapR l) 0 l x := ⟨_, rfl⟩
  rw [← hX]
  clear hR hB
  by_cases hin : 0 ≤ x ∧ x ≤ l.length
  · obtain ⟨p, rfl⟩ : ∃ p : Nat, x = p := ⟨x.toNat, by omega⟩
    have hp : p ≤ l.length := by omega
    rw [topR_in hp] at hX
    rw [decide_eq_true hin] at BG
    clear hin
    cases hx : heapR l p with
    | error y =>
      obtain ⟨f, e⟩ := y
      rw [hx] at hX
      have HX : Hid (X = (0, (f : Int), (e : Int))) := hX
      clear hX
      go_enter Tryz.func61, Tryz.ntmps61
      go_wp2_with fail
      refine BG.mono ?_
      rintro en W ⟨rfl, hW⟩
      have G0 : Hid (Grew w W) := by rw [hW]; exact (Grew.refl w).alloc _
      have o0 : W.heap[w.heap.size]? = some (rdg v p 0 0) := by rw [hW]; exact heap_alloc_last _ _
      have S0 : Hid (DR W (w.heap.size) v l (.ok p)) := ⟨⟨o0, hp⟩, G0.out.reads HR.out, HB.out, hl⟩
      have hWs : w.heap.size < W.heap.size := lt_of_obj o0
      clear BG hW o0
      go_wp2_with fail
      refine (Calls.der (dheap_any S0.out) hx).mono ?_
      rintro en w2 ⟨⟨y, rfl⟩, t2, s2⟩
      have G2 : Hid (Grew w w2) := t2.grew G0.out (by intro y hy; simp at hy; omega)
      have S2 : Hid (DR w2 (w.heap.size) v l (.error (f, e))) := s2
      have he : e ≠ 0 := by obtain ⟨a, _, _, he⟩ := s2.st; exact he
      have d : ((e : Int) != 0) = true := by simp; exact he
      have hs2 := t2.size
      clear t2 s2 S0 hx
      skip
      skip
      go_wp2_with fail
      refine (end_any S2.out).mono ?_
      rintro en w4 ⟨rfl, g4⟩
      have G4 : Hid (Grew w w4) := G2.out.trans g4
      clear g4
      unfold endV
      go_wp2_with fail
      go_ret3
      rw [HX.out]
      exact ⟨rfl, G4.out⟩
    | ok y =>
      obtain ⟨a, q⟩ := y
      skip
      rw [hx] at hX
      have HX : Hid (X = (a, (q : Int), 0)) := hX
      clear hX
      go_enter Tryz.func61, Tryz.ntmps61
      go_wp2_with fail
      refine BG.mono ?_
      rintro en W ⟨rfl, hW⟩
      have G0 : Hid (Grew w W) := by rw [hW]; exact (Grew.refl w).alloc _
      have o0 : W.heap[w.heap.size]? = some (rdg v p 0 0) := by rw [hW]; exact heap_alloc_last _ _
      have S0 : Hid (DR W (w.heap.size) v l (.ok p)) := ⟨⟨o0, hp⟩, G0.out.reads HR.out, HB.out, hl⟩
      have hWs : w.heap.size < W.heap.size := lt_of_obj o0
      clear BG hW o0
      go_wp2_with fail
      refine (Calls.dok (dheap_any S0.out) hx).mono ?_
      rintro en w2 ⟨rfl, t2, s2⟩
      have G2 : Hid (Grew w w2) := t2.grew G0.out (by intro y hy; simp at hy; omega)
      have S2 : Hid (DR w2 (w.heap.size) v l (.ok q)) := s2
      have hs2 := t2.size
      clear t2 s2 S0 hx
      skip
      go_wp2_with fail
      refine (end_any S2.out).mono ?_
      rintro en w4 ⟨rfl, g4⟩
      have G4 : Hid (Grew w w4) := G2.out.trans g4
      clear g4
      unfold endV
      go_wp2_with fail
      go_ret3
      rw [HX.out]
      exact ⟨rfl, G4.out⟩
  · rw [topR_out hin] at hX
    have HX : Hid (X = (0, 0, 1)) := hX
    rw [decide_eq_false hin] at BG
    clear hX hin
    go_enter Tryz.func61, Tryz.ntmps61
    go_wp2_with fail
    refine BG.mono ?_
    rintro en W ⟨rfl, hW⟩
    have G0 : Hid (Grew w W) := by rw [hW]; exact (Grew.refl w).alloc _
    clear BG hW
    go_wp2_with fail
    go_ret3
    rw [HX.out]
    exact ⟨rfl, G0.out⟩
theorem dvalF_any {w : World} {b : Nat} {v : Value} {l : List Int} {st : Except (Nat × Nat) Nat} (h : DR w b v l st) :
    Calls Tryz.prog 116 #[.pointer (some ⟨b, 0, none⟩), .bool false, .bool false] w (DAns VT.v b v l w (runR (refR l) st)) := by
  have := dval_any false false h
  rwa [show valD false false l = refR l from funext (valD_ref l h.byt)] at this
set_option maxRecDepth 100000 in
set_option maxHeartbeats 1000000 in
theorem dvalAtV_any (v : Value) (l : List Int) (x : Int) (w : World) (hR : Reads w v l) (hB : Byt l) (hl : l.length ≤ 140737488351232) :
    Calls Tryz.prog 93 #[v, .int .i64 x, .bool true] w fun en w' => en = .returned (ansV (topR (valR l) ⟨0, false, 0⟩ l x)) ∧ Grew w w' := by
  have BG := begin_any v l x (w.alloc (.cells #[.int .i64 0, .bool false, .int .i64 0] 28)) (((Grew.refl w).alloc _).reads hR)
  rw [alloc_size] at BG
  have HR : Hid (Reads w v l) := hR
  have HB : Hid (Byt l) := hB
  obtain ⟨X, hX⟩ : ∃ X, X = topR (valR l) ⟨0, false, 0⟩ l x := ⟨_, rfl⟩
  rw [← hX]
  clear hR hB
  by_cases hin : 0 ≤ x ∧ x ≤ l.length
  · obtain ⟨p, rfl⟩ : ∃ p : Nat, x = p := ⟨x.toNat, by omega⟩
    have hp : p ≤ l.length := by omega
    rw [topR_in hp] at hX
    rw [decide_eq_true hin] at BG
    clear hin
    cases hx : valR l p with
    | error y =>
      obtain ⟨f, e⟩ := y
      rw [hx] at hX
      have HX : Hid (X = (⟨0, false, 0⟩, (f : Int), (e : Int))) := hX
      clear hX
      go_enter Tryz.func93, Tryz.ntmps93
      go_wp2_with fail
      refine BG.mono ?_
      rintro en W ⟨rfl, hW⟩
      have G0 : Hid (Grew w W) := by rw [hW]; exact ((Grew.refl w).alloc _).alloc _
      have A0 : Hid (W.heap[w.heap.size]? = some (.cells #[.int .i64 0, .bool false, .int .i64 0] 28 (0, 0))) := by rw [hW]; exact heap_alloc (heap_alloc_last _ _) _
      have o0 : W.heap[w.heap.size + 1]? = some (rdg v p 0 0)  := by
        rw [hW]
        have h1 : (w.alloc (.cells #[.int .i64 0, .bool false, .int .i64 0] 28)).heap.size = w.heap.size + 1 := alloc_size _ _
        rw [← h1]; exact heap_alloc_last _ _
      have S0 : Hid (DR W (w.heap.size + 1) v l (.ok p)) := ⟨⟨o0, hp⟩, G0.out.reads HR.out, HB.out, hl⟩
      have hWs : w.heap.size + 1 < W.heap.size := lt_of_obj o0
      clear BG hW o0
      go_wp2_with fail
      refine (Calls.der (dvalR_any S0.out) hx).mono ?_
      rintro en w2 ⟨⟨y, rfl⟩, t2, s2⟩
      have G2 : Hid (Grew w w2) := t2.grew G0.out (by intro y hy; simp at hy; omega)
      have S2 : Hid (DR w2 (w.heap.size + 1) v l (.error (f, e))) := s2
      have he : e ≠ 0 := by obtain ⟨a, _, _, he⟩ := s2.st; exact he
      have d : ((e : Int) != 0) = true := by simp; exact he
      have hs2 := t2.size
      have A2 : Hid (w2.heap[w.heap.size]? = some (.cells #[.int .i64 0, .bool false, .int .i64 0] 28 (0, 0))) := t2.other A0.out (by simp)
      clear t2 s2 S0 hx
      obtain ⟨vn, vb, vh⟩ := y
      unfold VT.v vt
      go_wp2_with fail
      generalize hw3 : w2.alloc _ = w3
      have g3 : Grew w2 w3 := by rw [← hw3]; exact (Grew.refl w2).alloc _
      refine (end_any (S2.out.grew g3)).mono ?_
      rintro en w4 ⟨rfl, g4⟩
      have G4 : Hid (Grew w w4) := G2.out.trans (g3.trans g4)
      have A4 := ((g3.trans g4).turn []).other A2.out (by simp)
      clear hw3 g3 g4
      have n0 := cell_of A4 0
      have y0 := free_of A4 0
      have n1 := cell_of A4 1
      have y1 := free_of A4 1
      have n2 := cell_of A4 2
      have y2 := free_of A4 2
      simp at n0 n1 n2
      clear A4
      unfold endV
      go_wp2_with fail
      refine bodyPost_ret (v := .tuple #[.agg #[.int .i64 0, .bool false, .int .i64 0], .int .i64 f, .int .i64 e]) (by simp [results, Tryz.results93, go_sem, vt, n0, n1, n2]) rfl ?_
      rw [HX.out]
      exact ⟨rfl, (((G4.out.set (p := ⟨w.heap.size, 0, none⟩) (by simp) _).set (p := ⟨w.heap.size, 1, none⟩) (by simp) _).set (p := ⟨w.heap.size, 2, none⟩) (by simp) _)⟩
    | ok y =>
      obtain ⟨a, q⟩ := y
      obtain ⟨vn, vb, vh⟩ := a
      rw [hx] at hX
      have HX : Hid (X = (⟨vn, vb, vh⟩, (q : Int), 0)) := hX
      clear hX
      go_enter Tryz.func93, Tryz.ntmps93
      go_wp2_with fail
      refine BG.mono ?_
      rintro en W ⟨rfl, hW⟩
      have G0 : Hid (Grew w W) := by rw [hW]; exact ((Grew.refl w).alloc _).alloc _
      have A0 : Hid (W.heap[w.heap.size]? = some (.cells #[.int .i64 0, .bool false, .int .i64 0] 28 (0, 0))) := by rw [hW]; exact heap_alloc (heap_alloc_last _ _) _
      have o0 : W.heap[w.heap.size + 1]? = some (rdg v p 0 0)  := by
        rw [hW]
        have h1 : (w.alloc (.cells #[.int .i64 0, .bool false, .int .i64 0] 28)).heap.size = w.heap.size + 1 := alloc_size _ _
        rw [← h1]; exact heap_alloc_last _ _
      have S0 : Hid (DR W (w.heap.size + 1) v l (.ok p)) := ⟨⟨o0, hp⟩, G0.out.reads HR.out, HB.out, hl⟩
      have hWs : w.heap.size + 1 < W.heap.size := lt_of_obj o0
      clear BG hW o0
      go_wp2_with fail
      refine (Calls.dok (dvalR_any S0.out) hx).mono ?_
      rintro en w2 ⟨rfl, t2, s2⟩
      have G2 : Hid (Grew w w2) := t2.grew G0.out (by intro y hy; simp at hy; omega)
      have S2 : Hid (DR w2 (w.heap.size + 1) v l (.ok q)) := s2
      have hs2 := t2.size
      have A2 : Hid (w2.heap[w.heap.size]? = some (.cells #[.int .i64 0, .bool false, .int .i64 0] 28 (0, 0))) := t2.other A0.out (by simp)
      clear t2 s2 S0 hx
      unfold VT.v vt
      go_wp2_with fail
      generalize hw3 : w2.alloc (.cells #[.int .i64 vn, .bool vb, .int .i64 vh] 28) = w3
      have g3 : Grew w2 w3 := by rw [← hw3]; exact (Grew.refl w2).alloc _
      have D3 : w3.heap[w2.heap.size]? = some (.cells #[.int .i64 vn, .bool vb, .int .i64 vh] 28 (0, 0)) := by rw [← hw3]; exact heap_alloc_last _ _
      refine (end_any (S2.out.grew g3)).mono ?_
      rintro en w4 ⟨rfl, g4⟩
      have G4 : Hid (Grew w w4) := G2.out.trans (g3.trans g4)
      have A4 := ((g3.trans g4).turn []).other A2.out (by simp)
      have D4 := (g4.turn []).other D3 (by simp)
      have n0 := cell_of A4 0
      have y0 := free_of A4 0
      have d0 := cell_of D4 0
      have n1 := cell_of A4 1
      have y1 := free_of A4 1
      have d1 := cell_of D4 1
      have n2 := cell_of A4 2
      have y2 := free_of A4 2
      have d2 := cell_of D4 2
      simp at n0 d0 n1 d1 n2 d2
      clear hw3 g3 g4 A4 D3 D4
      have hne : ¬ w2.heap.size = w.heap.size := by omega
      unfold endV
      go_wp2_with fail
      refine bodyPost_ret (v := .tuple #[vt vn vb vh, .int .i64 q, .int .i64 0]) (by simp [results, Tryz.results93, go_sem, vt, n0, n1, n2]) rfl ?_
      rw [HX.out]
      exact ⟨rfl, (((G4.out.set (p := ⟨w.heap.size, 0, none⟩) (by simp) _).set (p := ⟨w.heap.size, 1, none⟩) (by simp) _).set (p := ⟨w.heap.size, 2, none⟩) (by simp) _)⟩
  · rw [topR_out hin] at hX
    have HX : Hid (X = (⟨0, false, 0⟩, 0, 1)) := hX
    rw [decide_eq_false hin] at BG
    clear hX hin
    go_enter Tryz.func93, Tryz.ntmps93
    go_wp2_with fail
    refine BG.mono ?_
    rintro en W ⟨rfl, hW⟩
    have G0 : Hid (Grew w W) := by rw [hW]; exact ((Grew.refl w).alloc _).alloc _
    have A0 : W.heap[w.heap.size]? = some (.cells #[.int .i64 0, .bool false, .int .i64 0] 28 (0, 0)) := by rw [hW]; exact heap_alloc (heap_alloc_last _ _) _
    have n0 := cell_of A0 0
    have y0 := free_of A0 0
    have n1 := cell_of A0 1
    have y1 := free_of A0 1
    have n2 := cell_of A0 2
    have y2 := free_of A0 2
    simp at n0 n1 n2
    clear A0
    clear BG hW
    go_wp2_with fail
    refine bodyPost_ret (v := .tuple #[.agg #[.int .i64 0, .bool false, .int .i64 0], .int .i64 0, .int .i64 1]) (by simp [results, Tryz.results93, go_sem, vt, n0, n1, n2]) rfl ?_
    rw [HX.out]
    exact ⟨rfl, (((G0.out.set (p := ⟨w.heap.size, 0, none⟩) (by simp) _).set (p := ⟨w.heap.size, 1, none⟩) (by simp) _).set (p := ⟨w.heap.size, 2, none⟩) (by simp) _)⟩
set_option maxRecDepth 100000 in
set_option maxHeartbeats 1000000 in
theorem dvalAtR_any (v : Value) (l : List Int) (x : Int) (w : World) (hR : Reads w v l) (hB : Byt l) (hl : l.length ≤ 140737488351232) :
    Calls Tryz.prog 93 #[v, .int .i64 x, .bool false] w fun en w' => en = .returned (ansR (topR (refR l) ⟨0, false, 0⟩ l x)) ∧ Grew w w' := by
  have BG := begin_any v l x (w.alloc (.cells #[.int .i64 0, .bool false, .int .i64 0] 28)) (((Grew.refl w).alloc _).reads hR)
  rw [alloc_size] at BG
  have HR : Hid (Reads w v l) := hR
  have HB : Hid (Byt l) := hB
  obtain ⟨X, hX⟩ : ∃ X, X = topR (refR l) ⟨0, false, 0⟩ l x := ⟨_, rfl⟩
  rw [← hX]
  clear hR hB
  by_cases hin : 0 ≤ x ∧ x ≤ l.length
  · obtain ⟨p, rfl⟩ : ∃ p : Nat, x = p := ⟨x.toNat, by omega⟩
    have hp : p ≤ l.length := by omega
    rw [topR_in hp] at hX
    rw [decide_eq_true hin] at BG
    clear hin
    cases hx : refR l p with
    | error y =>
      obtain ⟨f, e⟩ := y
      rw [hx] at hX
      have HX : Hid (X = (⟨0, false, 0⟩, (f : Int), (e : Int))) := hX
      clear hX
      go_enter Tryz.func93, Tryz.ntmps93
      go_wp2_with fail
      refine BG.mono ?_
      rintro en W ⟨rfl, hW⟩
      have G0 : Hid (Grew w W) := by rw [hW]; exact ((Grew.refl w).alloc _).alloc _
      have A0 : Hid (W.heap[w.heap.size]? = some (.cells #[.int .i64 0, .bool false, .int .i64 0] 28 (0, 0))) := by rw [hW]; exact heap_alloc (heap_alloc_last _ _) _
      have o0 : W.heap[w.heap.size + 1]? = some (rdg v p 0 0)  := by
        rw [hW]
        have h1 : (w.alloc (.cells #[.int .i64 0, .bool false, .int .i64 0] 28)).heap.size = w.heap.size + 1 := alloc_size _ _
        rw [← h1]; exact heap_alloc_last _ _
      have S0 : Hid (DR W (w.heap.size + 1) v l (.ok p)) := ⟨⟨o0, hp⟩, G0.out.reads HR.out, HB.out, hl⟩
      have hWs : w.heap.size + 1 < W.heap.size := lt_of_obj o0
      clear BG hW o0
      go_wp2_with fail
      refine (Calls.der (dvalF_any S0.out) hx).mono ?_
      rintro en w2 ⟨⟨y, rfl⟩, t2, s2⟩
      have G2 : Hid (Grew w w2) := t2.grew G0.out (by intro y hy; simp at hy; omega)
      have S2 : Hid (DR w2 (w.heap.size + 1) v l (.error (f, e))) := s2
      have he : e ≠ 0 := by obtain ⟨a, _, _, he⟩ := s2.st; exact he
      have d : ((e : Int) != 0) = true := by simp; exact he
      have hs2 := t2.size
      have A2 : Hid (w2.heap[w.heap.size]? = some (.cells #[.int .i64 0, .bool false, .int .i64 0] 28 (0, 0))) := t2.other A0.out (by simp)
      clear t2 s2 S0 hx
      obtain ⟨vn, vb, vh⟩ := y
      unfold VT.v vt
      go_wp2_with fail
      generalize hw3 : w2.alloc _ = w3
      have g3 : Grew w2 w3 := by rw [← hw3]; exact (Grew.refl w2).alloc _
      refine (end_any (S2.out.grew g3)).mono ?_
      rintro en w4 ⟨rfl, g4⟩
      have G4 : Hid (Grew w w4) := G2.out.trans (g3.trans g4)
      have A4 := ((g3.trans g4).turn []).other A2.out (by simp)
      clear hw3 g3 g4
      have n0 := cell_of A4 0
      have y0 := free_of A4 0
      have n1 := cell_of A4 1
      have y1 := free_of A4 1
      have n2 := cell_of A4 2
      have y2 := free_of A4 2
      simp at n0 n1 n2
      clear A4
      unfold endV
      go_wp2_with fail
      refine bodyPost_ret (v := .tuple #[.agg #[.int .i64 0, .bool false, .int .i64 0], .int .i64 f, .int .i64 e]) (by simp [results, Tryz.results93, go_sem, vt, n0, n1, n2]) rfl ?_
      rw [HX.out]
      exact ⟨rfl, (((G4.out.set (p := ⟨w.heap.size, 0, none⟩) (by simp) _).set (p := ⟨w.heap.size, 1, none⟩) (by simp) _).set (p := ⟨w.heap.size, 2, none⟩) (by simp) _)⟩
    | ok y =>
      obtain ⟨a, q⟩ := y
      obtain ⟨vn, vb, vh⟩ := a
      rw [hx] at hX
      have HX : Hid (X = (⟨vn, vb, vh⟩, (q : Int), 0)) := hX
      clear hX
      go_enter Tryz.func93, Tryz.ntmps93
      go_wp2_with fail
      refine BG.mono ?_
      rintro en W ⟨rfl, hW⟩
      have G0 : Hid (Grew w W) := by rw [hW]; exact ((Grew.refl w).alloc _).alloc _
      have A0 : Hid (W.heap[w.heap.size]? = some (.cells #[.int .i64 0, .bool false, .int .i64 0] 28 (0, 0))) := by rw [hW]; exact heap_alloc (heap_alloc_last _ _) _
      have o0 : W.heap[w.heap.size + 1]? = some (rdg v p 0 0)  := by
        rw [hW]
        have h1 : (w.alloc (.cells #[.int .i64 0, .bool false, .int .i64 0] 28)).heap.size = w.heap.size + 1 := alloc_size _ _
        rw [← h1]; exact heap_alloc_last _ _
      have S0 : Hid (DR W (w.heap.size + 1) v l (.ok p)) := ⟨⟨o0, hp⟩, G0.out.reads HR.out, HB.out, hl⟩
      have hWs : w.heap.size + 1 < W.heap.size := lt_of_obj o0
      clear BG hW o0
      go_wp2_with fail
      refine (Calls.dok (dvalF_any S0.out) hx).mono ?_
      rintro en w2 ⟨rfl, t2, s2⟩
      have G2 : Hid (Grew w w2) := t2.grew G0.out (by intro y hy; simp at hy; omega)
      have S2 : Hid (DR w2 (w.heap.size + 1) v l (.ok q)) := s2
      have hs2 := t2.size
      have A2 : Hid (w2.heap[w.heap.size]? = some (.cells #[.int .i64 0, .bool false, .int .i64 0] 28 (0, 0))) := t2.other A0.out (by simp)
      clear t2 s2 S0 hx
      unfold VT.v vt
      go_wp2_with fail
      generalize hw3 : w2.alloc (.cells #[.int .i64 vn, .bool vb, .int .i64 vh] 28) = w3
      have g3 : Grew w2 w3 := by rw [← hw3]; exact (Grew.refl w2).alloc _
      have D3 : w3.heap[w2.heap.size]? = some (.cells #[.int .i64 vn, .bool vb, .int .i64 vh] 28 (0, 0)) := by rw [← hw3]; exact heap_alloc_last _ _
      refine (end_any (S2.out.grew g3)).mono ?_
      rintro en w4 ⟨rfl, g4⟩
      have G4 : Hid (Grew w w4) := G2.out.trans (g3.trans g4)
      have A4 := ((g3.trans g4).turn []).other A2.out (by simp)
      have D4 := (g4.turn []).other D3 (by simp)
      have n0 := cell_of A4 0
      have y0 := free_of A4 0
      have d0 := cell_of D4 0
      have n1 := cell_of A4 1
      have y1 := free_of A4 1
      have d1 := cell_of D4 1
      have n2 := cell_of A4 2
      have y2 := free_of A4 2
      have d2 := cell_of D4 2
      simp at n0 d0 n1 d1 n2 d2
      clear hw3 g3 g4 A4 D3 D4
      have hne : ¬ w2.heap.size = w.heap.size := by omega
      unfold endV
      go_wp2_with fail
      refine bodyPost_ret (v := .tuple #[vt vn vb vh, .int .i64 q, .int .i64 0]) (by simp [results, Tryz.results93, go_sem, vt, n0, n1, n2]) rfl ?_
      rw [HX.out]
      exact ⟨rfl, (((G4.out.set (p := ⟨w.heap.size, 0, none⟩) (by simp) _).set (p := ⟨w.heap.size, 1, none⟩) (by simp) _).set (p := ⟨w.heap.size, 2, none⟩) (by simp) _)⟩
  · rw [topR_out hin] at hX
    have HX : Hid (X = (⟨0, false, 0⟩, 0, 1)) := hX
    rw [decide_eq_false hin] at BG
    clear hX hin
    go_enter Tryz.func93, Tryz.ntmps93
    go_wp2_with fail
    refine BG.mono ?_
    rintro en W ⟨rfl, hW⟩
    have G0 : Hid (Grew w W) := by rw [hW]; exact ((Grew.refl w).alloc _).alloc _
    have A0 : W.heap[w.heap.size]? = some (.cells #[.int .i64 0, .bool false, .int .i64 0] 28 (0, 0)) := by rw [hW]; exact heap_alloc (heap_alloc_last _ _) _
    have n0 := cell_of A0 0
    have y0 := free_of A0 0
    have n1 := cell_of A0 1
    have y1 := free_of A0 1
    have n2 := cell_of A0 2
    have y2 := free_of A0 2
    simp at n0 n1 n2
    clear A0
    clear BG hW
    go_wp2_with fail
    refine bodyPost_ret (v := .tuple #[.agg #[.int .i64 0, .bool false, .int .i64 0], .int .i64 0, .int .i64 1]) (by simp [results, Tryz.results93, go_sem, vt, n0, n1, n2]) rfl ?_
    rw [HX.out]
    exact ⟨rfl, (((G0.out.set (p := ⟨w.heap.size, 0, none⟩) (by simp) _).set (p := ⟨w.heap.size, 1, none⟩) (by simp) _).set (p := ⟨w.heap.size, 2, none⟩) (by simp) _)⟩
set_option maxRecDepth 100000 in
set_option maxHeartbeats 1000000 in
theorem dtopV_any (v : Value) (l : List Int) (x : Int) (w : World) (hR : Reads w v l) (hB : Byt l) (hl : l.length ≤ 140737488351232) :
    Calls Tryz.prog 59 #[v, .int .i64 x] w fun en w' => en = .returned (ansV (topR (valR l) ⟨0, false, 0⟩ l x)) ∧ Grew w w' := by
  have C := dvalAtV_any v l x (w.alloc (.cells #[.int .i64 0, .bool false, .int .i64 0] 28)) (((Grew.refl w).alloc _).reads hR) hB hl
  obtain ⟨sa, cap, rfl⟩ := hR.len
  clear hR hB
  generalize topR (valR l) ⟨0, false, 0⟩ l x = X at *
  obtain ⟨⟨n, nul, hpt⟩, pl, e⟩ := X
  unfold ansV VT.v vt at *
  simp only at C ⊢
  go_enter Tryz.func59, Tryz.ntmps59
  go_wp2_with fail
  refine C.mono ?_
  rintro en w1 ⟨rfl, g1⟩
  have hN := (g1.turn []).other (heap_alloc_last _ _) (by simp)
  have c0 := cell_of hN 0
  have z0 := free_of hN 0
  have c1 := cell_of hN 1
  have z1 := free_of hN 1
  have c2 := cell_of hN 2
  have z2 := free_of hN 2
  simp at c0 c1 c2
  have G1 : Hid (Grew w w1) := ((Grew.refl w).alloc _).trans g1
  clear hN g1 C
  go_wp2_with fail
  refine bodyPost_ret (v := .tuple #[vt n nul hpt, .int .i64 pl, .int .i64 e]) (by simp [results, Tryz.results59, go_sem, vt, c0, c1, c2]) rfl ?_
  exact ⟨rfl, (((G1.out.set (p := ⟨w.heap.size, 0, none⟩) (by simp) _).set (p := ⟨w.heap.size, 1, none⟩) (by simp) _).set (p := ⟨w.heap.size, 2, none⟩) (by simp) _)⟩
theorem DAnsV.er {b : Nat} {v : Value} {l : List Int} {w : World} {r : RS (List VT)} {f e : Nat} {n : FuncId} {args : Array Value} (h : Calls Tryz.prog n args w (DAnsV b v l w r)) (hr : r = .error (f, e)) : Calls Tryz.prog n args w fun en w' => ∃ rv x, en = .returned rv ∧ RowV w.heap.size w' rv x ∧ FinD b v l w w' (.error (f, e)) := by subst hr; exact h
theorem DAnsV.ok {b : Nat} {v : Value} {l : List Int} {w : World} {r : RS (List VT)} {x : List VT} {q : Nat} {n : FuncId} {args : Array Value} (h : Calls Tryz.prog n args w (DAnsV b v l w r)) (hr : r = .ok (x, q)) : Calls Tryz.prog n args w fun en w' => ∃ rv, en = .returned rv ∧ RowV w.heap.size w' rv x ∧ FinD b v l w w' (.ok q) := by subst hr; exact h
end Go.Proofs.YtohapnninjdlfaaGreatDoor
