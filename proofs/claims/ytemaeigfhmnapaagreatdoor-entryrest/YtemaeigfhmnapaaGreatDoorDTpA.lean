/-
  The document's calls at a place: limits, tables, globals; no statement is proved here.
-/
import Derived.Test.YtemaeigfhmnapaaGreatDoorDTab
import Derived.Test.YtemaeigfhmnapaaGreatDoorTpG
namespace Go.Proofs.YtemaeigfhmnapaaGreatDoor
open Go.RowKit
set_option linter.unusedVariables false
set_option linter.unusedSimpArgs false
set_option linter.constructorNameAsVariable false

theorem dtable_ok {w : World} {b : Nat} {v : Value} {l : List Int} {p : Nat} (h : DR w b v l (.ok p)) : Calls Tryz.prog 24 #[.pointer (some ⟨b, 0, none⟩)] w (DAns TT.v b v l w (tabR l p)) := dtable_any h
theorem dglobal_ok {w : World} {b : Nat} {v : Value} {l : List Int} {p : Nat} (h : DR w b v l (.ok p)) : Calls Tryz.prog 27 #[.pointer (some ⟨b, 0, none⟩)] w (DAns GT.v b v l w (gloR l p)) := dglobal_any h
set_option maxRecDepth 100000 in
set_option maxHeartbeats 1000000 in
theorem dtopLm_any (v : Value) (l : List Int) (x : Int) (w : World) (hR : Reads w v l) (hB : Byt l) (hl : l.length ≤ 140737488351232) :
    Calls Tryz.prog 5 #[v, .int .i64 x] w fun en w' => en = .returned (ansLm (topR (limsR l) L0 l x)) ∧ Grew w w' := by
  have BG := begin_any v l x (w.alloc (.cells #[.bool false, .int .u64 0, .int .u64 0, .bool false] 25)) (((Grew.refl w).alloc _).reads hR)
  rw [alloc_size] at BG
  have HR : Hid (Reads w v l) := hR
  have HB : Hid (Byt l) := hB
  obtain ⟨X, hX⟩ : ∃ X, X = topR (limsR l) L0 l x := ⟨_, rfl⟩
  rw [← hX]
  clear hR hB
  by_cases hin : 0 ≤ x ∧ x ≤ l.length
  · obtain ⟨p, rfl⟩ : ∃ p : Nat, x = p := ⟨x.toNat, by omega⟩
    have hp : p ≤ l.length := by omega
    rw [topR_in hp] at hX
    rw [decide_eq_true hin] at BG
    clear hin
    cases hx : limsR l p with
    | error y =>
      obtain ⟨f, e⟩ := y
      rw [hx] at hX
      have HX : Hid (X = (L0, (f : Int), (e : Int))) := hX
      clear hX
      go_enter Tryz.func5, Tryz.ntmps5
      go_wp2_with fail
      refine BG.mono ?_
      rintro en W ⟨rfl, hW⟩
      have G0 : Hid (Grew w W) := by rw [hW]; exact ((Grew.refl w).alloc _).alloc _
      have A0 : Hid (W.heap[w.heap.size]? = some (.cells #[.bool false, .int .u64 0, .int .u64 0, .bool false] 25 (0, 0))) := by rw [hW]; exact heap_alloc (heap_alloc_last _ _) _
      have o0 : W.heap[w.heap.size + 1]? = some (rdg v p 0 0)  := by
        rw [hW]
        have h1 : (w.alloc (.cells #[.bool false, .int .u64 0, .int .u64 0, .bool false] 25)).heap.size = w.heap.size + 1 := alloc_size _ _
        rw [← h1]; exact heap_alloc_last _ _
      have S0 : Hid (DR W (w.heap.size + 1) v l (.ok p)) := ⟨⟨o0, hp⟩, G0.out.reads HR.out, HB.out, hl⟩
      have hWs : w.heap.size + 1 < W.heap.size := lt_of_obj o0
      clear BG hW o0
      go_wp2_with fail
      refine (Calls.der (dlimits_ok S0.out) hx).mono ?_
      rintro en w2 ⟨⟨y, rfl⟩, t2, s2⟩
      have G2 : Hid (Grew w w2) := t2.grew G0.out (by intro y hy; simp at hy; omega)
      have S2 : Hid (DR w2 (w.heap.size + 1) v l (.error (f, e))) := s2
      have he : e ≠ 0 := by obtain ⟨a, _, _, he⟩ := s2.st; exact he
      have d : ((e : Int) != 0) = true := by simp; exact he
      have hs2 := t2.size
      have A2 : Hid (w2.heap[w.heap.size]? = some (.cells #[.bool false, .int .u64 0, .int .u64 0, .bool false] 25 (0, 0))) := t2.other A0.out (by simp)
      clear t2 s2 S0 hx
      obtain ⟨wi, mn, mx, hm⟩ := y
      unfold LM.v
      go_wp2_with fail
      generalize hw3 : w2.alloc _ = w3
      have g3 : Grew w2 w3 := by rw [← hw3]; exact (Grew.refl w2).alloc _
      refine (end_any (S2.out.grew g3)).mono ?_
      rintro en w4 ⟨rfl, g4⟩
      have G4 : Hid (Grew w w4) := G2.out.trans (g3.trans g4)
      have A4 := ((g3.trans g4).turn []).other A2.out (by simp)
      clear hw3 g3 g4
      have n0 := cell_of A4 0
      have y0 := free_of A4 0
      have n1 := cell_of A4 1
      have y1 := free_of A4 1
      have n2 := cell_of A4 2
      have y2 := free_of A4 2
      have n3 := cell_of A4 3
      have y3 := free_of A4 3
      simp at n0 n1 n2 n3
      clear A4
      unfold endV
      go_wp2_with fail
      refine bodyPost_ret (v := .tuple #[.agg #[.bool false, .int .u64 0, .int .u64 0, .bool false], .int .i64 f, .int .i64 e]) (by simp [results, Tryz.results5, go_sem, LM.v, n0, n1, n2, n3]) rfl ?_
      rw [HX.out]
      exact ⟨rfl, ((((G4.out.set (p := ⟨w.heap.size, 0, none⟩) (by simp) _).set (p := ⟨w.heap.size, 1, none⟩) (by simp) _).set (p := ⟨w.heap.size, 2, none⟩) (by simp) _).set (p := ⟨w.heap.size, 3, none⟩) (by simp) _)⟩
    | ok y =>
      obtain ⟨a, q⟩ := y
      obtain ⟨wi, mn, mx, hm⟩ := a
      rw [hx] at hX
      have HX : Hid (X = (⟨wi, mn, mx, hm⟩, (q : Int), 0)) := hX
      clear hX
      go_enter Tryz.func5, Tryz.ntmps5
      go_wp2_with fail
      refine BG.mono ?_
      rintro en W ⟨rfl, hW⟩
      have G0 : Hid (Grew w W) := by rw [hW]; exact ((Grew.refl w).alloc _).alloc _
      have A0 : Hid (W.heap[w.heap.size]? = some (.cells #[.bool false, .int .u64 0, .int .u64 0, .bool false] 25 (0, 0))) := by rw [hW]; exact heap_alloc (heap_alloc_last _ _) _
      have o0 : W.heap[w.heap.size + 1]? = some (rdg v p 0 0)  := by
        rw [hW]
        have h1 : (w.alloc (.cells #[.bool false, .int .u64 0, .int .u64 0, .bool false] 25)).heap.size = w.heap.size + 1 := alloc_size _ _
        rw [← h1]; exact heap_alloc_last _ _
      have S0 : Hid (DR W (w.heap.size + 1) v l (.ok p)) := ⟨⟨o0, hp⟩, G0.out.reads HR.out, HB.out, hl⟩
      have hWs : w.heap.size + 1 < W.heap.size := lt_of_obj o0
      clear BG hW o0
      go_wp2_with fail
      refine (Calls.dok (dlimits_ok S0.out) hx).mono ?_
      rintro en w2 ⟨rfl, t2, s2⟩
      have G2 : Hid (Grew w w2) := t2.grew G0.out (by intro y hy; simp at hy; omega)
      have S2 : Hid (DR w2 (w.heap.size + 1) v l (.ok q)) := s2
      have hs2 := t2.size
      have A2 : Hid (w2.heap[w.heap.size]? = some (.cells #[.bool false, .int .u64 0, .int .u64 0, .bool false] 25 (0, 0))) := t2.other A0.out (by simp)
      clear t2 s2 S0 hx
      unfold LM.v
      go_wp2_with fail
      generalize hw3 : w2.alloc (.cells #[.bool wi, .int .u64 mn, .int .u64 mx, .bool hm] 25) = w3
      have g3 : Grew w2 w3 := by rw [← hw3]; exact (Grew.refl w2).alloc _
      have D3 : w3.heap[w2.heap.size]? = some (.cells #[.bool wi, .int .u64 mn, .int .u64 mx, .bool hm] 25 (0, 0)) := by rw [← hw3]; exact heap_alloc_last _ _
      refine (end_any (S2.out.grew g3)).mono ?_
      rintro en w4 ⟨rfl, g4⟩
      have G4 : Hid (Grew w w4) := G2.out.trans (g3.trans g4)
      have A4 := ((g3.trans g4).turn []).other A2.out (by simp)
      have D4 := (g4.turn []).other D3 (by simp)
      have n0 := cell_of A4 0
      have y0 := free_of A4 0
      have d0 := cell_of D4 0
      have n1 := cell_of A4 1
      have y1 := free_of A4 1
      have d1 := cell_of D4 1
      have n2 := cell_of A4 2
      have y2 := free_of A4 2
      have d2 := cell_of D4 2
      have n3 := cell_of A4 3
      have y3 := free_of A4 3
      have d3 := cell_of D4 3
      simp at n0 d0 n1 d1 n2 d2 n3 d3
      clear hw3 g3 g4 A4 D3 D4
      have hne : ¬ w2.heap.size = w.heap.size := by omega
      unfold endV
      go_wp2_with fail
      refine bodyPost_ret (v := .tuple #[LM.v ⟨wi, mn, mx, hm⟩, .int .i64 q, .int .i64 0]) (by simp [results, Tryz.results5, go_sem, LM.v, n0, n1, n2, n3]) rfl ?_
      rw [HX.out]
      exact ⟨rfl, ((((G4.out.set (p := ⟨w.heap.size, 0, none⟩) (by simp) _).set (p := ⟨w.heap.size, 1, none⟩) (by simp) _).set (p := ⟨w.heap.size, 2, none⟩) (by simp) _).set (p := ⟨w.heap.size, 3, none⟩) (by simp) _)⟩
  · rw [topR_out hin] at hX
    have HX : Hid (X = (L0, 0, 1)) := hX
    rw [decide_eq_false hin] at BG
    clear hX hin
    go_enter Tryz.func5, Tryz.ntmps5
    go_wp2_with fail
    refine BG.mono ?_
    rintro en W ⟨rfl, hW⟩
    have G0 : Hid (Grew w W) := by rw [hW]; exact ((Grew.refl w).alloc _).alloc _
    have A0 : W.heap[w.heap.size]? = some (.cells #[.bool false, .int .u64 0, .int .u64 0, .bool false] 25 (0, 0)) := by rw [hW]; exact heap_alloc (heap_alloc_last _ _) _
    have n0 := cell_of A0 0
    have y0 := free_of A0 0
    have n1 := cell_of A0 1
    have y1 := free_of A0 1
    have n2 := cell_of A0 2
    have y2 := free_of A0 2
    have n3 := cell_of A0 3
    have y3 := free_of A0 3
    simp at n0 n1 n2 n3
    clear A0
    clear BG hW
    go_wp2_with fail
    refine bodyPost_ret (v := .tuple #[.agg #[.bool false, .int .u64 0, .int .u64 0, .bool false], .int .i64 0, .int .i64 1]) (by simp [results, Tryz.results5, go_sem, LM.v, n0, n1, n2, n3]) rfl ?_
    rw [HX.out]
    exact ⟨rfl, ((((G0.out.set (p := ⟨w.heap.size, 0, none⟩) (by simp) _).set (p := ⟨w.heap.size, 1, none⟩) (by simp) _).set (p := ⟨w.heap.size, 2, none⟩) (by simp) _).set (p := ⟨w.heap.size, 3, none⟩) (by simp) _)⟩
set_option maxRecDepth 100000 in
set_option maxHeartbeats 1000000 in
theorem dtopTt_any (v : Value) (l : List Int) (x : Int) (w : World) (hR : Reads w v l) (hB : Byt l) (hl : l.length ≤ 140737488351232) :
    Calls Tryz.prog 7 #[v, .int .i64 x] w fun en w' => en = .returned (ansTt (topR (tabR l) T0_ l x)) ∧ Grew w w' := by
  have BG := begin_any v l x (w.alloc (.cells #[.int .i64 0, .bool false, .int .i64 0, .bool false, .int .u64 0, .int .u64 0, .bool false] 34)) (((Grew.refl w).alloc _).reads hR)
  rw [alloc_size] at BG
  have HR : Hid (Reads w v l) := hR
  have HB : Hid (Byt l) := hB
  obtain ⟨X, hX⟩ : ∃ X, X = topR (tabR l) T0_ l x := ⟨_, rfl⟩
  rw [← hX]
  clear hR hB
  by_cases hin : 0 ≤ x ∧ x ≤ l.length
  · obtain ⟨p, rfl⟩ : ∃ p : Nat, x = p := ⟨x.toNat, by omega⟩
    have hp : p ≤ l.length := by omega
    rw [topR_in hp] at hX
    rw [decide_eq_true hin] at BG
    clear hin
    cases hx : tabR l p with
    | error y =>
      obtain ⟨f, e⟩ := y
      rw [hx] at hX
      have HX : Hid (X = (T0_, (f : Int), (e : Int))) := hX
      clear hX
      go_enter Tryz.func7, Tryz.ntmps7
      go_wp2_with fail
      refine BG.mono ?_
      rintro en W ⟨rfl, hW⟩
      have G0 : Hid (Grew w W) := by rw [hW]; exact ((Grew.refl w).alloc _).alloc _
      have A0 : Hid (W.heap[w.heap.size]? = some (.cells #[.int .i64 0, .bool false, .int .i64 0, .bool false, .int .u64 0, .int .u64 0, .bool false] 34 (0, 0))) := by rw [hW]; exact heap_alloc (heap_alloc_last _ _) _
      have o0 : W.heap[w.heap.size + 1]? = some (rdg v p 0 0)  := by
        rw [hW]
        have h1 : (w.alloc (.cells #[.int .i64 0, .bool false, .int .i64 0, .bool false, .int .u64 0, .int .u64 0, .bool false] 34)).heap.size = w.heap.size + 1 := alloc_size _ _
        rw [← h1]; exact heap_alloc_last _ _
      have S0 : Hid (DR W (w.heap.size + 1) v l (.ok p)) := ⟨⟨o0, hp⟩, G0.out.reads HR.out, HB.out, hl⟩
      have hWs : w.heap.size + 1 < W.heap.size := lt_of_obj o0
      clear BG hW o0
      go_wp2_with fail
      refine (Calls.der (dtable_ok S0.out) hx).mono ?_
      rintro en w2 ⟨⟨y, rfl⟩, t2, s2⟩
      have G2 : Hid (Grew w w2) := t2.grew G0.out (by intro y hy; simp at hy; omega)
      have S2 : Hid (DR w2 (w.heap.size + 1) v l (.error (f, e))) := s2
      have he : e ≠ 0 := by obtain ⟨a, _, _, he⟩ := s2.st; exact he
      have d : ((e : Int) != 0) = true := by simp; exact he
      have hs2 := t2.size
      have A2 : Hid (w2.heap[w.heap.size]? = some (.cells #[.int .i64 0, .bool false, .int .i64 0, .bool false, .int .u64 0, .int .u64 0, .bool false] 34 (0, 0))) := t2.other A0.out (by simp)
      clear t2 s2 S0 hx
      obtain ⟨⟨vn, vb, vh⟩, ⟨wi, mn, mx, hm⟩⟩ := y
      unfold TT.v
      go_wp2_with fail
      generalize hw3 : w2.alloc _ = w3
      have g3 : Grew w2 w3 := by rw [← hw3]; exact (Grew.refl w2).alloc _
      refine (end_any (S2.out.grew g3)).mono ?_
      rintro en w4 ⟨rfl, g4⟩
      have G4 : Hid (Grew w w4) := G2.out.trans (g3.trans g4)
      have A4 := ((g3.trans g4).turn []).other A2.out (by simp)
      clear hw3 g3 g4
      have n0 := cell_of A4 0
      have y0 := free_of A4 0
      have n1 := cell_of A4 1
      have y1 := free_of A4 1
      have n2 := cell_of A4 2
      have y2 := free_of A4 2
      have n3 := cell_of A4 3
      have y3 := free_of A4 3
      have n4 := cell_of A4 4
      have y4 := free_of A4 4
      have n5 := cell_of A4 5
      have y5 := free_of A4 5
      have n6 := cell_of A4 6
      have y6 := free_of A4 6
      simp at n0 n1 n2 n3 n4 n5 n6
      clear A4
      unfold endV
      go_wp2_with fail
      refine bodyPost_ret (v := .tuple #[.agg #[.int .i64 0, .bool false, .int .i64 0, .bool false, .int .u64 0, .int .u64 0, .bool false], .int .i64 f, .int .i64 e]) (by simp [results, Tryz.results7, go_sem, TT.v, n0, n1, n2, n3, n4, n5, n6]) rfl ?_
      rw [HX.out]
      exact ⟨rfl, (((((((G4.out.set (p := ⟨w.heap.size, 0, none⟩) (by simp) _).set (p := ⟨w.heap.size, 1, none⟩) (by simp) _).set (p := ⟨w.heap.size, 2, none⟩) (by simp) _).set (p := ⟨w.heap.size, 3, none⟩) (by simp) _).set (p := ⟨w.heap.size, 4, none⟩) (by simp) _).set (p := ⟨w.heap.size, 5, none⟩) (by simp) _).set (p := ⟨w.heap.size, 6, none⟩) (by simp) _)⟩
    | ok y =>
      obtain ⟨a, q⟩ := y
      obtain ⟨⟨vn, vb, vh⟩, ⟨wi, mn, mx, hm⟩⟩ := a
      rw [hx] at hX
      have HX : Hid (X = (⟨⟨vn, vb, vh⟩, ⟨wi, mn, mx, hm⟩⟩, (q : Int), 0)) := hX
      clear hX
      go_enter Tryz.func7, Tryz.ntmps7
      go_wp2_with fail
      refine BG.mono ?_
      rintro en W ⟨rfl, hW⟩
      have G0 : Hid (Grew w W) := by rw [hW]; exact ((Grew.refl w).alloc _).alloc _
      have A0 : Hid (W.heap[w.heap.size]? = some (.cells #[.int .i64 0, .bool false, .int .i64 0, .bool false, .int .u64 0, .int .u64 0, .bool false] 34 (0, 0))) := by rw [hW]; exact heap_alloc (heap_alloc_last _ _) _
      have o0 : W.heap[w.heap.size + 1]? = some (rdg v p 0 0)  := by
        rw [hW]
        have h1 : (w.alloc (.cells #[.int .i64 0, .bool false, .int .i64 0, .bool false, .int .u64 0, .int .u64 0, .bool false] 34)).heap.size = w.heap.size + 1 := alloc_size _ _
        rw [← h1]; exact heap_alloc_last _ _
      have S0 : Hid (DR W (w.heap.size + 1) v l (.ok p)) := ⟨⟨o0, hp⟩, G0.out.reads HR.out, HB.out, hl⟩
      have hWs : w.heap.size + 1 < W.heap.size := lt_of_obj o0
      clear BG hW o0
      go_wp2_with fail
      refine (Calls.dok (dtable_ok S0.out) hx).mono ?_
      rintro en w2 ⟨rfl, t2, s2⟩
      have G2 : Hid (Grew w w2) := t2.grew G0.out (by intro y hy; simp at hy; omega)
      have S2 : Hid (DR w2 (w.heap.size + 1) v l (.ok q)) := s2
      have hs2 := t2.size
      have A2 : Hid (w2.heap[w.heap.size]? = some (.cells #[.int .i64 0, .bool false, .int .i64 0, .bool false, .int .u64 0, .int .u64 0, .bool false] 34 (0, 0))) := t2.other A0.out (by simp)
      clear t2 s2 S0 hx
      unfold TT.v
      go_wp2_with fail
      generalize hw3 : w2.alloc (.cells #[.int .i64 vn, .bool vb, .int .i64 vh, .bool wi, .int .u64 mn, .int .u64 mx, .bool hm] 34) = w3
      have g3 : Grew w2 w3 := by rw [← hw3]; exact (Grew.refl w2).alloc _
      have D3 : w3.heap[w2.heap.size]? = some (.cells #[.int .i64 vn, .bool vb, .int .i64 vh, .bool wi, .int .u64 mn, .int .u64 mx, .bool hm] 34 (0, 0)) := by rw [← hw3]; exact heap_alloc_last _ _
      refine (end_any (S2.out.grew g3)).mono ?_
      rintro en w4 ⟨rfl, g4⟩
      have G4 : Hid (Grew w w4) := G2.out.trans (g3.trans g4)
      have A4 := ((g3.trans g4).turn []).other A2.out (by simp)
      have D4 := (g4.turn []).other D3 (by simp)
      have n0 := cell_of A4 0
      have y0 := free_of A4 0
      have d0 := cell_of D4 0
      have n1 := cell_of A4 1
      have y1 := free_of A4 1
      have d1 := cell_of D4 1
      have n2 := cell_of A4 2
      have y2 := free_of A4 2
      have d2 := cell_of D4 2
      have n3 := cell_of A4 3
      have y3 := free_of A4 3
      have d3 := cell_of D4 3
      have n4 := cell_of A4 4
      have y4 := free_of A4 4
      have d4 := cell_of D4 4
      have n5 := cell_of A4 5
      have y5 := free_of A4 5
      have d5 := cell_of D4 5
      have n6 := cell_of A4 6
      have y6 := free_of A4 6
      have d6 := cell_of D4 6
      simp at n0 d0 n1 d1 n2 d2 n3 d3 n4 d4 n5 d5 n6 d6
      clear hw3 g3 g4 A4 D3 D4
      have hne : ¬ w2.heap.size = w.heap.size := by omega
      unfold endV
      go_wp2_with fail
      refine bodyPost_ret (v := .tuple #[TT.v ⟨⟨vn, vb, vh⟩, ⟨wi, mn, mx, hm⟩⟩, .int .i64 q, .int .i64 0]) (by simp [results, Tryz.results7, go_sem, TT.v, n0, n1, n2, n3, n4, n5, n6]) rfl ?_
      rw [HX.out]
      exact ⟨rfl, (((((((G4.out.set (p := ⟨w.heap.size, 0, none⟩) (by simp) _).set (p := ⟨w.heap.size, 1, none⟩) (by simp) _).set (p := ⟨w.heap.size, 2, none⟩) (by simp) _).set (p := ⟨w.heap.size, 3, none⟩) (by simp) _).set (p := ⟨w.heap.size, 4, none⟩) (by simp) _).set (p := ⟨w.heap.size, 5, none⟩) (by simp) _).set (p := ⟨w.heap.size, 6, none⟩) (by simp) _)⟩
  · rw [topR_out hin] at hX
    have HX : Hid (X = (T0_, 0, 1)) := hX
    rw [decide_eq_false hin] at BG
    clear hX hin
    go_enter Tryz.func7, Tryz.ntmps7
    go_wp2_with fail
    refine BG.mono ?_
    rintro en W ⟨rfl, hW⟩
    have G0 : Hid (Grew w W) := by rw [hW]; exact ((Grew.refl w).alloc _).alloc _
    have A0 : W.heap[w.heap.size]? = some (.cells #[.int .i64 0, .bool false, .int .i64 0, .bool false, .int .u64 0, .int .u64 0, .bool false] 34 (0, 0)) := by rw [hW]; exact heap_alloc (heap_alloc_last _ _) _
    have n0 := cell_of A0 0
    have y0 := free_of A0 0
    have n1 := cell_of A0 1
    have y1 := free_of A0 1
    have n2 := cell_of A0 2
    have y2 := free_of A0 2
    have n3 := cell_of A0 3
    have y3 := free_of A0 3
    have n4 := cell_of A0 4
    have y4 := free_of A0 4
    have n5 := cell_of A0 5
    have y5 := free_of A0 5
    have n6 := cell_of A0 6
    have y6 := free_of A0 6
    simp at n0 n1 n2 n3 n4 n5 n6
    clear A0
    clear BG hW
    go_wp2_with fail
    refine bodyPost_ret (v := .tuple #[.agg #[.int .i64 0, .bool false, .int .i64 0, .bool false, .int .u64 0, .int .u64 0, .bool false], .int .i64 0, .int .i64 1]) (by simp [results, Tryz.results7, go_sem, TT.v, n0, n1, n2, n3, n4, n5, n6]) rfl ?_
    rw [HX.out]
    exact ⟨rfl, (((((((G0.out.set (p := ⟨w.heap.size, 0, none⟩) (by simp) _).set (p := ⟨w.heap.size, 1, none⟩) (by simp) _).set (p := ⟨w.heap.size, 2, none⟩) (by simp) _).set (p := ⟨w.heap.size, 3, none⟩) (by simp) _).set (p := ⟨w.heap.size, 4, none⟩) (by simp) _).set (p := ⟨w.heap.size, 5, none⟩) (by simp) _).set (p := ⟨w.heap.size, 6, none⟩) (by simp) _)⟩
set_option maxRecDepth 100000 in
set_option maxHeartbeats 1000000 in
theorem dtopGt_any (v : Value) (l : List Int) (x : Int) (w : World) (hR : Reads w v l) (hB : Byt l) (hl : l.length ≤ 140737488351232) :
    Calls Tryz.prog 9 #[v, .int .i64 x] w fun en w' => en = .returned (ansGt (topR (gloR l) G0_ l x)) ∧ Grew w w' := by
  have BG := begin_any v l x (w.alloc (.cells #[.int .i64 0, .bool false, .int .i64 0, .bool false] 40)) (((Grew.refl w).alloc _).reads hR)
  rw [alloc_size] at BG
  have HR : Hid (Reads w v l) := hR
  have HB : Hid (Byt l) := hB
  obtain ⟨X, hX⟩ : ∃ X, X = topR (gloR l) G0_ l x := ⟨_, rfl⟩
  rw [← hX]
  clear hR hB
  by_cases hin : 0 ≤ x ∧ x ≤ l.length
  · obtain ⟨p, rfl⟩ : ∃ p : Nat, x = p := ⟨x.toNat, by omega⟩
    have hp : p ≤ l.length := by omega
    rw [topR_in hp] at hX
    rw [decide_eq_true hin] at BG
    clear hin
    cases hx : gloR l p with
    | error y =>
      obtain ⟨f, e⟩ := y
      rw [hx] at hX
      have HX : Hid (X = (G0_, (f : Int), (e : Int))) := hX
      clear hX
      go_enter Tryz.func9, Tryz.ntmps9
      go_wp2_with fail
      refine BG.mono ?_
      rintro en W ⟨rfl, hW⟩
      have G0 : Hid (Grew w W) := by rw [hW]; exact ((Grew.refl w).alloc _).alloc _
      have A0 : Hid (W.heap[w.heap.size]? = some (.cells #[.int .i64 0, .bool false, .int .i64 0, .bool false] 40 (0, 0))) := by rw [hW]; exact heap_alloc (heap_alloc_last _ _) _
      have o0 : W.heap[w.heap.size + 1]? = some (rdg v p 0 0)  := by
        rw [hW]
        have h1 : (w.alloc (.cells #[.int .i64 0, .bool false, .int .i64 0, .bool false] 40)).heap.size = w.heap.size + 1 := alloc_size _ _
        rw [← h1]; exact heap_alloc_last _ _
      have S0 : Hid (DR W (w.heap.size + 1) v l (.ok p)) := ⟨⟨o0, hp⟩, G0.out.reads HR.out, HB.out, hl⟩
      have hWs : w.heap.size + 1 < W.heap.size := lt_of_obj o0
      clear BG hW o0
      go_wp2_with fail
      refine (Calls.der (dglobal_ok S0.out) hx).mono ?_
      rintro en w2 ⟨⟨y, rfl⟩, t2, s2⟩
      have G2 : Hid (Grew w w2) := t2.grew G0.out (by intro y hy; simp at hy; omega)
      have S2 : Hid (DR w2 (w.heap.size + 1) v l (.error (f, e))) := s2
      have he : e ≠ 0 := by obtain ⟨a, _, _, he⟩ := s2.st; exact he
      have d : ((e : Int) != 0) = true := by simp; exact he
      have hs2 := t2.size
      have A2 : Hid (w2.heap[w.heap.size]? = some (.cells #[.int .i64 0, .bool false, .int .i64 0, .bool false] 40 (0, 0))) := t2.other A0.out (by simp)
      clear t2 s2 S0 hx
      obtain ⟨⟨vn, vb, vh⟩, mu⟩ := y
      unfold GT.v
      go_wp2_with fail
      generalize hw3 : w2.alloc _ = w3
      have g3 : Grew w2 w3 := by rw [← hw3]; exact (Grew.refl w2).alloc _
      refine (end_any (S2.out.grew g3)).mono ?_
      rintro en w4 ⟨rfl, g4⟩
      have G4 : Hid (Grew w w4) := G2.out.trans (g3.trans g4)
      have A4 := ((g3.trans g4).turn []).other A2.out (by simp)
      clear hw3 g3 g4
      have n0 := cell_of A4 0
      have y0 := free_of A4 0
      have n1 := cell_of A4 1
      have y1 := free_of A4 1
      have n2 := cell_of A4 2
      have y2 := free_of A4 2
      have n3 := cell_of A4 3
      have y3 := free_of A4 3
      simp at n0 n1 n2 n3
      clear A4
      unfold endV
      go_wp2_with fail
      refine bodyPost_ret (v := .tuple #[.agg #[.int .i64 0, .bool false, .int .i64 0, .bool false], .int .i64 f, .int .i64 e]) (by simp [results, Tryz.results9, go_sem, GT.v, n0, n1, n2, n3]) rfl ?_
      rw [HX.out]
      exact ⟨rfl, ((((G4.out.set (p := ⟨w.heap.size, 0, none⟩) (by simp) _).set (p := ⟨w.heap.size, 1, none⟩) (by simp) _).set (p := ⟨w.heap.size, 2, none⟩) (by simp) _).set (p := ⟨w.heap.size, 3, none⟩) (by simp) _)⟩
    | ok y =>
      obtain ⟨a, q⟩ := y
      obtain ⟨⟨vn, vb, vh⟩, mu⟩ := a
      rw [hx] at hX
      have HX : Hid (X = (⟨⟨vn, vb, vh⟩, mu⟩, (q : Int), 0)) := hX
      clear hX
      go_enter Tryz.func9, Tryz.ntmps9
      go_wp2_with fail
      refine BG.mono ?_
      rintro en W ⟨rfl, hW⟩
      have G0 : Hid (Grew w W) := by rw [hW]; exact ((Grew.refl w).alloc _).alloc _
      have A0 : Hid (W.heap[w.heap.size]? = some (.cells #[.int .i64 0, .bool false, .int .i64 0, .bool false] 40 (0, 0))) := by rw [hW]; exact heap_alloc (heap_alloc_last _ _) _
      have o0 : W.heap[w.heap.size + 1]? = some (rdg v p 0 0)  := by
        rw [hW]
        have h1 : (w.alloc (.cells #[.int .i64 0, .bool false, .int .i64 0, .bool false] 40)).heap.size = w.heap.size + 1 := alloc_size _ _
        rw [← h1]; exact heap_alloc_last _ _
      have S0 : Hid (DR W (w.heap.size + 1) v l (.ok p)) := ⟨⟨o0, hp⟩, G0.out.reads HR.out, HB.out, hl⟩
      have hWs : w.heap.size + 1 < W.heap.size := lt_of_obj o0
      clear BG hW o0
      go_wp2_with fail
      refine (Calls.dok (dglobal_ok S0.out) hx).mono ?_
      rintro en w2 ⟨rfl, t2, s2⟩
      have G2 : Hid (Grew w w2) := t2.grew G0.out (by intro y hy; simp at hy; omega)
      have S2 : Hid (DR w2 (w.heap.size + 1) v l (.ok q)) := s2
      have hs2 := t2.size
      have A2 : Hid (w2.heap[w.heap.size]? = some (.cells #[.int .i64 0, .bool false, .int .i64 0, .bool false] 40 (0, 0))) := t2.other A0.out (by simp)
      clear t2 s2 S0 hx
      unfold GT.v
      go_wp2_with fail
      generalize hw3 : w2.alloc (.cells #[.int .i64 vn, .bool vb, .int .i64 vh, .bool mu] 40) = w3
      have g3 : Grew w2 w3 := by rw [← hw3]; exact (Grew.refl w2).alloc _
      have D3 : w3.heap[w2.heap.size]? = some (.cells #[.int .i64 vn, .bool vb, .int .i64 vh, .bool mu] 40 (0, 0)) := by rw [← hw3]; exact heap_alloc_last _ _
      refine (end_any (S2.out.grew g3)).mono ?_
      rintro en w4 ⟨rfl, g4⟩
      have G4 : Hid (Grew w w4) := G2.out.trans (g3.trans g4)
      have A4 := ((g3.trans g4).turn []).other A2.out (by simp)
      have D4 := (g4.turn []).other D3 (by simp)
      have n0 := cell_of A4 0
      have y0 := free_of A4 0
      have d0 := cell_of D4 0
      have n1 := cell_of A4 1
      have y1 := free_of A4 1
      have d1 := cell_of D4 1
      have n2 := cell_of A4 2
      have y2 := free_of A4 2
      have d2 := cell_of D4 2
      have n3 := cell_of A4 3
      have y3 := free_of A4 3
      have d3 := cell_of D4 3
      simp at n0 d0 n1 d1 n2 d2 n3 d3
      clear hw3 g3 g4 A4 D3 D4
      have hne : ¬ w2.heap.size = w.heap.size := by omega
      unfold endV
      go_wp2_with fail
      refine bodyPost_ret (v := .tuple #[GT.v ⟨⟨vn, vb, vh⟩, mu⟩, .int .i64 q, .int .i64 0]) (by simp [results, Tryz.results9, go_sem, GT.v, n0, n1, n2, n3]) rfl ?_
      rw [HX.out]
      exact ⟨rfl, ((((G4.out.set (p := ⟨w.heap.size, 0, none⟩) (by simp) _).set (p := ⟨w.heap.size, 1, none⟩) (by simp) _).set (p := ⟨w.heap.size, 2, none⟩) (by simp) _).set (p := ⟨w.heap.size, 3, none⟩) (by simp) _)⟩
  · rw [topR_out hin] at hX
    have HX : Hid (X = (G0_, 0, 1)) := hX
    rw [decide_eq_false hin] at BG
    clear hX hin
    go_enter Tryz.func9, Tryz.ntmps9
    go_wp2_with fail
    refine BG.mono ?_
    rintro en W ⟨rfl, hW⟩
    have G0 : Hid (Grew w W) := by rw [hW]; exact ((Grew.refl w).alloc _).alloc _
    have A0 : W.heap[w.heap.size]? = some (.cells #[.int .i64 0, .bool false, .int .i64 0, .bool false] 40 (0, 0)) := by rw [hW]; exact heap_alloc (heap_alloc_last _ _) _
    have n0 := cell_of A0 0
    have y0 := free_of A0 0
    have n1 := cell_of A0 1
    have y1 := free_of A0 1
    have n2 := cell_of A0 2
    have y2 := free_of A0 2
    have n3 := cell_of A0 3
    have y3 := free_of A0 3
    simp at n0 n1 n2 n3
    clear A0
    clear BG hW
    go_wp2_with fail
    refine bodyPost_ret (v := .tuple #[.agg #[.int .i64 0, .bool false, .int .i64 0, .bool false], .int .i64 0, .int .i64 1]) (by simp [results, Tryz.results9, go_sem, GT.v, n0, n1, n2, n3]) rfl ?_
    rw [HX.out]
    exact ⟨rfl, ((((G0.out.set (p := ⟨w.heap.size, 0, none⟩) (by simp) _).set (p := ⟨w.heap.size, 1, none⟩) (by simp) _).set (p := ⟨w.heap.size, 2, none⟩) (by simp) _).set (p := ⟨w.heap.size, 3, none⟩) (by simp) _)⟩
end Go.Proofs.YtemaeigfhmnapaaGreatDoor
