/-
  The document's reading of instructions: value types and block types; no statement is proved here.
-/
import Derived.Test.YtohapnninjdlfaaGreatDoorD9b
namespace Go.Proofs.YtohapnninjdlfaaGreatDoor
open Go.RowKit
set_option linter.unusedVariables false
set_option linter.unusedSimpArgs false
set_option linter.constructorNameAsVariable false

theorem cell_gr {w w' : World} {b j : Nat} {v : Value} (hb : b < w.heap.size) (h : w.cell? ⟨b, j, none⟩ = some v) (g : Grew w w') : w'.cell? ⟨b, j, none⟩ = some v := by
  rw [g.1.cell hb]; exact h
theorem heap_ot {w : World} {g h j : Nat} {o : Obj} {x : Value} (ho : w.heap[g]? = some o) (hne : g ≠ h) : (w.setCell ⟨h, j, none⟩ x).heap[g]? = some o := (heap_set_ne hne).trans ho
set_option maxRecDepth 100000 in
set_option maxHeartbeats 2000000 in
theorem d9val_any {w : World} {b : Nat} {v : Value} {l : List Int} {st : Except (Nat × Nat) Nat} (h : D9 w b v l st) :
    Calls Tryz.prog 26 #[.pointer (some ⟨b, 0, none⟩)] w (An9 VT.v b v l w (runI (valR l) st)) := by
  have H : Hid (D9 w b v l st) := h
  have hlt : b < w.heap.size := h.lt
  have hl := h.len
  have gx : Hid (Grew w ((w.alloc (.cells #[.int .i64 0, .bool false, .int .i64 0] 28)).alloc (.cells #[.int .i64 0, .bool false, .int .i64 0] 28)).drew) := (((Grew.refl w).alloc _).alloc _).drew
  have ax : Hid (((w.alloc (.cells #[.int .i64 0, .bool false, .int .i64 0] 28)).alloc (.cells #[.int .i64 0, .bool false, .int .i64 0] 28)).drew.heap[w.heap.size]? = some (.cells #[.int .i64 0, .bool false, .int .i64 0] 28 (0, 0))) := heap_alloc (heap_alloc_last w _) _
  have bx : Hid (((w.alloc (.cells #[.int .i64 0, .bool false, .int .i64 0] 28)).alloc (.cells #[.int .i64 0, .bool false, .int .i64 0] 28)).drew.heap[w.heap.size + 1]? = some (.cells #[.int .i64 0, .bool false, .int .i64 0] 28 (0, 0))) := by
    have := heap_alloc_last (w.alloc (.cells #[.int .i64 0, .bool false, .int .i64 0] 28)) (.cells #[.int .i64 0, .bool false, .int .i64 0] 28)
    rwa [alloc_size] at this
  have g0 : Hid (Grew w (w.alloc (.cells #[.int .i64 0, .bool false, .int .i64 0] 28))) := (Grew.refl w).alloc _
  have a0 : Hid ((w.alloc (.cells #[.int .i64 0, .bool false, .int .i64 0] 28)).drew.heap[w.heap.size]? = some (.cells #[.int .i64 0, .bool false, .int .i64 0] 28 (0, 0))) := heap_alloc_last w _
  have hn0 : ¬ (b = w.heap.size) := by omega
  have hn1 : ¬ (b = w.heap.size + 1) := by omega
  have hn2 : ¬ (w.heap.size = b) := by omega
  have hn3 : ¬ (w.heap.size + 1 = b) := by omega
  cases st with
  | error x =>
    obtain ⟨f, e⟩ := x
    obtain ⟨a0', ho, ha, he0⟩ := h.st
    have c3 := cell_of ho 3
    simp at c3
    have de : ((e : Int) != 0) = true := by simp; exact he0
    clear h ho
    go_enter Tryz.func26, Tryz.ntmps26
    go_wp2_with fail
    refine bodyPost_ret (v := .agg #[.int .i64 0, .bool false, .int .i64 0]) (by simp [results, Tryz.results26, go_sem]) rfl ?_
    refine ⟨(⟨0, false, 0⟩ : VT), .error (f, e), rfl, ?_, rfl⟩
    first
      | exact ⟨(g0.out.turn _), H.out.grew g0.out⟩
      | (have gg : Grew w _ := (((g0.out.set (p := ⟨w.heap.size, 0, none⟩) (Nat.le_refl _) _).set (p := ⟨w.heap.size, 1, none⟩) (Nat.le_refl _) _).set (p := ⟨w.heap.size, 2, none⟩) (Nat.le_refl _) _)
         exact ⟨gg.turn _, H.out.grew gg⟩)
  | ok p =>
    have c0 := cell_of h.st.1 0
    have c1 := cell_of h.st.1 1
    have c3 := cell_of h.st.1 3
    have hle := h.st.2
    simp at c0 c1 c3
    have C : Hid (∀ X, Grew w X → Calls Tryz.prog 59 #[v, .int .i64 (p : Int)] X fun en w' => en = .returned (ansV (topR (valR l) (⟨0, false, 0⟩ : VT) l (p : Int))) ∧ Grew X w') := fun X g => dtopV_any v l p X (g.reads h.rd) h.byt h.len
    obtain ⟨⟨y1, y2, y3⟩, f, e, st', ht, hti, hw⟩ := top_ways (z := (⟨0, false, 0⟩ : VT)) (val_adv l) hle
    rw [ht] at C
    unfold ansV VT.v vt at C
    simp only at C
    have HT : Hid (TieI (valR l p) ⟨y1, y2, y3⟩ st') := hti
    obtain ⟨sa, cap, hv⟩ := h.rd.len
    subst hv
    clear h ht hti
    rcases hw with ⟨rfl, rfl, hq⟩ | ⟨rfl, he⟩
    · go_enter Tryz.func26, Tryz.ntmps26
      go_wp2_with fail
      go_region_held3 (fun w' => w'.cell? ⟨b, 0, none⟩ = some (.slice sa l.length cap) ∧ w'.cell? ⟨b, 1, none⟩ = some (.int .i64 (p : Int))) (go_keep)
        (first
         | (go_at_call 59
            refine (C.out _ (by first | exact gx.out | exact g0.out.drew)).mono ?_
            rintro en w1 ⟨rfl, g1⟩
            have G1 : Hid (Grew w w1) := (by first | exact gx.out.trans g1 | exact g0.out.drew.trans g1)
            have A1 : Hid (w1.heap[w.heap.size]? = some (.cells #[.int .i64 0, .bool false, .int .i64 0] 28 (0, 0))) := (by first | exact (g1.turn []).other ax.out (by simp) | exact (g1.turn []).other a0.out (by simp))
            have j0 := cell_gr hlt c0 G1.out
            have j1 := cell_gr hlt c1 G1.out
            have hs0 := lt_of_obj A1.out
            have hn4 : ¬ (b = w1.heap.size) := by omega
            have hn5 : ¬ (w1.heap.size = b) := by omega
            first
              | (have B1 : Hid (w1.heap[w.heap.size + 1]? = some (.cells #[.int .i64 0, .bool false, .int .i64 0] 28 (0, 0))) := (g1.turn []).other bx.out (by simp)
                 have e0 := cell_of B1.out 0
                 have f0 := free_of B1.out 0
                 have e1 := cell_of B1.out 1
                 have f1 := free_of B1.out 1
                 have e2 := cell_of B1.out 2
                 have f2 := free_of B1.out 2
                 simp at e0 e1 e2
                 have hs1 := lt_of_obj B1.out)
              | skip
            clear g1))
      · generalize hW : w1.alloc (.cells #[.int .i64 y1, .bool y2, .int .i64 y3] 28) = W
        have D3 : Hid (W.heap[w1.heap.size]? = some (.cells #[.int .i64 y1, .bool y2, .int .i64 y3] 28 (0, 0))) := by rw [← hW]; exact heap_alloc_last _ _
        have A3 : Hid (W.heap[w.heap.size]? = some (.cells #[.int .i64 0, .bool false, .int .i64 0] 28 (0, 0))) := by rw [← hW]; exact heap_alloc A1.out _
        have G3 : Hid (Grew w W) := by rw [← hW]; exact G1.out.alloc _
        have hN : w.heap.size + 1 ≤ w1.heap.size := hs0
        clear hW
        have UK : Hid (D9 W b (.slice sa l.length cap) l (.ok p)) := H.out.grew G3.out
        have k1 := cell_of UK.out.st.1 1
        have y1z := free_of UK.out.st.1 1
        have d0z := cell_of D3.out 0
        have a0z := cell_of A3.out 0
        have x0z := free_of A3.out 0
        have d1z := cell_of D3.out 1
        have a1z := cell_of A3.out 1
        have x1z := free_of A3.out 1
        have d2z := cell_of D3.out 2
        have a2z := cell_of A3.out 2
        have x2z := free_of A3.out 2
        simp at k1 d0z a0z d1z a1z d2z a2z
        have hb1 : ¬ (b = w1.heap.size) := by omega
        have hb2 : ¬ (w1.heap.size = b) := by omega
        have hb3 : ¬ (w1.heap.size = w.heap.size) := by omega
        have hb4 : ¬ (w.heap.size = w1.heap.size) := by omega
        generalize w1.heap.size = N at *
        go_wp2_with fail
        have T1 : Turn [b] w (W.setCell ⟨b, 1, none⟩ (.int .i64 (f : Int))) := (G3.out.turn [b]).set (p := ⟨b, 1, none⟩) (Or.inl (by simp)) _
        have K1 : D9 (W.setCell ⟨b, 1, none⟩ (.int .i64 (f : Int))) b (.slice sa l.length cap) l (.ok f) := H.out.of T1 ⟨by rw [heap_set UK.out.st.1 1 _]; simp [rdg9], hq⟩
        have o0 : (W.setCell ⟨b, 1, none⟩ (.int .i64 (f : Int))).heap[w.heap.size]? = some (.cells #[.int .i64 0, .bool false, .int .i64 0] 28 (0, 0)) := heap_ot A3.out hn2
        have o1 := heap_set o0 0 (.int .i64 y1)
        have T2 := T1.set (p := ⟨w.heap.size, 0, none⟩) (Or.inr (Nat.le_refl _)) (.int .i64 y1)
        have K2 := H.out.setN T1 K1 w.heap.size 0 (Nat.le_refl _) (.int .i64 y1)
        have o2 := heap_set o1 1 (.bool y2)
        have T3 := T2.set (p := ⟨w.heap.size, 1, none⟩) (Or.inr (Nat.le_refl _)) (.bool y2)
        have K3 := H.out.setN T2 K2 w.heap.size 1 (Nat.le_refl _) (.bool y2)
        have o3 := heap_set o2 2 (.int .i64 y3)
        have T4 := T3.set (p := ⟨w.heap.size, 2, none⟩) (Or.inr (Nat.le_refl _)) (.int .i64 y3)
        have K4 := H.out.setN T3 K3 w.heap.size 2 (Nat.le_refl _) (.int .i64 y3)
        refine bodyPost_ret (v := .agg #[.int .i64 y1, .bool y2, .int .i64 y3]) ?_ rfl ?_
        · exact results_cell_row Tryz.results26 _ _ w.heap.size 28 _ (0, 0) _ rfl o3 Tryz.underlying28 rfl (by kernel_rfl)
        exact ⟨⟨y1, y2, y3⟩, .ok f, rfl, ⟨T4, K4⟩, HT.out⟩
      · generalize hW : ((w1.setCell ⟨w.heap.size + 1, 0, none⟩ (.int .i64 y1)).setCell ⟨w.heap.size + 1, 1, none⟩ (.bool y2)).setCell ⟨w.heap.size + 1, 2, none⟩ (.int .i64 y3) = W
        have D3 : Hid (W.heap[(w.heap.size + 1)]? = some (.cells #[.int .i64 y1, .bool y2, .int .i64 y3] 28 (0, 0))) := by rw [← hW]; exact heap_set (heap_set (heap_set B1.out 0 _) 1 _) 2 _
        have A3 : Hid (W.heap[w.heap.size]? = some (.cells #[.int .i64 0, .bool false, .int .i64 0] 28 (0, 0))) := by rw [← hW]; exact heap_ot (heap_ot (heap_ot A1.out (by omega)) (by omega)) (by omega)
        have G3 : Hid (Grew w W) := by rw [← hW]; exact (((G1.out.set (p := ⟨w.heap.size + 1, 0, none⟩) (by simp) _).set (p := ⟨w.heap.size + 1, 1, none⟩) (by simp) _).set (p := ⟨w.heap.size + 1, 2, none⟩) (by simp) _)
        have hN : w.heap.size + 1 ≤ (w.heap.size + 1) := Nat.le_refl _
        clear hW
        have UK : Hid (D9 W b (.slice sa l.length cap) l (.ok p)) := H.out.grew G3.out
        have k1 := cell_of UK.out.st.1 1
        have y1z := free_of UK.out.st.1 1
        have d0z := cell_of D3.out 0
        have a0z := cell_of A3.out 0
        have x0z := free_of A3.out 0
        have d1z := cell_of D3.out 1
        have a1z := cell_of A3.out 1
        have x1z := free_of A3.out 1
        have d2z := cell_of D3.out 2
        have a2z := cell_of A3.out 2
        have x2z := free_of A3.out 2
        simp at k1 d0z a0z d1z a1z d2z a2z
        have hb1 : ¬ (b = (w.heap.size + 1)) := by omega
        have hb2 : ¬ ((w.heap.size + 1) = b) := by omega
        have hb3 : ¬ ((w.heap.size + 1) = w.heap.size) := by omega
        have hb4 : ¬ (w.heap.size = (w.heap.size + 1)) := by omega
        generalize (w.heap.size + 1) = N at *
        go_wp2_with fail
        have T1 : Turn [b] w (W.setCell ⟨b, 1, none⟩ (.int .i64 (f : Int))) := (G3.out.turn [b]).set (p := ⟨b, 1, none⟩) (Or.inl (by simp)) _
        have K1 : D9 (W.setCell ⟨b, 1, none⟩ (.int .i64 (f : Int))) b (.slice sa l.length cap) l (.ok f) := H.out.of T1 ⟨by rw [heap_set UK.out.st.1 1 _]; simp [rdg9], hq⟩
        have o0 : (W.setCell ⟨b, 1, none⟩ (.int .i64 (f : Int))).heap[w.heap.size]? = some (.cells #[.int .i64 0, .bool false, .int .i64 0] 28 (0, 0)) := heap_ot A3.out hn2
        have o1 := heap_set o0 0 (.int .i64 y1)
        have T2 := T1.set (p := ⟨w.heap.size, 0, none⟩) (Or.inr (Nat.le_refl _)) (.int .i64 y1)
        have K2 := H.out.setN T1 K1 w.heap.size 0 (Nat.le_refl _) (.int .i64 y1)
        have o2 := heap_set o1 1 (.bool y2)
        have T3 := T2.set (p := ⟨w.heap.size, 1, none⟩) (Or.inr (Nat.le_refl _)) (.bool y2)
        have K3 := H.out.setN T2 K2 w.heap.size 1 (Nat.le_refl _) (.bool y2)
        have o3 := heap_set o2 2 (.int .i64 y3)
        have T4 := T3.set (p := ⟨w.heap.size, 2, none⟩) (Or.inr (Nat.le_refl _)) (.int .i64 y3)
        have K4 := H.out.setN T3 K3 w.heap.size 2 (Nat.le_refl _) (.int .i64 y3)
        refine bodyPost_ret (v := .agg #[.int .i64 y1, .bool y2, .int .i64 y3]) ?_ rfl ?_
        · exact results_cell_row Tryz.results26 _ _ w.heap.size 28 _ (0, 0) _ rfl o3 Tryz.underlying28 rfl (by kernel_rfl)
        exact ⟨⟨y1, y2, y3⟩, .ok f, rfl, ⟨T4, K4⟩, HT.out⟩
    · have de : ((e : Int) != 0) = true := by simp; exact he
      go_enter Tryz.func26, Tryz.ntmps26
      go_wp2_with fail
      go_region_held3 (fun w' => w'.cell? ⟨b, 0, none⟩ = some (.slice sa l.length cap) ∧ w'.cell? ⟨b, 1, none⟩ = some (.int .i64 (p : Int))) (go_keep)
        (first
         | (go_at_call 59
            refine (C.out _ (by first | exact gx.out | exact g0.out.drew)).mono ?_
            rintro en w1 ⟨rfl, g1⟩
            have G1 : Hid (Grew w w1) := (by first | exact gx.out.trans g1 | exact g0.out.drew.trans g1)
            have A1 : Hid (w1.heap[w.heap.size]? = some (.cells #[.int .i64 0, .bool false, .int .i64 0] 28 (0, 0))) := (by first | exact (g1.turn []).other ax.out (by simp) | exact (g1.turn []).other a0.out (by simp))
            have j0 := cell_gr hlt c0 G1.out
            have j1 := cell_gr hlt c1 G1.out
            have hs0 := lt_of_obj A1.out
            have hn4 : ¬ (b = w1.heap.size) := by omega
            have hn5 : ¬ (w1.heap.size = b) := by omega
            first
              | (have B1 : Hid (w1.heap[w.heap.size + 1]? = some (.cells #[.int .i64 0, .bool false, .int .i64 0] 28 (0, 0))) := (g1.turn []).other bx.out (by simp)
                 have e0 := cell_of B1.out 0
                 have f0 := free_of B1.out 0
                 have e1 := cell_of B1.out 1
                 have f1 := free_of B1.out 1
                 have e2 := cell_of B1.out 2
                 have f2 := free_of B1.out 2
                 simp at e0 e1 e2
                 have hs1 := lt_of_obj B1.out)
              | skip
            clear g1))
      · generalize hW : w1.alloc (.cells #[.int .i64 y1, .bool y2, .int .i64 y3] 28) = W
        have A3 : Hid (W.heap[w.heap.size]? = some (.cells #[.int .i64 0, .bool false, .int .i64 0] 28 (0, 0))) := by rw [← hW]; exact heap_alloc A1.out _
        have G3 : Hid (Grew w W) := by rw [← hW]; exact G1.out.alloc _
        clear hW
        have UK : Hid (D9 W b (.slice sa l.length cap) l (.ok p)) := H.out.grew G3.out
        go_wp2_with fail
        refine (fail9_any UK.out f e he).mono ?_
        rintro en w4 ⟨rfl, t4, s4⟩
        have A4 : Hid (w4.heap[w.heap.size]? = some (.cells #[.int .i64 0, .bool false, .int .i64 0] 28 (0, 0))) := t4.other A3.out (by simp; exact hn2)
        have T1 : Hid (Turn [b] w w4) := (G3.out.turn _).trans t4
        have K1 : Hid (D9 w4 b (.slice sa l.length cap) l (.error (f, e))) := s4
        have a0z := cell_of A4.out 0
        have x0z := free_of A4.out 0
        have a1z := cell_of A4.out 1
        have x1z := free_of A4.out 1
        have a2z := cell_of A4.out 2
        have x2z := free_of A4.out 2
        simp at a0z a1z a2z
        clear t4 s4
        go_wp2_with fail
        have o0 := A4.out
        have T1 := T1.out
        have K1 := K1.out
        have o1 := heap_set o0 0 (.int .i64 0)
        have T2 := T1.set (p := ⟨w.heap.size, 0, none⟩) (Or.inr (Nat.le_refl _)) (.int .i64 0)
        have K2 := H.out.setN T1 K1 w.heap.size 0 (Nat.le_refl _) (.int .i64 0)
        have o2 := heap_set o1 1 (.bool false)
        have T3 := T2.set (p := ⟨w.heap.size, 1, none⟩) (Or.inr (Nat.le_refl _)) (.bool false)
        have K3 := H.out.setN T2 K2 w.heap.size 1 (Nat.le_refl _) (.bool false)
        have o3 := heap_set o2 2 (.int .i64 0)
        have T4 := T3.set (p := ⟨w.heap.size, 2, none⟩) (Or.inr (Nat.le_refl _)) (.int .i64 0)
        have K4 := H.out.setN T3 K3 w.heap.size 2 (Nat.le_refl _) (.int .i64 0)
        refine bodyPost_ret (v := .agg #[.int .i64 0, .bool false, .int .i64 0]) ?_ rfl ?_
        · exact results_cell_row Tryz.results26 _ _ w.heap.size 28 _ (0, 0) _ rfl o3 Tryz.underlying28 rfl (by kernel_rfl)
        exact ⟨(⟨0, false, 0⟩ : VT), .error (f, e), rfl, ⟨T4, K4⟩, HT.out⟩
      · generalize hW : ((w1.setCell ⟨w.heap.size + 1, 0, none⟩ (.int .i64 y1)).setCell ⟨w.heap.size + 1, 1, none⟩ (.bool y2)).setCell ⟨w.heap.size + 1, 2, none⟩ (.int .i64 y3) = W
        have A3 : Hid (W.heap[w.heap.size]? = some (.cells #[.int .i64 0, .bool false, .int .i64 0] 28 (0, 0))) := by rw [← hW]; exact heap_ot (heap_ot (heap_ot A1.out (by omega)) (by omega)) (by omega)
        have G3 : Hid (Grew w W) := by rw [← hW]; exact (((G1.out.set (p := ⟨w.heap.size + 1, 0, none⟩) (by simp) _).set (p := ⟨w.heap.size + 1, 1, none⟩) (by simp) _).set (p := ⟨w.heap.size + 1, 2, none⟩) (by simp) _)
        clear hW
        have UK : Hid (D9 W b (.slice sa l.length cap) l (.ok p)) := H.out.grew G3.out
        go_wp2_with fail
        refine (fail9_any UK.out f e he).mono ?_
        rintro en w4 ⟨rfl, t4, s4⟩
        have A4 : Hid (w4.heap[w.heap.size]? = some (.cells #[.int .i64 0, .bool false, .int .i64 0] 28 (0, 0))) := t4.other A3.out (by simp; exact hn2)
        have T1 : Hid (Turn [b] w w4) := (G3.out.turn _).trans t4
        have K1 : Hid (D9 w4 b (.slice sa l.length cap) l (.error (f, e))) := s4
        have a0z := cell_of A4.out 0
        have x0z := free_of A4.out 0
        have a1z := cell_of A4.out 1
        have x1z := free_of A4.out 1
        have a2z := cell_of A4.out 2
        have x2z := free_of A4.out 2
        simp at a0z a1z a2z
        clear t4 s4
        go_wp2_with fail
        have o0 := A4.out
        have T1 := T1.out
        have K1 := K1.out
        have o1 := heap_set o0 0 (.int .i64 0)
        have T2 := T1.set (p := ⟨w.heap.size, 0, none⟩) (Or.inr (Nat.le_refl _)) (.int .i64 0)
        have K2 := H.out.setN T1 K1 w.heap.size 0 (Nat.le_refl _) (.int .i64 0)
        have o2 := heap_set o1 1 (.bool false)
        have T3 := T2.set (p := ⟨w.heap.size, 1, none⟩) (Or.inr (Nat.le_refl _)) (.bool false)
        have K3 := H.out.setN T2 K2 w.heap.size 1 (Nat.le_refl _) (.bool false)
        have o3 := heap_set o2 2 (.int .i64 0)
        have T4 := T3.set (p := ⟨w.heap.size, 2, none⟩) (Or.inr (Nat.le_refl _)) (.int .i64 0)
        have K4 := H.out.setN T3 K3 w.heap.size 2 (Nat.le_refl _) (.int .i64 0)
        refine bodyPost_ret (v := .agg #[.int .i64 0, .bool false, .int .i64 0]) ?_ rfl ?_
        · exact results_cell_row Tryz.results26 _ _ w.heap.size 28 _ (0, 0) _ rfl o3 Tryz.underlying28 rfl (by kernel_rfl)
        exact ⟨(⟨0, false, 0⟩ : VT), .error (f, e), rfl, ⟨T4, K4⟩, HT.out⟩
set_option maxRecDepth 100000 in
set_option maxHeartbeats 2000000 in
theorem d9block_any {w : World} {b : Nat} {v : Value} {l : List Int} {st : Except (Nat × Nat) Nat} (h : D9 w b v l st) :
    Calls Tryz.prog 22 #[.pointer (some ⟨b, 0, none⟩)] w (An9 BK.v b v l w (runI (blockR l) st)) := by
  have H : Hid (D9 w b v l st) := h
  have hlt : b < w.heap.size := h.lt
  have hl := h.len
  have gx : Hid (Grew w ((w.alloc (.cells #[.int .i64 0, .int .i64 0, .bool false, .int .i64 0] 30)).alloc (.cells #[.int .i64 0, .int .i64 0, .bool false, .int .i64 0] 30)).drew) := (((Grew.refl w).alloc _).alloc _).drew
  have ax : Hid (((w.alloc (.cells #[.int .i64 0, .int .i64 0, .bool false, .int .i64 0] 30)).alloc (.cells #[.int .i64 0, .int .i64 0, .bool false, .int .i64 0] 30)).drew.heap[w.heap.size]? = some (.cells #[.int .i64 0, .int .i64 0, .bool false, .int .i64 0] 30 (0, 0))) := heap_alloc (heap_alloc_last w _) _
  have bx : Hid (((w.alloc (.cells #[.int .i64 0, .int .i64 0, .bool false, .int .i64 0] 30)).alloc (.cells #[.int .i64 0, .int .i64 0, .bool false, .int .i64 0] 30)).drew.heap[w.heap.size + 1]? = some (.cells #[.int .i64 0, .int .i64 0, .bool false, .int .i64 0] 30 (0, 0))) := by
    have := heap_alloc_last (w.alloc (.cells #[.int .i64 0, .int .i64 0, .bool false, .int .i64 0] 30)) (.cells #[.int .i64 0, .int .i64 0, .bool false, .int .i64 0] 30)
    rwa [alloc_size] at this
  have g0 : Hid (Grew w (w.alloc (.cells #[.int .i64 0, .int .i64 0, .bool false, .int .i64 0] 30))) := (Grew.refl w).alloc _
  have a0 : Hid ((w.alloc (.cells #[.int .i64 0, .int .i64 0, .bool false, .int .i64 0] 30)).drew.heap[w.heap.size]? = some (.cells #[.int .i64 0, .int .i64 0, .bool false, .int .i64 0] 30 (0, 0))) := heap_alloc_last w _
  have hn0 : ¬ (b = w.heap.size) := by omega
  have hn1 : ¬ (b = w.heap.size + 1) := by omega
  have hn2 : ¬ (w.heap.size = b) := by omega
  have hn3 : ¬ (w.heap.size + 1 = b) := by omega
  cases st with
  | error x =>
    obtain ⟨f, e⟩ := x
    obtain ⟨a0', ho, ha, he0⟩ := h.st
    have c3 := cell_of ho 3
    simp at c3
    have de : ((e : Int) != 0) = true := by simp; exact he0
    clear h ho
    go_enter Tryz.func22, Tryz.ntmps22
    go_wp2_with fail
    refine bodyPost_ret (v := .agg #[.int .i64 0, .int .i64 0, .bool false, .int .i64 0]) (by simp [results, Tryz.results22, go_sem]) rfl ?_
    refine ⟨(⟨0, ⟨0, false, 0⟩⟩ : BK), .error (f, e), rfl, ?_, rfl⟩
    first
      | exact ⟨(g0.out.turn _), H.out.grew g0.out⟩
      | (have gg : Grew w _ := ((((g0.out.set (p := ⟨w.heap.size, 0, none⟩) (Nat.le_refl _) _).set (p := ⟨w.heap.size, 1, none⟩) (Nat.le_refl _) _).set (p := ⟨w.heap.size, 2, none⟩) (Nat.le_refl _) _).set (p := ⟨w.heap.size, 3, none⟩) (Nat.le_refl _) _)
         exact ⟨gg.turn _, H.out.grew gg⟩)
  | ok p =>
    have c0 := cell_of h.st.1 0
    have c1 := cell_of h.st.1 1
    have c3 := cell_of h.st.1 3
    have hle := h.st.2
    simp at c0 c1 c3
    have C : Hid (∀ X, Grew w X → Calls Tryz.prog 57 #[v, .int .i64 (p : Int)] X fun en w' => en = .returned (ansB (topR (blockR l) (⟨0, ⟨0, false, 0⟩⟩ : BK) l (p : Int))) ∧ Grew X w') := fun X g => dtopB_any v l p X (g.reads h.rd) h.byt h.len
    obtain ⟨⟨y0, ⟨y1, y2, y3⟩⟩, f, e, st', ht, hti, hw⟩ := top_ways (z := (⟨0, ⟨0, false, 0⟩⟩ : BK)) (block_adv l) hle
    rw [ht] at C
    unfold ansB BK.v at C
    simp only at C
    have HT : Hid (TieI (blockR l p) ⟨y0, ⟨y1, y2, y3⟩⟩ st') := hti
    obtain ⟨sa, cap, hv⟩ := h.rd.len
    subst hv
    clear h ht hti
    rcases hw with ⟨rfl, rfl, hq⟩ | ⟨rfl, he⟩
    · go_enter Tryz.func22, Tryz.ntmps22
      go_wp2_with fail
      go_region_held3 (fun w' => w'.cell? ⟨b, 0, none⟩ = some (.slice sa l.length cap) ∧ w'.cell? ⟨b, 1, none⟩ = some (.int .i64 (p : Int))) (go_keep)
        (first
         | (go_at_call 57
            refine (C.out _ (by first | exact gx.out | exact g0.out.drew)).mono ?_
            rintro en w1 ⟨rfl, g1⟩
            have G1 : Hid (Grew w w1) := (by first | exact gx.out.trans g1 | exact g0.out.drew.trans g1)
            have A1 : Hid (w1.heap[w.heap.size]? = some (.cells #[.int .i64 0, .int .i64 0, .bool false, .int .i64 0] 30 (0, 0))) := (by first | exact (g1.turn []).other ax.out (by simp) | exact (g1.turn []).other a0.out (by simp))
            have j0 := cell_gr hlt c0 G1.out
            have j1 := cell_gr hlt c1 G1.out
            have hs0 := lt_of_obj A1.out
            have hn4 : ¬ (b = w1.heap.size) := by omega
            have hn5 : ¬ (w1.heap.size = b) := by omega
            first
              | (have B1 : Hid (w1.heap[w.heap.size + 1]? = some (.cells #[.int .i64 0, .int .i64 0, .bool false, .int .i64 0] 30 (0, 0))) := (g1.turn []).other bx.out (by simp)
                 have e0 := cell_of B1.out 0
                 have f0 := free_of B1.out 0
                 have e1 := cell_of B1.out 1
                 have f1 := free_of B1.out 1
                 have e2 := cell_of B1.out 2
                 have f2 := free_of B1.out 2
                 have e3 := cell_of B1.out 3
                 have f3 := free_of B1.out 3
                 simp at e0 e1 e2 e3
                 have hs1 := lt_of_obj B1.out)
              | skip
            clear g1))
      · generalize hW : w1.alloc (.cells #[.int .i64 y0, .int .i64 y1, .bool y2, .int .i64 y3] 30) = W
        have D3 : Hid (W.heap[w1.heap.size]? = some (.cells #[.int .i64 y0, .int .i64 y1, .bool y2, .int .i64 y3] 30 (0, 0))) := by rw [← hW]; exact heap_alloc_last _ _
        have A3 : Hid (W.heap[w.heap.size]? = some (.cells #[.int .i64 0, .int .i64 0, .bool false, .int .i64 0] 30 (0, 0))) := by rw [← hW]; exact heap_alloc A1.out _
        have G3 : Hid (Grew w W) := by rw [← hW]; exact G1.out.alloc _
        have hN : w.heap.size + 1 ≤ w1.heap.size := hs0
        clear hW
        have UK : Hid (D9 W b (.slice sa l.length cap) l (.ok p)) := H.out.grew G3.out
        have k1 := cell_of UK.out.st.1 1
        have y1z := free_of UK.out.st.1 1
        have d0z := cell_of D3.out 0
        have a0z := cell_of A3.out 0
        have x0z := free_of A3.out 0
        have d1z := cell_of D3.out 1
        have a1z := cell_of A3.out 1
        have x1z := free_of A3.out 1
        have d2z := cell_of D3.out 2
        have a2z := cell_of A3.out 2
        have x2z := free_of A3.out 2
        have d3z := cell_of D3.out 3
        have a3z := cell_of A3.out 3
        have x3z := free_of A3.out 3
        simp at k1 d0z a0z d1z a1z d2z a2z d3z a3z
        have hb1 : ¬ (b = w1.heap.size) := by omega
        have hb2 : ¬ (w1.heap.size = b) := by omega
        have hb3 : ¬ (w1.heap.size = w.heap.size) := by omega
        have hb4 : ¬ (w.heap.size = w1.heap.size) := by omega
        generalize w1.heap.size = N at *
        go_wp2_with fail
        have T1 : Turn [b] w (W.setCell ⟨b, 1, none⟩ (.int .i64 (f : Int))) := (G3.out.turn [b]).set (p := ⟨b, 1, none⟩) (Or.inl (by simp)) _
        have K1 : D9 (W.setCell ⟨b, 1, none⟩ (.int .i64 (f : Int))) b (.slice sa l.length cap) l (.ok f) := H.out.of T1 ⟨by rw [heap_set UK.out.st.1 1 _]; simp [rdg9], hq⟩
        have o0 : (W.setCell ⟨b, 1, none⟩ (.int .i64 (f : Int))).heap[w.heap.size]? = some (.cells #[.int .i64 0, .int .i64 0, .bool false, .int .i64 0] 30 (0, 0)) := heap_ot A3.out hn2
        have o1 := heap_set o0 0 (.int .i64 y0)
        have T2 := T1.set (p := ⟨w.heap.size, 0, none⟩) (Or.inr (Nat.le_refl _)) (.int .i64 y0)
        have K2 := H.out.setN T1 K1 w.heap.size 0 (Nat.le_refl _) (.int .i64 y0)
        have o2 := heap_set o1 1 (.int .i64 y1)
        have T3 := T2.set (p := ⟨w.heap.size, 1, none⟩) (Or.inr (Nat.le_refl _)) (.int .i64 y1)
        have K3 := H.out.setN T2 K2 w.heap.size 1 (Nat.le_refl _) (.int .i64 y1)
        have o3 := heap_set o2 2 (.bool y2)
        have T4 := T3.set (p := ⟨w.heap.size, 2, none⟩) (Or.inr (Nat.le_refl _)) (.bool y2)
        have K4 := H.out.setN T3 K3 w.heap.size 2 (Nat.le_refl _) (.bool y2)
        have o4 := heap_set o3 3 (.int .i64 y3)
        have T5 := T4.set (p := ⟨w.heap.size, 3, none⟩) (Or.inr (Nat.le_refl _)) (.int .i64 y3)
        have K5 := H.out.setN T4 K4 w.heap.size 3 (Nat.le_refl _) (.int .i64 y3)
        refine bodyPost_ret (v := .agg #[.int .i64 y0, .int .i64 y1, .bool y2, .int .i64 y3]) ?_ rfl ?_
        · exact results_cell_row Tryz.results22 _ _ w.heap.size 30 _ (0, 0) _ rfl o4 Tryz.underlying30 rfl (by kernel_rfl)
        exact ⟨⟨y0, ⟨y1, y2, y3⟩⟩, .ok f, rfl, ⟨T5, K5⟩, HT.out⟩
      · generalize hW : (((w1.setCell ⟨w.heap.size + 1, 0, none⟩ (.int .i64 y0)).setCell ⟨w.heap.size + 1, 1, none⟩ (.int .i64 y1)).setCell ⟨w.heap.size + 1, 2, none⟩ (.bool y2)).setCell ⟨w.heap.size + 1, 3, none⟩ (.int .i64 y3) = W
        have D3 : Hid (W.heap[(w.heap.size + 1)]? = some (.cells #[.int .i64 y0, .int .i64 y1, .bool y2, .int .i64 y3] 30 (0, 0))) := by rw [← hW]; exact heap_set (heap_set (heap_set (heap_set B1.out 0 _) 1 _) 2 _) 3 _
        have A3 : Hid (W.heap[w.heap.size]? = some (.cells #[.int .i64 0, .int .i64 0, .bool false, .int .i64 0] 30 (0, 0))) := by rw [← hW]; exact heap_ot (heap_ot (heap_ot (heap_ot A1.out (by omega)) (by omega)) (by omega)) (by omega)
        have G3 : Hid (Grew w W) := by rw [← hW]; exact ((((G1.out.set (p := ⟨w.heap.size + 1, 0, none⟩) (by simp) _).set (p := ⟨w.heap.size + 1, 1, none⟩) (by simp) _).set (p := ⟨w.heap.size + 1, 2, none⟩) (by simp) _).set (p := ⟨w.heap.size + 1, 3, none⟩) (by simp) _)
        have hN : w.heap.size + 1 ≤ (w.heap.size + 1) := Nat.le_refl _
        clear hW
        have UK : Hid (D9 W b (.slice sa l.length cap) l (.ok p)) := H.out.grew G3.out
        have k1 := cell_of UK.out.st.1 1
        have y1z := free_of UK.out.st.1 1
        have d0z := cell_of D3.out 0
        have a0z := cell_of A3.out 0
        have x0z := free_of A3.out 0
        have d1z := cell_of D3.out 1
        have a1z := cell_of A3.out 1
        have x1z := free_of A3.out 1
        have d2z := cell_of D3.out 2
        have a2z := cell_of A3.out 2
        have x2z := free_of A3.out 2
        have d3z := cell_of D3.out 3
        have a3z := cell_of A3.out 3
        have x3z := free_of A3.out 3
        simp at k1 d0z a0z d1z a1z d2z a2z d3z a3z
        have hb1 : ¬ (b = (w.heap.size + 1)) := by omega
        have hb2 : ¬ ((w.heap.size + 1) = b) := by omega
        have hb3 : ¬ ((w.heap.size + 1) = w.heap.size) := by omega
        have hb4 : ¬ (w.heap.size = (w.heap.size + 1)) := by omega
        generalize (w.heap.size + 1) = N at *
        go_wp2_with fail
        have T1 : Turn [b] w (W.setCell ⟨b, 1, none⟩ (.int .i64 (f : Int))) := (G3.out.turn [b]).set (p := ⟨b, 1, none⟩) (Or.inl (by simp)) _
        have K1 : D9 (W.setCell ⟨b, 1, none⟩ (.int .i64 (f : Int))) b (.slice sa l.length cap) l (.ok f) := H.out.of T1 ⟨by rw [heap_set UK.out.st.1 1 _]; simp [rdg9], hq⟩
        have o0 : (W.setCell ⟨b, 1, none⟩ (.int .i64 (f : Int))).heap[w.heap.size]? = some (.cells #[.int .i64 0, .int .i64 0, .bool false, .int .i64 0] 30 (0, 0)) := heap_ot A3.out hn2
        have o1 := heap_set o0 0 (.int .i64 y0)
        have T2 := T1.set (p := ⟨w.heap.size, 0, none⟩) (Or.inr (Nat.le_refl _)) (.int .i64 y0)
        have K2 := H.out.setN T1 K1 w.heap.size 0 (Nat.le_refl _) (.int .i64 y0)
        have o2 := heap_set o1 1 (.int .i64 y1)
        have T3 := T2.set (p := ⟨w.heap.size, 1, none⟩) (Or.inr (Nat.le_refl _)) (.int .i64 y1)
        have K3 := H.out.setN T2 K2 w.heap.size 1 (Nat.le_refl _) (.int .i64 y1)
        have o3 := heap_set o2 2 (.bool y2)
        have T4 := T3.set (p := ⟨w.heap.size, 2, none⟩) (Or.inr (Nat.le_refl _)) (.bool y2)
        have K4 := H.out.setN T3 K3 w.heap.size 2 (Nat.le_refl _) (.bool y2)
        have o4 := heap_set o3 3 (.int .i64 y3)
        have T5 := T4.set (p := ⟨w.heap.size, 3, none⟩) (Or.inr (Nat.le_refl _)) (.int .i64 y3)
        have K5 := H.out.setN T4 K4 w.heap.size 3 (Nat.le_refl _) (.int .i64 y3)
        refine bodyPost_ret (v := .agg #[.int .i64 y0, .int .i64 y1, .bool y2, .int .i64 y3]) ?_ rfl ?_
        · exact results_cell_row Tryz.results22 _ _ w.heap.size 30 _ (0, 0) _ rfl o4 Tryz.underlying30 rfl (by kernel_rfl)
        exact ⟨⟨y0, ⟨y1, y2, y3⟩⟩, .ok f, rfl, ⟨T5, K5⟩, HT.out⟩
    · have de : ((e : Int) != 0) = true := by simp; exact he
      go_enter Tryz.func22, Tryz.ntmps22
      go_wp2_with fail
      go_region_held3 (fun w' => w'.cell? ⟨b, 0, none⟩ = some (.slice sa l.length cap) ∧ w'.cell? ⟨b, 1, none⟩ = some (.int .i64 (p : Int))) (go_keep)
        (first
         | (go_at_call 57
            refine (C.out _ (by first | exact gx.out | exact g0.out.drew)).mono ?_
            rintro en w1 ⟨rfl, g1⟩
            have G1 : Hid (Grew w w1) := (by first | exact gx.out.trans g1 | exact g0.out.drew.trans g1)
            have A1 : Hid (w1.heap[w.heap.size]? = some (.cells #[.int .i64 0, .int .i64 0, .bool false, .int .i64 0] 30 (0, 0))) := (by first | exact (g1.turn []).other ax.out (by simp) | exact (g1.turn []).other a0.out (by simp))
            have j0 := cell_gr hlt c0 G1.out
            have j1 := cell_gr hlt c1 G1.out
            have hs0 := lt_of_obj A1.out
            have hn4 : ¬ (b = w1.heap.size) := by omega
            have hn5 : ¬ (w1.heap.size = b) := by omega
            first
              | (have B1 : Hid (w1.heap[w.heap.size + 1]? = some (.cells #[.int .i64 0, .int .i64 0, .bool false, .int .i64 0] 30 (0, 0))) := (g1.turn []).other bx.out (by simp)
                 have e0 := cell_of B1.out 0
                 have f0 := free_of B1.out 0
                 have e1 := cell_of B1.out 1
                 have f1 := free_of B1.out 1
                 have e2 := cell_of B1.out 2
                 have f2 := free_of B1.out 2
                 have e3 := cell_of B1.out 3
                 have f3 := free_of B1.out 3
                 simp at e0 e1 e2 e3
                 have hs1 := lt_of_obj B1.out)
              | skip
            clear g1))
      · generalize hW : w1.alloc (.cells #[.int .i64 y0, .int .i64 y1, .bool y2, .int .i64 y3] 30) = W
        have A3 : Hid (W.heap[w.heap.size]? = some (.cells #[.int .i64 0, .int .i64 0, .bool false, .int .i64 0] 30 (0, 0))) := by rw [← hW]; exact heap_alloc A1.out _
        have G3 : Hid (Grew w W) := by rw [← hW]; exact G1.out.alloc _
        clear hW
        have UK : Hid (D9 W b (.slice sa l.length cap) l (.ok p)) := H.out.grew G3.out
        go_wp2_with fail
        refine (fail9_any UK.out f e he).mono ?_
        rintro en w4 ⟨rfl, t4, s4⟩
        have A4 : Hid (w4.heap[w.heap.size]? = some (.cells #[.int .i64 0, .int .i64 0, .bool false, .int .i64 0] 30 (0, 0))) := t4.other A3.out (by simp; exact hn2)
        have T1 : Hid (Turn [b] w w4) := (G3.out.turn _).trans t4
        have K1 : Hid (D9 w4 b (.slice sa l.length cap) l (.error (f, e))) := s4
        have a0z := cell_of A4.out 0
        have x0z := free_of A4.out 0
        have a1z := cell_of A4.out 1
        have x1z := free_of A4.out 1
        have a2z := cell_of A4.out 2
        have x2z := free_of A4.out 2
        have a3z := cell_of A4.out 3
        have x3z := free_of A4.out 3
        simp at a0z a1z a2z a3z
        clear t4 s4
        go_wp2_with fail
        have o0 := A4.out
        have T1 := T1.out
        have K1 := K1.out
        have o1 := heap_set o0 0 (.int .i64 0)
        have T2 := T1.set (p := ⟨w.heap.size, 0, none⟩) (Or.inr (Nat.le_refl _)) (.int .i64 0)
        have K2 := H.out.setN T1 K1 w.heap.size 0 (Nat.le_refl _) (.int .i64 0)
        have o2 := heap_set o1 1 (.int .i64 0)
        have T3 := T2.set (p := ⟨w.heap.size, 1, none⟩) (Or.inr (Nat.le_refl _)) (.int .i64 0)
        have K3 := H.out.setN T2 K2 w.heap.size 1 (Nat.le_refl _) (.int .i64 0)
        have o3 := heap_set o2 2 (.bool false)
        have T4 := T3.set (p := ⟨w.heap.size, 2, none⟩) (Or.inr (Nat.le_refl _)) (.bool false)
        have K4 := H.out.setN T3 K3 w.heap.size 2 (Nat.le_refl _) (.bool false)
        have o4 := heap_set o3 3 (.int .i64 0)
        have T5 := T4.set (p := ⟨w.heap.size, 3, none⟩) (Or.inr (Nat.le_refl _)) (.int .i64 0)
        have K5 := H.out.setN T4 K4 w.heap.size 3 (Nat.le_refl _) (.int .i64 0)
        refine bodyPost_ret (v := .agg #[.int .i64 0, .int .i64 0, .bool false, .int .i64 0]) ?_ rfl ?_
        · exact results_cell_row Tryz.results22 _ _ w.heap.size 30 _ (0, 0) _ rfl o4 Tryz.underlying30 rfl (by kernel_rfl)
        exact ⟨(⟨0, ⟨0, false, 0⟩⟩ : BK), .error (f, e), rfl, ⟨T5, K5⟩, HT.out⟩
      · generalize hW : (((w1.setCell ⟨w.heap.size + 1, 0, none⟩ (.int .i64 y0)).setCell ⟨w.heap.size + 1, 1, none⟩ (.int .i64 y1)).setCell ⟨w.heap.size + 1, 2, none⟩ (.bool y2)).setCell ⟨w.heap.size + 1, 3, none⟩ (.int .i64 y3) = W
        have A3 : Hid (W.heap[w.heap.size]? = some (.cells #[.int .i64 0, .int .i64 0, .bool false, .int .i64 0] 30 (0, 0))) := by rw [← hW]; exact heap_ot (heap_ot (heap_ot (heap_ot A1.out (by omega)) (by omega)) (by omega)) (by omega)
        have G3 : Hid (Grew w W) := by rw [← hW]; exact ((((G1.out.set (p := ⟨w.heap.size + 1, 0, none⟩) (by simp) _).set (p := ⟨w.heap.size + 1, 1, none⟩) (by simp) _).set (p := ⟨w.heap.size + 1, 2, none⟩) (by simp) _).set (p := ⟨w.heap.size + 1, 3, none⟩) (by simp) _)
        clear hW
        have UK : Hid (D9 W b (.slice sa l.length cap) l (.ok p)) := H.out.grew G3.out
        go_wp2_with fail
        refine (fail9_any UK.out f e he).mono ?_
        rintro en w4 ⟨rfl, t4, s4⟩
        have A4 : Hid (w4.heap[w.heap.size]? = some (.cells #[.int .i64 0, .int .i64 0, .bool false, .int .i64 0] 30 (0, 0))) := t4.other A3.out (by simp; exact hn2)
        have T1 : Hid (Turn [b] w w4) := (G3.out.turn _).trans t4
        have K1 : Hid (D9 w4 b (.slice sa l.length cap) l (.error (f, e))) := s4
        have a0z := cell_of A4.out 0
        have x0z := free_of A4.out 0
        have a1z := cell_of A4.out 1
        have x1z := free_of A4.out 1
        have a2z := cell_of A4.out 2
        have x2z := free_of A4.out 2
        have a3z := cell_of A4.out 3
        have x3z := free_of A4.out 3
        simp at a0z a1z a2z a3z
        clear t4 s4
        go_wp2_with fail
        have o0 := A4.out
        have T1 := T1.out
        have K1 := K1.out
        have o1 := heap_set o0 0 (.int .i64 0)
        have T2 := T1.set (p := ⟨w.heap.size, 0, none⟩) (Or.inr (Nat.le_refl _)) (.int .i64 0)
        have K2 := H.out.setN T1 K1 w.heap.size 0 (Nat.le_refl _) (.int .i64 0)
        have o2 := heap_set o1 1 (.int .i64 0)
        have T3 := T2.set (p := ⟨w.heap.size, 1, none⟩) (Or.inr (Nat.le_refl _)) (.int .i64 0)
        have K3 := H.out.setN T2 K2 w.heap.size 1 (Nat.le_refl _) (.int .i64 0)
        have o3 := heap_set o2 2 (.bool false)
        have T4 := T3.set (p := ⟨w.heap.size, 2, none⟩) (Or.inr (Nat.le_refl _)) (.bool false)
        have K4 := H.out.setN T3 K3 w.heap.size 2 (Nat.le_refl _) (.bool false)
        have o4 := heap_set o3 3 (.int .i64 0)
        have T5 := T4.set (p := ⟨w.heap.size, 3, none⟩) (Or.inr (Nat.le_refl _)) (.int .i64 0)
        have K5 := H.out.setN T4 K4 w.heap.size 3 (Nat.le_refl _) (.int .i64 0)
        refine bodyPost_ret (v := .agg #[.int .i64 0, .int .i64 0, .bool false, .int .i64 0]) ?_ rfl ?_
        · exact results_cell_row Tryz.results22 _ _ w.heap.size 30 _ (0, 0) _ rfl o4 Tryz.underlying30 rfl (by kernel_rfl)
        exact ⟨(⟨0, ⟨0, false, 0⟩⟩ : BK), .error (f, e), rfl, ⟨T5, K5⟩, HT.out⟩
end Go.Proofs.YtohapnninjdlfaaGreatDoor
