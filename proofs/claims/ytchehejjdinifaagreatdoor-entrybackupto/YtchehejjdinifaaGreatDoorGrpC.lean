/-
  The walk of the cursor that reads composite types; no statement is proved here.
-/
import Derived.Test.YtchehejjdinifaaGreatDoorTopV
namespace Go.Proofs.YtchehejjdinifaaGreatDoor
open Go.RowKit
set_option linter.unusedVariables false
set_option linter.unusedSimpArgs false
set_option linter.constructorNameAsVariable false

theorem mean_comp : ∀ c : _root_.Fin 256, (mean (c.1 : Int)).1 = 6 → (mean (c.1 : Int)).2 ≠ 1 → (mean (c.1 : Int)).2 ≠ 2 → (mean (c.1 : Int)).2 = 3 := by decide +kernel
theorem byte_comp {c : Int} (hc : 0 ≤ c ∧ c ≤ 255) : (mean c).1 = 6 → (mean c).2 ≠ 1 → (mean c).2 ≠ 2 → (mean c).2 = 3 := by
  have := mean_comp ⟨c.toNat, by omega⟩
  simp only at this
  rwa [show ((c.toNat : Nat) : Int) = c by omega] at this
set_option maxRecDepth 100000 in
set_option maxHeartbeats 1000000 in
theorem compType_any {w : World} {b : Nat} {v : Value} {l : List Int} {p : Nat} (h : CU w b v l p) :
    Calls Tryz.prog 42 #[.pointer (some ⟨b, 0, none⟩)] w (AnsX CompC b v l w (compR l p)) := by
  have H : Hid (CU w b v l p) := h
  have hb : b < w.heap.size := h.lt
  have hl := h.len
  have hle := h.le
  clear h
  by_cases hp : p < l.length
  · unfold compR
    rw [atR_in hp]
    have P : Hid (∀ w', CU w' b v l p → Calls Tryz.prog 25 #[.pointer (some ⟨b, 0, none⟩)] w' fun en w'' => en = .returned (.int .u8 (l.getD p 0)) ∧ Grew w' w'') := fun w' u => peek_ok u hp
    have M : Hid (∀ w', CU w' b v l p → Calls Tryz.prog 73 #[.int .u8 (l.getD p 0)] w' fun en w'' => en = .returned (.tuple #[.int .i64 (mean (l.getD p 0)).1, .int .i64 (mean (l.getD p 0)).2]) ∧ Grew w' w'') := fun w' u => meaning_any _ _ u.tab
    have HM : (mean (l.getD p 0)).1 = 6 → (mean (l.getD p 0)).2 ≠ 1 → (mean (l.getD p 0)).2 ≠ 2 → (mean (l.getD p 0)).2 = 3 := byte_comp (H.out.byt p)
    generalize l.getD p 0 = c at *
    generalize hm : mean c = m at *
    obtain ⟨k, m⟩ := m
    simp only at M HM ⊢
    clear hm
    by_cases hk6 : k = 6
    · subst hk6
      rw [if_neg (by simp)]
      by_cases hm1 : m = 1
      · subst hm1
        rw [if_pos rfl]
        cases hx : valsR l (p + 1) with
        | error y =>
          obtain ⟨f, e⟩ := y
          simp only [thenR]
          have U0 : Hid (CU (w.alloc (.cells #[.int .i64 0, .slice none 0 0, .slice none 0 0, .slice none 0 0] 63)) b v l p) := H.out.grew ((Grew.refl w).alloc _)
          have T0 : Hid (Turn [b] w (w.alloc (.cells #[.int .i64 0, .slice none 0 0, .slice none 0 0, .slice none 0 0] 63))) := (Turn.refl [b] w).alloc _
          have N0 : Hid ((w.alloc (.cells #[.int .i64 0, .slice none 0 0, .slice none 0 0, .slice none 0 0] 63)).heap[w.heap.size]? = some (.cells #[.int .i64 0, .slice none 0 0, .slice none 0 0, .slice none 0 0] 63 (0, 0))) := heap_alloc_last _ _
          go_enter Tryz.func42, Tryz.ntmps42
          go_wp2_with fail
          refine (P.out _ U0.out).mono ?_
          rintro en w1 ⟨rfl, g1⟩
          have T1 : Hid (Turn [b] w w1) := T0.out.trans (g1.turn _)
          have U1 : Hid (CU w1 b v l p) := U0.out.grew g1
          have N1 : Hid (w1.heap[w.heap.size]? = some (.cells #[.int .i64 0, .slice none 0 0, .slice none 0 0, .slice none 0 0] 63 (0, 0))) := (g1.turn []).other N0.out (by simp)
          clear g1 T0 U0 N0
          go_wp2_with fail
          refine (M.out _ U1.out).mono ?_
          rintro en w2 ⟨rfl, g2⟩
          have T2 : Hid (Turn [b] w w2) := T1.out.trans (g2.turn _)
          have U2 : Hid (CU w2 b v l p) := U1.out.grew g2
          have N2 : Hid (w2.heap[w.heap.size]? = some (.cells #[.int .i64 0, .slice none 0 0, .slice none 0 0, .slice none 0 0] 63 (0, 0))) := (g2.turn []).other N1.out (by simp)
          clear g2 T1 U1 N1
          have c1_2 := U2.out.c1
          have z1_2 := U2.out.z1
          go_wp2_with fail
          generalize hw3 : w2.setCell { block := b, off := 1 } (Value.int IntKind.i64 ((p : Int) + 1)) = w3
          have T3 : Hid (Turn [b] w w3) := by rw [← hw3]; exact T2.out.set (Or.inl (by simp)) _
          have u3 : CU w3 b v l (p + 1) := by rw [← hw3]; have := U2.out.set1 (q := p + 1) (by omega); simpa using this
          have U3 : Hid (CU w3 b v l (p + 1)) := u3
          clear u3
          have N3 : Hid (w3.heap[w.heap.size]? = some (.cells #[.int .i64 0, .slice none 0 0, .slice none 0 0, .slice none 0 0] 63 (0, 0))) := by rw [← hw3]; exact heap_other N2.out (by simp; omega) _
          clear hw3 c1_2 z1_2 T2 U2 N2
          refine (AnsV.er (valTypes_any U3.out) hx).mono ?_
          rintro en w4 ⟨rfl, t4⟩
          have T4 : Hid (Turn [b] w w4) := T3.out.trans t4
          clear t4
          go_wp2_with fail
          exact ⟨rfl, rfl, T4.out⟩
        | ok y =>
          obtain ⟨ps, q⟩ := y
          simp only [thenR]
          cases hy : valsR l q with
          | error y =>
            obtain ⟨f, e⟩ := y
            simp only [mapR]
            have U0 : Hid (CU (w.alloc (.cells #[.int .i64 0, .slice none 0 0, .slice none 0 0, .slice none 0 0] 63)) b v l p) := H.out.grew ((Grew.refl w).alloc _)
            have T0 : Hid (Turn [b] w (w.alloc (.cells #[.int .i64 0, .slice none 0 0, .slice none 0 0, .slice none 0 0] 63))) := (Turn.refl [b] w).alloc _
            have N0 : Hid ((w.alloc (.cells #[.int .i64 0, .slice none 0 0, .slice none 0 0, .slice none 0 0] 63)).heap[w.heap.size]? = some (.cells #[.int .i64 0, .slice none 0 0, .slice none 0 0, .slice none 0 0] 63 (0, 0))) := heap_alloc_last _ _
            go_enter Tryz.func42, Tryz.ntmps42
            go_wp2_with fail
            refine (P.out _ U0.out).mono ?_
            rintro en w1 ⟨rfl, g1⟩
            have T1 : Hid (Turn [b] w w1) := T0.out.trans (g1.turn _)
            have U1 : Hid (CU w1 b v l p) := U0.out.grew g1
            have N1 : Hid (w1.heap[w.heap.size]? = some (.cells #[.int .i64 0, .slice none 0 0, .slice none 0 0, .slice none 0 0] 63 (0, 0))) := (g1.turn []).other N0.out (by simp)
            clear g1 T0 U0 N0
            go_wp2_with fail
            refine (M.out _ U1.out).mono ?_
            rintro en w2 ⟨rfl, g2⟩
            have T2 : Hid (Turn [b] w w2) := T1.out.trans (g2.turn _)
            have U2 : Hid (CU w2 b v l p) := U1.out.grew g2
            have N2 : Hid (w2.heap[w.heap.size]? = some (.cells #[.int .i64 0, .slice none 0 0, .slice none 0 0, .slice none 0 0] 63 (0, 0))) := (g2.turn []).other N1.out (by simp)
            clear g2 T1 U1 N1
            have c1_2 := U2.out.c1
            have z1_2 := U2.out.z1
            go_wp2_with fail
            generalize hw3 : w2.setCell { block := b, off := 1 } (Value.int IntKind.i64 ((p : Int) + 1)) = w3
            have T3 : Hid (Turn [b] w w3) := by rw [← hw3]; exact T2.out.set (Or.inl (by simp)) _
            have u3 : CU w3 b v l (p + 1) := by rw [← hw3]; have := U2.out.set1 (q := p + 1) (by omega); simpa using this
            have U3 : Hid (CU w3 b v l (p + 1)) := u3
            clear u3
            have N3 : Hid (w3.heap[w.heap.size]? = some (.cells #[.int .i64 0, .slice none 0 0, .slice none 0 0, .slice none 0 0] 63 (0, 0))) := by rw [← hw3]; exact heap_other N2.out (by simp; omega) _
            clear hw3 c1_2 z1_2 T2 U2 N2
            refine (AnsV.ok (valTypes_any U3.out) hx).mono ?_
            rintro en w4 ⟨rv0, rfl, r4, t4, u4⟩
            have T4 : Hid (Turn [b] w w4) := T3.out.trans t4
            have U4 : Hid (CU w4 b v l q) := u4
            have N4 : Hid (w4.heap[w.heap.size]? = some (.cells #[.int .i64 0, .slice none 0 0, .slice none 0 0, .slice none 0 0] 63 (0, 0))) := t4.other N3.out (by simp; omega)
            have R0_4 : Hid (RowV w.heap.size w4 rv0 ps) := row_low r4 T3.out.size
            obtain ⟨ra0, rc0, hrv0⟩ := row_one r4
            subst hrv0
            clear r4
            clear t4 u4 T3 U3 N3
            go_wp2_with fail
            refine (AnsV.er (valTypes_any U4.out) hy).mono ?_
            rintro en w5 ⟨rfl, t5⟩
            have T5 : Hid (Turn [b] w w5) := T4.out.trans t5
            clear t5
            go_wp2_with fail
            exact ⟨rfl, rfl, T5.out⟩
          | ok y =>
            obtain ⟨rs, r⟩ := y
            simp only [mapR]
            have U0 : Hid (CU (w.alloc (.cells #[.int .i64 0, .slice none 0 0, .slice none 0 0, .slice none 0 0] 63)) b v l p) := H.out.grew ((Grew.refl w).alloc _)
            have T0 : Hid (Turn [b] w (w.alloc (.cells #[.int .i64 0, .slice none 0 0, .slice none 0 0, .slice none 0 0] 63))) := (Turn.refl [b] w).alloc _
            have N0 : Hid ((w.alloc (.cells #[.int .i64 0, .slice none 0 0, .slice none 0 0, .slice none 0 0] 63)).heap[w.heap.size]? = some (.cells #[.int .i64 0, .slice none 0 0, .slice none 0 0, .slice none 0 0] 63 (0, 0))) := heap_alloc_last _ _
            go_enter Tryz.func42, Tryz.ntmps42
            go_wp2_with fail
            refine (P.out _ U0.out).mono ?_
            rintro en w1 ⟨rfl, g1⟩
            have T1 : Hid (Turn [b] w w1) := T0.out.trans (g1.turn _)
            have U1 : Hid (CU w1 b v l p) := U0.out.grew g1
            have N1 : Hid (w1.heap[w.heap.size]? = some (.cells #[.int .i64 0, .slice none 0 0, .slice none 0 0, .slice none 0 0] 63 (0, 0))) := (g1.turn []).other N0.out (by simp)
            clear g1 T0 U0 N0
            go_wp2_with fail
            refine (M.out _ U1.out).mono ?_
            rintro en w2 ⟨rfl, g2⟩
            have T2 : Hid (Turn [b] w w2) := T1.out.trans (g2.turn _)
            have U2 : Hid (CU w2 b v l p) := U1.out.grew g2
            have N2 : Hid (w2.heap[w.heap.size]? = some (.cells #[.int .i64 0, .slice none 0 0, .slice none 0 0, .slice none 0 0] 63 (0, 0))) := (g2.turn []).other N1.out (by simp)
            clear g2 T1 U1 N1
            have c1_2 := U2.out.c1
            have z1_2 := U2.out.z1
            go_wp2_with fail
            generalize hw3 : w2.setCell { block := b, off := 1 } (Value.int IntKind.i64 ((p : Int) + 1)) = w3
            have T3 : Hid (Turn [b] w w3) := by rw [← hw3]; exact T2.out.set (Or.inl (by simp)) _
            have u3 : CU w3 b v l (p + 1) := by rw [← hw3]; have := U2.out.set1 (q := p + 1) (by omega); simpa using this
            have U3 : Hid (CU w3 b v l (p + 1)) := u3
            clear u3
            have N3 : Hid (w3.heap[w.heap.size]? = some (.cells #[.int .i64 0, .slice none 0 0, .slice none 0 0, .slice none 0 0] 63 (0, 0))) := by rw [← hw3]; exact heap_other N2.out (by simp; omega) _
            clear hw3 c1_2 z1_2 T2 U2 N2
            refine (AnsV.ok (valTypes_any U3.out) hx).mono ?_
            rintro en w4 ⟨rv0, rfl, r4, t4, u4⟩
            have T4 : Hid (Turn [b] w w4) := T3.out.trans t4
            have U4 : Hid (CU w4 b v l q) := u4
            have N4 : Hid (w4.heap[w.heap.size]? = some (.cells #[.int .i64 0, .slice none 0 0, .slice none 0 0, .slice none 0 0] 63 (0, 0))) := t4.other N3.out (by simp; omega)
            have R0_4 : Hid (RowV w.heap.size w4 rv0 ps) := row_low r4 T3.out.size
            obtain ⟨ra0, rc0, hrv0⟩ := row_one r4
            subst hrv0
            clear r4
            clear t4 u4 T3 U3 N3
            go_wp2_with fail
            refine (AnsV.ok (valTypes_any U4.out) hy).mono ?_
            rintro en w5 ⟨rv1, rfl, r5, t5, u5⟩
            have T5 : Hid (Turn [b] w w5) := T4.out.trans t5
            have U5 : Hid (CU w5 b v l r) := u5
            have R0_5 : Hid (RowV w.heap.size w5 (.slice ra0 ps.length rc0) ps) := row_turn R0_4.out t5 (by intro x hx; simp at hx; subst hx; exact NoT.of U4.out.obj (by decide))
            clear R0_4
            have N5 : Hid (w5.heap[w.heap.size]? = some (.cells #[.int .i64 0, .slice none 0 0, .slice none 0 0, .slice none 0 0] 63 (0, 0))) := t5.other N4.out (by simp; omega)
            have R1_5 : Hid (RowV w.heap.size w5 rv1 rs) := row_low r5 T4.out.size
            obtain ⟨ra1, rc1, hrv1⟩ := row_one r5
            subst hrv1
            clear r5
            clear t5 u5 T4 U4 N4
            have hne : ¬ b = w.heap.size := by omega
            have n0 := cell_of N5.out 0
            have y0 := free_of N5.out 0
            have n1 := cell_of N5.out 1
            have y1 := free_of N5.out 1
            have n2 := cell_of N5.out 2
            have y2 := free_of N5.out 2
            have n3 := cell_of N5.out 3
            have y3 := free_of N5.out 3
            simp at n0 n1 n2 n3
            go_wp2_with fail
            refine bodyPost_ret (v := .agg #[.int .i64 1, .slice ra0 ps.length rc0, .slice ra1 rs.length rc1, .slice none 0 0]) (by simp [results, Tryz.results42, go_sem, n0, n1, n2, n3]) rfl ?_
            have hNT : ∀ (e : TypeId), 63 ≠ e → ∀ y ∈ [w.heap.size], NoT w5 y e := fun e he y hy => by simp at hy; subst hy; exact NoT.of N5.out he
            exact ⟨[.int .i64 1, .slice ra0 ps.length rc0, .slice ra1 rs.length rc1, .slice none 0 0], rfl, ⟨_, _, _, rfl, row_turn R0_5.out (((((Turn.refl [w.heap.size] w5).set (p := ⟨w.heap.size, 0, none⟩) (Or.inl (by simp)) _).set (p := ⟨w.heap.size, 1, none⟩) (Or.inl (by simp)) _).set (p := ⟨w.heap.size, 2, none⟩) (Or.inl (by simp)) _).set (p := ⟨w.heap.size, 3, none⟩) (Or.inl (by simp)) _) (hNT 26 (by decide)), row_turn R1_5.out (((((Turn.refl [w.heap.size] w5).set (p := ⟨w.heap.size, 0, none⟩) (Or.inl (by simp)) _).set (p := ⟨w.heap.size, 1, none⟩) (Or.inl (by simp)) _).set (p := ⟨w.heap.size, 2, none⟩) (Or.inl (by simp)) _).set (p := ⟨w.heap.size, 3, none⟩) (Or.inl (by simp)) _) (hNT 26 (by decide)), RowF.nil _ _⟩, ((((((Fin.mk_ T5.out U5.out)).set H.out (Nat.le_refl _)).set H.out (Nat.le_refl _)).set H.out (Nat.le_refl _)).set H.out (Nat.le_refl _))⟩
      · rw [if_neg hm1]
        have b1 : (m == 1) = false := by simpa using hm1
        by_cases hm2 : m = 2
        · subst hm2
          rw [if_pos rfl]
          cases hx : listR 10000 (fieldR l) l (p + 1) with
          | error y =>
            obtain ⟨f, e⟩ := y
            simp only [mapR]
            have U0 : Hid (CU (w.alloc (.cells #[.int .i64 0, .slice none 0 0, .slice none 0 0, .slice none 0 0] 63)) b v l p) := H.out.grew ((Grew.refl w).alloc _)
            have T0 : Hid (Turn [b] w (w.alloc (.cells #[.int .i64 0, .slice none 0 0, .slice none 0 0, .slice none 0 0] 63))) := (Turn.refl [b] w).alloc _
            have N0 : Hid ((w.alloc (.cells #[.int .i64 0, .slice none 0 0, .slice none 0 0, .slice none 0 0] 63)).heap[w.heap.size]? = some (.cells #[.int .i64 0, .slice none 0 0, .slice none 0 0, .slice none 0 0] 63 (0, 0))) := heap_alloc_last _ _
            go_enter Tryz.func42, Tryz.ntmps42
            go_wp2_with fail
            refine (P.out _ U0.out).mono ?_
            rintro en w1 ⟨rfl, g1⟩
            have T1 : Hid (Turn [b] w w1) := T0.out.trans (g1.turn _)
            have U1 : Hid (CU w1 b v l p) := U0.out.grew g1
            have N1 : Hid (w1.heap[w.heap.size]? = some (.cells #[.int .i64 0, .slice none 0 0, .slice none 0 0, .slice none 0 0] 63 (0, 0))) := (g1.turn []).other N0.out (by simp)
            clear g1 T0 U0 N0
            go_wp2_with fail
            refine (M.out _ U1.out).mono ?_
            rintro en w2 ⟨rfl, g2⟩
            have T2 : Hid (Turn [b] w w2) := T1.out.trans (g2.turn _)
            have U2 : Hid (CU w2 b v l p) := U1.out.grew g2
            have N2 : Hid (w2.heap[w.heap.size]? = some (.cells #[.int .i64 0, .slice none 0 0, .slice none 0 0, .slice none 0 0] 63 (0, 0))) := (g2.turn []).other N1.out (by simp)
            clear g2 T1 U1 N1
            have c1_2 := U2.out.c1
            have z1_2 := U2.out.z1
            go_wp2_with fail
            generalize hw3 : w2.setCell { block := b, off := 1 } (Value.int IntKind.i64 ((p : Int) + 1)) = w3
            have T3 : Hid (Turn [b] w w3) := by rw [← hw3]; exact T2.out.set (Or.inl (by simp)) _
            have u3 : CU w3 b v l (p + 1) := by rw [← hw3]; have := U2.out.set1 (q := p + 1) (by omega); simpa using this
            have U3 : Hid (CU w3 b v l (p + 1)) := u3
            clear u3
            have N3 : Hid (w3.heap[w.heap.size]? = some (.cells #[.int .i64 0, .slice none 0 0, .slice none 0 0, .slice none 0 0] 63 (0, 0))) := by rw [← hw3]; exact heap_other N2.out (by simp; omega) _
            clear hw3 c1_2 z1_2 T2 U2 N2
            refine (AnsF.er (listF_any U3.out 10000 (by decide) (by decide)) hx).mono ?_
            rintro en w4 ⟨rfl, t4⟩
            have T4 : Hid (Turn [b] w w4) := T3.out.trans t4
            clear t4
            go_wp2_with fail
            exact ⟨rfl, rfl, T4.out⟩
          | ok y =>
            obtain ⟨fs, q⟩ := y
            simp only [mapR]
            have U0 : Hid (CU (w.alloc (.cells #[.int .i64 0, .slice none 0 0, .slice none 0 0, .slice none 0 0] 63)) b v l p) := H.out.grew ((Grew.refl w).alloc _)
            have T0 : Hid (Turn [b] w (w.alloc (.cells #[.int .i64 0, .slice none 0 0, .slice none 0 0, .slice none 0 0] 63))) := (Turn.refl [b] w).alloc _
            have N0 : Hid ((w.alloc (.cells #[.int .i64 0, .slice none 0 0, .slice none 0 0, .slice none 0 0] 63)).heap[w.heap.size]? = some (.cells #[.int .i64 0, .slice none 0 0, .slice none 0 0, .slice none 0 0] 63 (0, 0))) := heap_alloc_last _ _
            go_enter Tryz.func42, Tryz.ntmps42
            go_wp2_with fail
            refine (P.out _ U0.out).mono ?_
            rintro en w1 ⟨rfl, g1⟩
            have T1 : Hid (Turn [b] w w1) := T0.out.trans (g1.turn _)
            have U1 : Hid (CU w1 b v l p) := U0.out.grew g1
            have N1 : Hid (w1.heap[w.heap.size]? = some (.cells #[.int .i64 0, .slice none 0 0, .slice none 0 0, .slice none 0 0] 63 (0, 0))) := (g1.turn []).other N0.out (by simp)
            clear g1 T0 U0 N0
            go_wp2_with fail
            refine (M.out _ U1.out).mono ?_
            rintro en w2 ⟨rfl, g2⟩
            have T2 : Hid (Turn [b] w w2) := T1.out.trans (g2.turn _)
            have U2 : Hid (CU w2 b v l p) := U1.out.grew g2
            have N2 : Hid (w2.heap[w.heap.size]? = some (.cells #[.int .i64 0, .slice none 0 0, .slice none 0 0, .slice none 0 0] 63 (0, 0))) := (g2.turn []).other N1.out (by simp)
            clear g2 T1 U1 N1
            have c1_2 := U2.out.c1
            have z1_2 := U2.out.z1
            go_wp2_with fail
            generalize hw3 : w2.setCell { block := b, off := 1 } (Value.int IntKind.i64 ((p : Int) + 1)) = w3
            have T3 : Hid (Turn [b] w w3) := by rw [← hw3]; exact T2.out.set (Or.inl (by simp)) _
            have u3 : CU w3 b v l (p + 1) := by rw [← hw3]; have := U2.out.set1 (q := p + 1) (by omega); simpa using this
            have U3 : Hid (CU w3 b v l (p + 1)) := u3
            clear u3
            have N3 : Hid (w3.heap[w.heap.size]? = some (.cells #[.int .i64 0, .slice none 0 0, .slice none 0 0, .slice none 0 0] 63 (0, 0))) := by rw [← hw3]; exact heap_other N2.out (by simp; omega) _
            clear hw3 c1_2 z1_2 T2 U2 N2
            refine (AnsF.ok (listF_any U3.out 10000 (by decide) (by decide)) hx).mono ?_
            rintro en w4 ⟨rv0, rfl, r4, t4, u4⟩
            have T4 : Hid (Turn [b] w w4) := T3.out.trans t4
            have U4 : Hid (CU w4 b v l q) := u4
            have N4 : Hid (w4.heap[w.heap.size]? = some (.cells #[.int .i64 0, .slice none 0 0, .slice none 0 0, .slice none 0 0] 63 (0, 0))) := t4.other N3.out (by simp; omega)
            have R0_4 : Hid (RowF w.heap.size w4 rv0 fs) := row_low r4 T3.out.size
            obtain ⟨ra0, rc0, hrv0⟩ := row_one r4
            subst hrv0
            clear r4
            clear t4 u4 T3 U3 N3
            have hne : ¬ b = w.heap.size := by omega
            have n0 := cell_of N4.out 0
            have y0 := free_of N4.out 0
            have n1 := cell_of N4.out 1
            have y1 := free_of N4.out 1
            have n2 := cell_of N4.out 2
            have y2 := free_of N4.out 2
            have n3 := cell_of N4.out 3
            have y3 := free_of N4.out 3
            simp at n0 n1 n2 n3
            go_wp2_with fail
            refine bodyPost_ret (v := .agg #[.int .i64 2, .slice none 0 0, .slice none 0 0, .slice ra0 fs.length rc0]) (by simp [results, Tryz.results42, go_sem, n0, n1, n2, n3]) rfl ?_
            have hNT : ∀ (e : TypeId), 63 ≠ e → ∀ y ∈ [w.heap.size], NoT w4 y e := fun e he y hy => by simp at hy; subst hy; exact NoT.of N4.out he
            exact ⟨[.int .i64 2, .slice none 0 0, .slice none 0 0, .slice ra0 fs.length rc0], rfl, ⟨_, _, _, rfl, RowV.nil _ _, RowV.nil _ _, row_turn R0_4.out (((((Turn.refl [w.heap.size] w4).set (p := ⟨w.heap.size, 0, none⟩) (Or.inl (by simp)) _).set (p := ⟨w.heap.size, 1, none⟩) (Or.inl (by simp)) _).set (p := ⟨w.heap.size, 2, none⟩) (Or.inl (by simp)) _).set (p := ⟨w.heap.size, 3, none⟩) (Or.inl (by simp)) _) (hNT 107 (by decide))⟩, ((((((Fin.mk_ T4.out U4.out)).set H.out (Nat.le_refl _)).set H.out (Nat.le_refl _)).set H.out (Nat.le_refl _)).set H.out (Nat.le_refl _))⟩
        · rw [if_neg hm2]
          have b2 : (m == 2) = false := by simpa using hm2
          have hm3 : m = 3 := HM rfl hm1 hm2
          subst hm3
          cases hx : fieldR l (p + 1) with
          | error y =>
            obtain ⟨f, e⟩ := y
            simp only [mapR]
            have U0 : Hid (CU (w.alloc (.cells #[.int .i64 0, .slice none 0 0, .slice none 0 0, .slice none 0 0] 63)) b v l p) := H.out.grew ((Grew.refl w).alloc _)
            have T0 : Hid (Turn [b] w (w.alloc (.cells #[.int .i64 0, .slice none 0 0, .slice none 0 0, .slice none 0 0] 63))) := (Turn.refl [b] w).alloc _
            have N0 : Hid ((w.alloc (.cells #[.int .i64 0, .slice none 0 0, .slice none 0 0, .slice none 0 0] 63)).heap[w.heap.size]? = some (.cells #[.int .i64 0, .slice none 0 0, .slice none 0 0, .slice none 0 0] 63 (0, 0))) := heap_alloc_last _ _
            go_enter Tryz.func42, Tryz.ntmps42
            go_wp2_with fail
            refine (P.out _ U0.out).mono ?_
            rintro en w1 ⟨rfl, g1⟩
            have T1 : Hid (Turn [b] w w1) := T0.out.trans (g1.turn _)
            have U1 : Hid (CU w1 b v l p) := U0.out.grew g1
            have N1 : Hid (w1.heap[w.heap.size]? = some (.cells #[.int .i64 0, .slice none 0 0, .slice none 0 0, .slice none 0 0] 63 (0, 0))) := (g1.turn []).other N0.out (by simp)
            clear g1 T0 U0 N0
            go_wp2_with fail
            refine (M.out _ U1.out).mono ?_
            rintro en w2 ⟨rfl, g2⟩
            have T2 : Hid (Turn [b] w w2) := T1.out.trans (g2.turn _)
            have U2 : Hid (CU w2 b v l p) := U1.out.grew g2
            have N2 : Hid (w2.heap[w.heap.size]? = some (.cells #[.int .i64 0, .slice none 0 0, .slice none 0 0, .slice none 0 0] 63 (0, 0))) := (g2.turn []).other N1.out (by simp)
            clear g2 T1 U1 N1
            have c1_2 := U2.out.c1
            have z1_2 := U2.out.z1
            go_wp2_with fail
            generalize hw3 : w2.setCell { block := b, off := 1 } (Value.int IntKind.i64 ((p : Int) + 1)) = w3
            have T3 : Hid (Turn [b] w w3) := by rw [← hw3]; exact T2.out.set (Or.inl (by simp)) _
            have u3 : CU w3 b v l (p + 1) := by rw [← hw3]; have := U2.out.set1 (q := p + 1) (by omega); simpa using this
            have U3 : Hid (CU w3 b v l (p + 1)) := u3
            clear u3
            have N3 : Hid (w3.heap[w.heap.size]? = some (.cells #[.int .i64 0, .slice none 0 0, .slice none 0 0, .slice none 0 0] 63 (0, 0))) := by rw [← hw3]; exact heap_other N2.out (by simp; omega) _
            clear hw3 c1_2 z1_2 T2 U2 N2
            refine (Calls.er_of (field_any U3.out) hx).mono ?_
            rintro en w4 ⟨rfl, t4⟩
            have T4 : Hid (Turn [b] w w4) := T3.out.trans t4
            clear t4
            go_wp2_with fail
            exact ⟨rfl, rfl, T4.out⟩
          | ok y =>
            obtain ⟨⟨⟨vn, vb, vh⟩, mu⟩, q⟩ := y
            simp only [mapR]
            have U0 : Hid (CU (w.alloc (.cells #[.int .i64 0, .slice none 0 0, .slice none 0 0, .slice none 0 0] 63)) b v l p) := H.out.grew ((Grew.refl w).alloc _)
            have T0 : Hid (Turn [b] w (w.alloc (.cells #[.int .i64 0, .slice none 0 0, .slice none 0 0, .slice none 0 0] 63))) := (Turn.refl [b] w).alloc _
            have N0 : Hid ((w.alloc (.cells #[.int .i64 0, .slice none 0 0, .slice none 0 0, .slice none 0 0] 63)).heap[w.heap.size]? = some (.cells #[.int .i64 0, .slice none 0 0, .slice none 0 0, .slice none 0 0] 63 (0, 0))) := heap_alloc_last _ _
            go_enter Tryz.func42, Tryz.ntmps42
            go_wp2_with fail
            refine (P.out _ U0.out).mono ?_
            rintro en w1 ⟨rfl, g1⟩
            have T1 : Hid (Turn [b] w w1) := T0.out.trans (g1.turn _)
            have U1 : Hid (CU w1 b v l p) := U0.out.grew g1
            have N1 : Hid (w1.heap[w.heap.size]? = some (.cells #[.int .i64 0, .slice none 0 0, .slice none 0 0, .slice none 0 0] 63 (0, 0))) := (g1.turn []).other N0.out (by simp)
            clear g1 T0 U0 N0
            go_wp2_with fail
            refine (M.out _ U1.out).mono ?_
            rintro en w2 ⟨rfl, g2⟩
            have T2 : Hid (Turn [b] w w2) := T1.out.trans (g2.turn _)
            have U2 : Hid (CU w2 b v l p) := U1.out.grew g2
            have N2 : Hid (w2.heap[w.heap.size]? = some (.cells #[.int .i64 0, .slice none 0 0, .slice none 0 0, .slice none 0 0] 63 (0, 0))) := (g2.turn []).other N1.out (by simp)
            clear g2 T1 U1 N1
            have c1_2 := U2.out.c1
            have z1_2 := U2.out.z1
            go_wp2_with fail
            generalize hw3 : w2.setCell { block := b, off := 1 } (Value.int IntKind.i64 ((p : Int) + 1)) = w3
            have T3 : Hid (Turn [b] w w3) := by rw [← hw3]; exact T2.out.set (Or.inl (by simp)) _
            have u3 : CU w3 b v l (p + 1) := by rw [← hw3]; have := U2.out.set1 (q := p + 1) (by omega); simpa using this
            have U3 : Hid (CU w3 b v l (p + 1)) := u3
            clear u3
            have N3 : Hid (w3.heap[w.heap.size]? = some (.cells #[.int .i64 0, .slice none 0 0, .slice none 0 0, .slice none 0 0] 63 (0, 0))) := by rw [← hw3]; exact heap_other N2.out (by simp; omega) _
            clear hw3 c1_2 z1_2 T2 U2 N2
            refine (Calls.ok_of (field_any U3.out) hx).mono ?_
            rintro en w4 ⟨rfl, t4, u4⟩
            have T4 : Hid (Turn [b] w w4) := T3.out.trans t4
            have U4 : Hid (CU w4 b v l q) := u4
            have N4 : Hid (w4.heap[w.heap.size]? = some (.cells #[.int .i64 0, .slice none 0 0, .slice none 0 0, .slice none 0 0] 63 (0, 0))) := t4.other N3.out (by simp; omega)
            clear t4 u4 T3 U3 N3
            unfold FT.v
            have hlk : w.heap.size < w4.heap.size := lt_of_obj N4.out
            have hne : ¬ b = w.heap.size := by omega
            have hne2 : ¬ w4.heap.size = w.heap.size := by omega
            have hne3 : ¬ w.heap.size = w4.heap.size := by omega
            have n0 := cell_of N4.out 0
            have n1 := cell_of N4.out 1
            have n2 := cell_of N4.out 2
            have n3 := cell_of N4.out 3
            have y0 := free_of N4.out 0
            have y1 := free_of N4.out 1
            have y2 := free_of N4.out 2
            have y3 := free_of N4.out 3
            simp at n0 n1 n2 n3
            go_wp2_with fail
            generalize hWf : (((((w4.setCell ⟨w.heap.size, 0, none⟩ (.int .i64 3)).setCell ⟨w.heap.size, 1, none⟩ (.slice none 0 0)).setCell ⟨w.heap.size, 2, none⟩ (.slice none 0 0)).setCell ⟨w.heap.size, 3, none⟩ (.slice (some ⟨w4.heap.size, 0, none⟩) 1 1)).alloc (.cells #[.int .i64 vn, .bool vb, .int .i64 vh, .bool mu] 107)) = Wf
            have hN : Wf.heap[w.heap.size]? = some (.cells #[.int .i64 3, .slice none 0 0, .slice none 0 0, .slice (some ⟨w4.heap.size, 0, none⟩) 1 1] 63 (0, 0)) := by
              rw [← hWf]
              refine heap_alloc ?_ _
              rw [heap_set (heap_set (heap_set (heap_set N4.out 0 _) 1 _) 2 _) 3 _]
              rfl
            have m0 := cell_of hN 0
            have m1 := cell_of hN 1
            have m2 := cell_of hN 2
            have m3 := cell_of hN 3
            simp at m0 m1 m2 m3
            refine bodyPost_ret (v := .agg #[.int .i64 3, .slice none 0 0, .slice none 0 0, .slice (some ⟨w4.heap.size, 0, none⟩) 1 1]) (by simp [results, Tryz.results42, go_sem, m0, m1, m2, m3]) rfl ?_
            rw [← hWf]
            have hrow : RowF w.heap.size (((((w4.setCell ⟨w.heap.size, 0, none⟩ (.int .i64 3)).setCell ⟨w.heap.size, 1, none⟩ (.slice none 0 0)).setCell ⟨w.heap.size, 2, none⟩ (.slice none 0 0)).setCell ⟨w.heap.size, 3, none⟩ (.slice (some ⟨w4.heap.size, 0, none⟩) 1 1)).alloc (.cells #[.int .i64 vn, .bool vb, .int .i64 vh, .bool mu] 107)) (.slice (some ⟨w4.heap.size, 0, none⟩) 1 1) [⟨⟨vn, vb, vh⟩, mu⟩] := by
              have h := row_new ((((w4.setCell ⟨w.heap.size, 0, none⟩ (.int .i64 3)).setCell ⟨w.heap.size, 1, none⟩ (.slice none 0 0)).setCell ⟨w.heap.size, 2, none⟩ (.slice none 0 0)).setCell ⟨w.heap.size, 3, none⟩ (.slice (some ⟨w4.heap.size, 0, none⟩) 1 1)) 107 4 (by decide) #[.int .i64 vn, .bool vb, .int .i64 vh, .bool mu] rfl (by simp [Value.oneCell'])
              have hz : ((((w4.setCell ⟨w.heap.size, 0, none⟩ (.int .i64 3)).setCell ⟨w.heap.size, 1, none⟩ (.slice none 0 0)).setCell ⟨w.heap.size, 2, none⟩ (.slice none 0 0)).setCell ⟨w.heap.size, 3, none⟩ (.slice (some ⟨w4.heap.size, 0, none⟩) 1 1)).heap.size = w4.heap.size := by simp
              rw [hz] at h
              exact row_low h (Nat.le_of_lt hlk)
            exact ⟨[.int .i64 3, .slice none 0 0, .slice none 0 0, .slice (some ⟨w4.heap.size, 0, none⟩) 1 1], rfl, ⟨_, _, _, rfl, RowV.nil _ _, RowV.nil _ _, hrow⟩, ((((((Fin.mk_ T4.out U4.out).set H.out (Nat.le_refl _)).set H.out (Nat.le_refl _)).set H.out (Nat.le_refl _)).set H.out (Nat.le_refl _)).grew ((Grew.refl _).alloc _))⟩
    · rw [if_pos hk6]
      have b6 : (k != 6) = true := by simpa using hk6
      have U0 : Hid (CU (w.alloc (.cells #[.int .i64 0, .slice none 0 0, .slice none 0 0, .slice none 0 0] 63)) b v l p) := H.out.grew ((Grew.refl w).alloc _)
      have T0 : Hid (Turn [b] w (w.alloc (.cells #[.int .i64 0, .slice none 0 0, .slice none 0 0, .slice none 0 0] 63))) := (Turn.refl [b] w).alloc _
      have N0 : Hid ((w.alloc (.cells #[.int .i64 0, .slice none 0 0, .slice none 0 0, .slice none 0 0] 63)).heap[w.heap.size]? = some (.cells #[.int .i64 0, .slice none 0 0, .slice none 0 0, .slice none 0 0] 63 (0, 0))) := heap_alloc_last _ _
      go_enter Tryz.func42, Tryz.ntmps42
      go_wp2_with fail
      refine (P.out _ U0.out).mono ?_
      rintro en w1 ⟨rfl, g1⟩
      have T1 : Hid (Turn [b] w w1) := T0.out.trans (g1.turn _)
      have U1 : Hid (CU w1 b v l p) := U0.out.grew g1
      have N1 : Hid (w1.heap[w.heap.size]? = some (.cells #[.int .i64 0, .slice none 0 0, .slice none 0 0, .slice none 0 0] 63 (0, 0))) := (g1.turn []).other N0.out (by simp)
      clear g1 T0 U0 N0
      go_wp2_with fail
      refine (M.out _ U1.out).mono ?_
      rintro en w2 ⟨rfl, g2⟩
      have T2 : Hid (Turn [b] w w2) := T1.out.trans (g2.turn _)
      have U2 : Hid (CU w2 b v l p) := U1.out.grew g2
      have N2 : Hid (w2.heap[w.heap.size]? = some (.cells #[.int .i64 0, .slice none 0 0, .slice none 0 0, .slice none 0 0] 63 (0, 0))) := (g2.turn []).other N1.out (by simp)
      clear g2 T1 U1 N1
      have c1_2 := U2.out.c1
      go_wp2_with fail
      refine (giveUp_any _ 4 _).mono ?_
      rintro en w9 ⟨rfl, h9⟩
      obtain rfl := h9.symm
      go_wp2_with fail
      exact ⟨rfl, rfl, T2.out⟩
  · have hr : compR l p = .error (p, 3) := by unfold compR; exact atR_no hp
    rw [hr]
    clear hr
    have U0 : Hid (CU (w.alloc (.cells #[.int .i64 0, .slice none 0 0, .slice none 0 0, .slice none 0 0] 63)) b v l p) := H.out.grew ((Grew.refl w).alloc _)
    have T0 : Hid (Turn [b] w (w.alloc (.cells #[.int .i64 0, .slice none 0 0, .slice none 0 0, .slice none 0 0] 63))) := (Turn.refl [b] w).alloc _
    have N0 : Hid ((w.alloc (.cells #[.int .i64 0, .slice none 0 0, .slice none 0 0, .slice none 0 0] 63)).heap[w.heap.size]? = some (.cells #[.int .i64 0, .slice none 0 0, .slice none 0 0, .slice none 0 0] 63 (0, 0))) := heap_alloc_last _ _
    go_enter Tryz.func42, Tryz.ntmps42
    go_wp2_with fail
    refine (peek_no U0.out hp).mono ?_
    rintro en w1 ⟨rfl, g1⟩
    have T1 : Hid (Turn [b] w w1) := T0.out.trans (g1.turn _)
    clear g1
    go_wp2_with fail
    exact ⟨rfl, rfl, T1.out⟩
end Go.Proofs.YtchehejjdinifaaGreatDoor
