/-
  The walks of the cursor that reads types and groups; no statement is proved here.
-/
import Derived.Test.YtchehejjdinifaaGreatDoorGrpC
namespace Go.Proofs.YtchehejjdinifaaGreatDoor
open Go.RowKit
set_option linter.unusedVariables false
set_option linter.unusedSimpArgs false
set_option linter.constructorNameAsVariable false

set_option maxRecDepth 100000 in
set_option maxHeartbeats 1000000 in
theorem subType_any {w : World} {b : Nat} {v : Value} {l : List Int} {p : Nat} (h : CU w b v l p) :
    Calls Tryz.prog 26 #[.pointer (some ⟨b, 0, none⟩)] w (AnsX SubC b v l w (subR l p)) := by
  have H : Hid (CU w b v l p) := h
  have hb : b < w.heap.size := h.lt
  have hl := h.len
  have hle := h.le
  clear h
  by_cases hp : p < l.length
  · unfold subR
    rw [atR_in hp]
    have P : Hid (∀ w', CU w' b v l p → Calls Tryz.prog 25 #[.pointer (some ⟨b, 0, none⟩)] w' fun en w'' => en = .returned (.int .u8 (l.getD p 0)) ∧ Grew w' w'') := fun w' u => peek_ok u hp
    generalize l.getD p 0 = c at *
    by_cases h80 : c = 80
    · subst h80
      rw [if_pos (by decide)]
      cases hx : listR 1000 (tyU l) l (p + 1) with
      | error y =>
        obtain ⟨f, e⟩ := y
        simp only [thenR]
        have U0 : Hid (CU (w.alloc (.cells #[.bool false, .slice none 0 0, .int .i64 0, .slice none 0 0, .slice none 0 0, .slice none 0 0] 65)) b v l p) := H.out.grew ((Grew.refl w).alloc _)
        have T0 : Hid (Turn [b] w (w.alloc (.cells #[.bool false, .slice none 0 0, .int .i64 0, .slice none 0 0, .slice none 0 0, .slice none 0 0] 65))) := (Turn.refl [b] w).alloc _
        have N0 : Hid ((w.alloc (.cells #[.bool false, .slice none 0 0, .int .i64 0, .slice none 0 0, .slice none 0 0, .slice none 0 0] 65)).heap[w.heap.size]? = some (.cells #[.bool false, .slice none 0 0, .int .i64 0, .slice none 0 0, .slice none 0 0, .slice none 0 0] 65 (0, 0))) := heap_alloc_last _ _
        go_enter Tryz.func26, Tryz.ntmps26
        go_wp2_with fail
        refine (P.out _ U0.out).mono ?_
        rintro en w1 ⟨rfl, g1⟩
        have T1 : Hid (Turn [b] w w1) := T0.out.trans (g1.turn _)
        have U1 : Hid (CU w1 b v l p) := U0.out.grew g1
        have N1 : Hid (w1.heap[w.heap.size]? = some (.cells #[.bool false, .slice none 0 0, .int .i64 0, .slice none 0 0, .slice none 0 0, .slice none 0 0] 65 (0, 0))) := (g1.turn []).other N0.out (by simp)
        clear g1 T0 U0 N0
        have c1_1 := U1.out.c1
        have z1_1 := U1.out.z1
        go_wp2_with fail
        generalize hw2 : w1.setCell { block := b, off := 1 } (Value.int IntKind.i64 ((p : Int) + 1)) = w2
        have T2 : Hid (Turn [b] w w2) := by rw [← hw2]; exact T1.out.set (Or.inl (by simp)) _
        have u2 : CU w2 b v l (p + 1) := by rw [← hw2]; have := U1.out.set1 (q := p + 1) (by omega); simpa using this
        have U2 : Hid (CU w2 b v l (p + 1)) := u2
        clear u2
        have N2 : Hid (w2.heap[w.heap.size]? = some (.cells #[.bool false, .slice none 0 0, .int .i64 0, .slice none 0 0, .slice none 0 0, .slice none 0 0] 65 (0, 0))) := by rw [← hw2]; exact heap_other N1.out (by simp; omega) _
        clear hw2 c1_1 z1_1 T1 U1 N1
        refine (AnsI.er (listI_any U2.out 1000 (by decide) (by decide)) hx).mono ?_
        rintro en w3 ⟨rfl, t3⟩
        have T3 : Hid (Turn [b] w w3) := T2.out.trans t3
        clear t3
        go_wp2_with fail
        exact ⟨rfl, rfl, T3.out⟩
      | ok y =>
        obtain ⟨ss, q⟩ := y
        simp only [thenR]
        cases hy : compR l q with
        | error y =>
          obtain ⟨f, e⟩ := y
          simp only [mapR]
          have U0 : Hid (CU (w.alloc (.cells #[.bool false, .slice none 0 0, .int .i64 0, .slice none 0 0, .slice none 0 0, .slice none 0 0] 65)) b v l p) := H.out.grew ((Grew.refl w).alloc _)
          have T0 : Hid (Turn [b] w (w.alloc (.cells #[.bool false, .slice none 0 0, .int .i64 0, .slice none 0 0, .slice none 0 0, .slice none 0 0] 65))) := (Turn.refl [b] w).alloc _
          have N0 : Hid ((w.alloc (.cells #[.bool false, .slice none 0 0, .int .i64 0, .slice none 0 0, .slice none 0 0, .slice none 0 0] 65)).heap[w.heap.size]? = some (.cells #[.bool false, .slice none 0 0, .int .i64 0, .slice none 0 0, .slice none 0 0, .slice none 0 0] 65 (0, 0))) := heap_alloc_last _ _
          go_enter Tryz.func26, Tryz.ntmps26
          go_wp2_with fail
          refine (P.out _ U0.out).mono ?_
          rintro en w1 ⟨rfl, g1⟩
          have T1 : Hid (Turn [b] w w1) := T0.out.trans (g1.turn _)
          have U1 : Hid (CU w1 b v l p) := U0.out.grew g1
          have N1 : Hid (w1.heap[w.heap.size]? = some (.cells #[.bool false, .slice none 0 0, .int .i64 0, .slice none 0 0, .slice none 0 0, .slice none 0 0] 65 (0, 0))) := (g1.turn []).other N0.out (by simp)
          clear g1 T0 U0 N0
          have c1_1 := U1.out.c1
          have z1_1 := U1.out.z1
          go_wp2_with fail
          generalize hw2 : w1.setCell { block := b, off := 1 } (Value.int IntKind.i64 ((p : Int) + 1)) = w2
          have T2 : Hid (Turn [b] w w2) := by rw [← hw2]; exact T1.out.set (Or.inl (by simp)) _
          have u2 : CU w2 b v l (p + 1) := by rw [← hw2]; have := U1.out.set1 (q := p + 1) (by omega); simpa using this
          have U2 : Hid (CU w2 b v l (p + 1)) := u2
          clear u2
          have N2 : Hid (w2.heap[w.heap.size]? = some (.cells #[.bool false, .slice none 0 0, .int .i64 0, .slice none 0 0, .slice none 0 0, .slice none 0 0] 65 (0, 0))) := by rw [← hw2]; exact heap_other N1.out (by simp; omega) _
          clear hw2 c1_1 z1_1 T1 U1 N1
          refine (AnsI.ok (listI_any U2.out 1000 (by decide) (by decide)) hx).mono ?_
          rintro en w3 ⟨rv0, rfl, r3, t3, u3⟩
          have T3 : Hid (Turn [b] w w3) := T2.out.trans t3
          have U3 : Hid (CU w3 b v l q) := u3
          have N3 : Hid (w3.heap[w.heap.size]? = some (.cells #[.bool false, .slice none 0 0, .int .i64 0, .slice none 0 0, .slice none 0 0, .slice none 0 0] 65 (0, 0))) := t3.other N2.out (by simp; omega)
          have R0_3 : Hid (RowI w.heap.size w3 rv0 ss) := row_low r3 T2.out.size
          obtain ⟨ra0, rc0, hrv0⟩ := row_one r3
          subst hrv0
          clear r3
          clear t3 u3 T2 U2 N2
          go_wp2_with fail
          refine (AnsX.er (compType_any U3.out) hy).mono ?_
          rintro en w4 ⟨rfl, t4⟩
          have T4 : Hid (Turn [b] w w4) := T3.out.trans t4
          clear t4
          go_wp2_with fail
          exact ⟨rfl, rfl, T4.out⟩
        | ok y =>
          obtain ⟨x, r⟩ := y
          simp only [mapR]
          have U0 : Hid (CU (w.alloc (.cells #[.bool false, .slice none 0 0, .int .i64 0, .slice none 0 0, .slice none 0 0, .slice none 0 0] 65)) b v l p) := H.out.grew ((Grew.refl w).alloc _)
          have T0 : Hid (Turn [b] w (w.alloc (.cells #[.bool false, .slice none 0 0, .int .i64 0, .slice none 0 0, .slice none 0 0, .slice none 0 0] 65))) := (Turn.refl [b] w).alloc _
          have N0 : Hid ((w.alloc (.cells #[.bool false, .slice none 0 0, .int .i64 0, .slice none 0 0, .slice none 0 0, .slice none 0 0] 65)).heap[w.heap.size]? = some (.cells #[.bool false, .slice none 0 0, .int .i64 0, .slice none 0 0, .slice none 0 0, .slice none 0 0] 65 (0, 0))) := heap_alloc_last _ _
          go_enter Tryz.func26, Tryz.ntmps26
          go_wp2_with fail
          refine (P.out _ U0.out).mono ?_
          rintro en w1 ⟨rfl, g1⟩
          have T1 : Hid (Turn [b] w w1) := T0.out.trans (g1.turn _)
          have U1 : Hid (CU w1 b v l p) := U0.out.grew g1
          have N1 : Hid (w1.heap[w.heap.size]? = some (.cells #[.bool false, .slice none 0 0, .int .i64 0, .slice none 0 0, .slice none 0 0, .slice none 0 0] 65 (0, 0))) := (g1.turn []).other N0.out (by simp)
          clear g1 T0 U0 N0
          have c1_1 := U1.out.c1
          have z1_1 := U1.out.z1
          go_wp2_with fail
          generalize hw2 : w1.setCell { block := b, off := 1 } (Value.int IntKind.i64 ((p : Int) + 1)) = w2
          have T2 : Hid (Turn [b] w w2) := by rw [← hw2]; exact T1.out.set (Or.inl (by simp)) _
          have u2 : CU w2 b v l (p + 1) := by rw [← hw2]; have := U1.out.set1 (q := p + 1) (by omega); simpa using this
          have U2 : Hid (CU w2 b v l (p + 1)) := u2
          clear u2
          have N2 : Hid (w2.heap[w.heap.size]? = some (.cells #[.bool false, .slice none 0 0, .int .i64 0, .slice none 0 0, .slice none 0 0, .slice none 0 0] 65 (0, 0))) := by rw [← hw2]; exact heap_other N1.out (by simp; omega) _
          clear hw2 c1_1 z1_1 T1 U1 N1
          refine (AnsI.ok (listI_any U2.out 1000 (by decide) (by decide)) hx).mono ?_
          rintro en w3 ⟨rv0, rfl, r3, t3, u3⟩
          have T3 : Hid (Turn [b] w w3) := T2.out.trans t3
          have U3 : Hid (CU w3 b v l q) := u3
          have N3 : Hid (w3.heap[w.heap.size]? = some (.cells #[.bool false, .slice none 0 0, .int .i64 0, .slice none 0 0, .slice none 0 0, .slice none 0 0] 65 (0, 0))) := t3.other N2.out (by simp; omega)
          have R0_3 : Hid (RowI w.heap.size w3 rv0 ss) := row_low r3 T2.out.size
          obtain ⟨ra0, rc0, hrv0⟩ := row_one r3
          subst hrv0
          clear r3
          clear t3 u3 T2 U2 N2
          go_wp2_with fail
          refine (AnsX.ok (compType_any U3.out) hy).mono ?_
          rintro en w4 ⟨cs, rfl, c4, t4, u4⟩
          have T4 : Hid (Turn [b] w w4) := T3.out.trans t4
          have U4 : Hid (CU w4 b v l r) := u4
          have R0_4 : Hid (RowI w.heap.size w4 (.slice ra0 ss.length rc0) ss) := row_turn R0_3.out t4 (by intro x hx; simp at hx; subst hx; exact NoT.of U3.out.obj (by decide))
          clear R0_3
          have N4 : Hid (w4.heap[w.heap.size]? = some (.cells #[.bool false, .slice none 0 0, .int .i64 0, .slice none 0 0, .slice none 0 0, .slice none 0 0] 65 (0, 0))) := t4.other N3.out (by simp; omega)
          obtain ⟨pv, rv, fv, hcs, z2, z3, z4⟩ := (show CompC w.heap.size w4 cs x from c4.low T3.out.size)
          obtain ⟨pa, pc, e2⟩ := row_one z2
          obtain ⟨ra, rc, e3⟩ := row_one z3
          obtain ⟨fa, fc, e4⟩ := row_one z4
          subst e2
          subst e3
          subst e4
          subst hcs
          have Z2 : Hid (RowV w.heap.size w4 (.slice pa x.params.length pc) x.params) := z2
          have Z3 : Hid (RowV w.heap.size w4 (.slice ra x.results.length rc) x.results) := z3
          have Z4 : Hid (RowF w.heap.size w4 (.slice fa x.fields.length fc) x.fields) := z4
          clear z2 z3 z4 c4
          clear t4 u4 T3 U3 N3
          have hne : ¬ b = w.heap.size := by omega
          have n0 := cell_of N4.out 0
          have y0 := free_of N4.out 0
          have n1 := cell_of N4.out 1
          have y1 := free_of N4.out 1
          have n2 := cell_of N4.out 2
          have y2 := free_of N4.out 2
          have n3 := cell_of N4.out 3
          have y3 := free_of N4.out 3
          have n4 := cell_of N4.out 4
          have y4 := free_of N4.out 4
          have n5 := cell_of N4.out 5
          have y5 := free_of N4.out 5
          simp at n0 n1 n2 n3 n4 n5
          go_wp2_with fail
          refine bodyPost_ret (v := .agg #[.bool false, .slice ra0 ss.length rc0, .int .i64 x.kind, .slice pa x.params.length pc, .slice ra x.results.length rc, .slice fa x.fields.length fc]) (by simp [results, Tryz.results26, go_sem, n0, n1, n2, n3, n4, n5]) rfl ?_
          have hNT : ∀ (e : TypeId), 65 ≠ e → ∀ y ∈ [w.heap.size], NoT w4 y e := fun e he y hy => by simp at hy; subst hy; exact NoT.of N4.out he
          exact ⟨[.bool false, .slice ra0 ss.length rc0, .int .i64 x.kind, .slice pa x.params.length pc, .slice ra x.results.length rc, .slice fa x.fields.length fc], rfl, ⟨_, _, _, _, rfl, row_turn R0_4.out (((((((Turn.refl [w.heap.size] w4).set (p := ⟨w.heap.size, 0, none⟩) (Or.inl (by simp)) _).set (p := ⟨w.heap.size, 1, none⟩) (Or.inl (by simp)) _).set (p := ⟨w.heap.size, 2, none⟩) (Or.inl (by simp)) _).set (p := ⟨w.heap.size, 3, none⟩) (Or.inl (by simp)) _).set (p := ⟨w.heap.size, 4, none⟩) (Or.inl (by simp)) _).set (p := ⟨w.heap.size, 5, none⟩) (Or.inl (by simp)) _) (hNT 3 (by decide)), row_turn Z2.out (((((((Turn.refl [w.heap.size] w4).set (p := ⟨w.heap.size, 0, none⟩) (Or.inl (by simp)) _).set (p := ⟨w.heap.size, 1, none⟩) (Or.inl (by simp)) _).set (p := ⟨w.heap.size, 2, none⟩) (Or.inl (by simp)) _).set (p := ⟨w.heap.size, 3, none⟩) (Or.inl (by simp)) _).set (p := ⟨w.heap.size, 4, none⟩) (Or.inl (by simp)) _).set (p := ⟨w.heap.size, 5, none⟩) (Or.inl (by simp)) _) (hNT 26 (by decide)), row_turn Z3.out (((((((Turn.refl [w.heap.size] w4).set (p := ⟨w.heap.size, 0, none⟩) (Or.inl (by simp)) _).set (p := ⟨w.heap.size, 1, none⟩) (Or.inl (by simp)) _).set (p := ⟨w.heap.size, 2, none⟩) (Or.inl (by simp)) _).set (p := ⟨w.heap.size, 3, none⟩) (Or.inl (by simp)) _).set (p := ⟨w.heap.size, 4, none⟩) (Or.inl (by simp)) _).set (p := ⟨w.heap.size, 5, none⟩) (Or.inl (by simp)) _) (hNT 26 (by decide)), row_turn Z4.out (((((((Turn.refl [w.heap.size] w4).set (p := ⟨w.heap.size, 0, none⟩) (Or.inl (by simp)) _).set (p := ⟨w.heap.size, 1, none⟩) (Or.inl (by simp)) _).set (p := ⟨w.heap.size, 2, none⟩) (Or.inl (by simp)) _).set (p := ⟨w.heap.size, 3, none⟩) (Or.inl (by simp)) _).set (p := ⟨w.heap.size, 4, none⟩) (Or.inl (by simp)) _).set (p := ⟨w.heap.size, 5, none⟩) (Or.inl (by simp)) _) (hNT 107 (by decide))⟩, ((((((((Fin.mk_ T4.out U4.out)).set H.out (Nat.le_refl _)).set H.out (Nat.le_refl _)).set H.out (Nat.le_refl _)).set H.out (Nat.le_refl _)).set H.out (Nat.le_refl _)).set H.out (Nat.le_refl _))⟩
    by_cases h79 : c = 79
    · subst h79
      rw [if_pos (by decide)]
      cases hx : listR 1000 (tyU l) l (p + 1) with
      | error y =>
        obtain ⟨f, e⟩ := y
        simp only [thenR]
        have U0 : Hid (CU (w.alloc (.cells #[.bool false, .slice none 0 0, .int .i64 0, .slice none 0 0, .slice none 0 0, .slice none 0 0] 65)) b v l p) := H.out.grew ((Grew.refl w).alloc _)
        have T0 : Hid (Turn [b] w (w.alloc (.cells #[.bool false, .slice none 0 0, .int .i64 0, .slice none 0 0, .slice none 0 0, .slice none 0 0] 65))) := (Turn.refl [b] w).alloc _
        have N0 : Hid ((w.alloc (.cells #[.bool false, .slice none 0 0, .int .i64 0, .slice none 0 0, .slice none 0 0, .slice none 0 0] 65)).heap[w.heap.size]? = some (.cells #[.bool false, .slice none 0 0, .int .i64 0, .slice none 0 0, .slice none 0 0, .slice none 0 0] 65 (0, 0))) := heap_alloc_last _ _
        go_enter Tryz.func26, Tryz.ntmps26
        go_wp2_with fail
        refine (P.out _ U0.out).mono ?_
        rintro en w1 ⟨rfl, g1⟩
        have T1 : Hid (Turn [b] w w1) := T0.out.trans (g1.turn _)
        have U1 : Hid (CU w1 b v l p) := U0.out.grew g1
        have N1 : Hid (w1.heap[w.heap.size]? = some (.cells #[.bool false, .slice none 0 0, .int .i64 0, .slice none 0 0, .slice none 0 0, .slice none 0 0] 65 (0, 0))) := (g1.turn []).other N0.out (by simp)
        clear g1 T0 U0 N0
        have c1_1 := U1.out.c1
        have z1_1 := U1.out.z1
        go_wp2_with fail
        generalize hw2 : w1.setCell { block := b, off := 1 } (Value.int IntKind.i64 ((p : Int) + 1)) = w2
        have T2 : Hid (Turn [b] w w2) := by rw [← hw2]; exact T1.out.set (Or.inl (by simp)) _
        have u2 : CU w2 b v l (p + 1) := by rw [← hw2]; have := U1.out.set1 (q := p + 1) (by omega); simpa using this
        have U2 : Hid (CU w2 b v l (p + 1)) := u2
        clear u2
        have N2 : Hid (w2.heap[w.heap.size]? = some (.cells #[.bool false, .slice none 0 0, .int .i64 0, .slice none 0 0, .slice none 0 0, .slice none 0 0] 65 (0, 0))) := by rw [← hw2]; exact heap_other N1.out (by simp; omega) _
        clear hw2 c1_1 z1_1 T1 U1 N1
        refine (AnsI.er (listI_any U2.out 1000 (by decide) (by decide)) hx).mono ?_
        rintro en w3 ⟨rfl, t3⟩
        have T3 : Hid (Turn [b] w w3) := T2.out.trans t3
        clear t3
        go_wp2_with fail
        exact ⟨rfl, rfl, T3.out⟩
      | ok y =>
        obtain ⟨ss, q⟩ := y
        simp only [thenR]
        cases hy : compR l q with
        | error y =>
          obtain ⟨f, e⟩ := y
          simp only [mapR]
          have U0 : Hid (CU (w.alloc (.cells #[.bool false, .slice none 0 0, .int .i64 0, .slice none 0 0, .slice none 0 0, .slice none 0 0] 65)) b v l p) := H.out.grew ((Grew.refl w).alloc _)
          have T0 : Hid (Turn [b] w (w.alloc (.cells #[.bool false, .slice none 0 0, .int .i64 0, .slice none 0 0, .slice none 0 0, .slice none 0 0] 65))) := (Turn.refl [b] w).alloc _
          have N0 : Hid ((w.alloc (.cells #[.bool false, .slice none 0 0, .int .i64 0, .slice none 0 0, .slice none 0 0, .slice none 0 0] 65)).heap[w.heap.size]? = some (.cells #[.bool false, .slice none 0 0, .int .i64 0, .slice none 0 0, .slice none 0 0, .slice none 0 0] 65 (0, 0))) := heap_alloc_last _ _
          go_enter Tryz.func26, Tryz.ntmps26
          go_wp2_with fail
          refine (P.out _ U0.out).mono ?_
          rintro en w1 ⟨rfl, g1⟩
          have T1 : Hid (Turn [b] w w1) := T0.out.trans (g1.turn _)
          have U1 : Hid (CU w1 b v l p) := U0.out.grew g1
          have N1 : Hid (w1.heap[w.heap.size]? = some (.cells #[.bool false, .slice none 0 0, .int .i64 0, .slice none 0 0, .slice none 0 0, .slice none 0 0] 65 (0, 0))) := (g1.turn []).other N0.out (by simp)
          clear g1 T0 U0 N0
          have c1_1 := U1.out.c1
          have z1_1 := U1.out.z1
          go_wp2_with fail
          generalize hw2 : w1.setCell { block := b, off := 1 } (Value.int IntKind.i64 ((p : Int) + 1)) = w2
          have T2 : Hid (Turn [b] w w2) := by rw [← hw2]; exact T1.out.set (Or.inl (by simp)) _
          have u2 : CU w2 b v l (p + 1) := by rw [← hw2]; have := U1.out.set1 (q := p + 1) (by omega); simpa using this
          have U2 : Hid (CU w2 b v l (p + 1)) := u2
          clear u2
          have N2 : Hid (w2.heap[w.heap.size]? = some (.cells #[.bool false, .slice none 0 0, .int .i64 0, .slice none 0 0, .slice none 0 0, .slice none 0 0] 65 (0, 0))) := by rw [← hw2]; exact heap_other N1.out (by simp; omega) _
          clear hw2 c1_1 z1_1 T1 U1 N1
          refine (AnsI.ok (listI_any U2.out 1000 (by decide) (by decide)) hx).mono ?_
          rintro en w3 ⟨rv0, rfl, r3, t3, u3⟩
          have T3 : Hid (Turn [b] w w3) := T2.out.trans t3
          have U3 : Hid (CU w3 b v l q) := u3
          have N3 : Hid (w3.heap[w.heap.size]? = some (.cells #[.bool false, .slice none 0 0, .int .i64 0, .slice none 0 0, .slice none 0 0, .slice none 0 0] 65 (0, 0))) := t3.other N2.out (by simp; omega)
          have R0_3 : Hid (RowI w.heap.size w3 rv0 ss) := row_low r3 T2.out.size
          obtain ⟨ra0, rc0, hrv0⟩ := row_one r3
          subst hrv0
          clear r3
          clear t3 u3 T2 U2 N2
          go_wp2_with fail
          refine (AnsX.er (compType_any U3.out) hy).mono ?_
          rintro en w4 ⟨rfl, t4⟩
          have T4 : Hid (Turn [b] w w4) := T3.out.trans t4
          clear t4
          go_wp2_with fail
          exact ⟨rfl, rfl, T4.out⟩
        | ok y =>
          obtain ⟨x, r⟩ := y
          simp only [mapR]
          have U0 : Hid (CU (w.alloc (.cells #[.bool false, .slice none 0 0, .int .i64 0, .slice none 0 0, .slice none 0 0, .slice none 0 0] 65)) b v l p) := H.out.grew ((Grew.refl w).alloc _)
          have T0 : Hid (Turn [b] w (w.alloc (.cells #[.bool false, .slice none 0 0, .int .i64 0, .slice none 0 0, .slice none 0 0, .slice none 0 0] 65))) := (Turn.refl [b] w).alloc _
          have N0 : Hid ((w.alloc (.cells #[.bool false, .slice none 0 0, .int .i64 0, .slice none 0 0, .slice none 0 0, .slice none 0 0] 65)).heap[w.heap.size]? = some (.cells #[.bool false, .slice none 0 0, .int .i64 0, .slice none 0 0, .slice none 0 0, .slice none 0 0] 65 (0, 0))) := heap_alloc_last _ _
          go_enter Tryz.func26, Tryz.ntmps26
          go_wp2_with fail
          refine (P.out _ U0.out).mono ?_
          rintro en w1 ⟨rfl, g1⟩
          have T1 : Hid (Turn [b] w w1) := T0.out.trans (g1.turn _)
          have U1 : Hid (CU w1 b v l p) := U0.out.grew g1
          have N1 : Hid (w1.heap[w.heap.size]? = some (.cells #[.bool false, .slice none 0 0, .int .i64 0, .slice none 0 0, .slice none 0 0, .slice none 0 0] 65 (0, 0))) := (g1.turn []).other N0.out (by simp)
          clear g1 T0 U0 N0
          have c1_1 := U1.out.c1
          have z1_1 := U1.out.z1
          go_wp2_with fail
          generalize hw2 : w1.setCell { block := b, off := 1 } (Value.int IntKind.i64 ((p : Int) + 1)) = w2
          have T2 : Hid (Turn [b] w w2) := by rw [← hw2]; exact T1.out.set (Or.inl (by simp)) _
          have u2 : CU w2 b v l (p + 1) := by rw [← hw2]; have := U1.out.set1 (q := p + 1) (by omega); simpa using this
          have U2 : Hid (CU w2 b v l (p + 1)) := u2
          clear u2
          have N2 : Hid (w2.heap[w.heap.size]? = some (.cells #[.bool false, .slice none 0 0, .int .i64 0, .slice none 0 0, .slice none 0 0, .slice none 0 0] 65 (0, 0))) := by rw [← hw2]; exact heap_other N1.out (by simp; omega) _
          clear hw2 c1_1 z1_1 T1 U1 N1
          refine (AnsI.ok (listI_any U2.out 1000 (by decide) (by decide)) hx).mono ?_
          rintro en w3 ⟨rv0, rfl, r3, t3, u3⟩
          have T3 : Hid (Turn [b] w w3) := T2.out.trans t3
          have U3 : Hid (CU w3 b v l q) := u3
          have N3 : Hid (w3.heap[w.heap.size]? = some (.cells #[.bool false, .slice none 0 0, .int .i64 0, .slice none 0 0, .slice none 0 0, .slice none 0 0] 65 (0, 0))) := t3.other N2.out (by simp; omega)
          have R0_3 : Hid (RowI w.heap.size w3 rv0 ss) := row_low r3 T2.out.size
          obtain ⟨ra0, rc0, hrv0⟩ := row_one r3
          subst hrv0
          clear r3
          clear t3 u3 T2 U2 N2
          go_wp2_with fail
          refine (AnsX.ok (compType_any U3.out) hy).mono ?_
          rintro en w4 ⟨cs, rfl, c4, t4, u4⟩
          have T4 : Hid (Turn [b] w w4) := T3.out.trans t4
          have U4 : Hid (CU w4 b v l r) := u4
          have R0_4 : Hid (RowI w.heap.size w4 (.slice ra0 ss.length rc0) ss) := row_turn R0_3.out t4 (by intro x hx; simp at hx; subst hx; exact NoT.of U3.out.obj (by decide))
          clear R0_3
          have N4 : Hid (w4.heap[w.heap.size]? = some (.cells #[.bool false, .slice none 0 0, .int .i64 0, .slice none 0 0, .slice none 0 0, .slice none 0 0] 65 (0, 0))) := t4.other N3.out (by simp; omega)
          obtain ⟨pv, rv, fv, hcs, z2, z3, z4⟩ := (show CompC w.heap.size w4 cs x from c4.low T3.out.size)
          obtain ⟨pa, pc, e2⟩ := row_one z2
          obtain ⟨ra, rc, e3⟩ := row_one z3
          obtain ⟨fa, fc, e4⟩ := row_one z4
          subst e2
          subst e3
          subst e4
          subst hcs
          have Z2 : Hid (RowV w.heap.size w4 (.slice pa x.params.length pc) x.params) := z2
          have Z3 : Hid (RowV w.heap.size w4 (.slice ra x.results.length rc) x.results) := z3
          have Z4 : Hid (RowF w.heap.size w4 (.slice fa x.fields.length fc) x.fields) := z4
          clear z2 z3 z4 c4
          clear t4 u4 T3 U3 N3
          have hne : ¬ b = w.heap.size := by omega
          have n0 := cell_of N4.out 0
          have y0 := free_of N4.out 0
          have n1 := cell_of N4.out 1
          have y1 := free_of N4.out 1
          have n2 := cell_of N4.out 2
          have y2 := free_of N4.out 2
          have n3 := cell_of N4.out 3
          have y3 := free_of N4.out 3
          have n4 := cell_of N4.out 4
          have y4 := free_of N4.out 4
          have n5 := cell_of N4.out 5
          have y5 := free_of N4.out 5
          simp at n0 n1 n2 n3 n4 n5
          go_wp2_with fail
          refine bodyPost_ret (v := .agg #[.bool true, .slice ra0 ss.length rc0, .int .i64 x.kind, .slice pa x.params.length pc, .slice ra x.results.length rc, .slice fa x.fields.length fc]) (by simp [results, Tryz.results26, go_sem, n0, n1, n2, n3, n4, n5]) rfl ?_
          have hNT : ∀ (e : TypeId), 65 ≠ e → ∀ y ∈ [w.heap.size], NoT w4 y e := fun e he y hy => by simp at hy; subst hy; exact NoT.of N4.out he
          exact ⟨[.bool true, .slice ra0 ss.length rc0, .int .i64 x.kind, .slice pa x.params.length pc, .slice ra x.results.length rc, .slice fa x.fields.length fc], rfl, ⟨_, _, _, _, rfl, row_turn R0_4.out (((((((Turn.refl [w.heap.size] w4).set (p := ⟨w.heap.size, 0, none⟩) (Or.inl (by simp)) _).set (p := ⟨w.heap.size, 1, none⟩) (Or.inl (by simp)) _).set (p := ⟨w.heap.size, 2, none⟩) (Or.inl (by simp)) _).set (p := ⟨w.heap.size, 3, none⟩) (Or.inl (by simp)) _).set (p := ⟨w.heap.size, 4, none⟩) (Or.inl (by simp)) _).set (p := ⟨w.heap.size, 5, none⟩) (Or.inl (by simp)) _) (hNT 3 (by decide)), row_turn Z2.out (((((((Turn.refl [w.heap.size] w4).set (p := ⟨w.heap.size, 0, none⟩) (Or.inl (by simp)) _).set (p := ⟨w.heap.size, 1, none⟩) (Or.inl (by simp)) _).set (p := ⟨w.heap.size, 2, none⟩) (Or.inl (by simp)) _).set (p := ⟨w.heap.size, 3, none⟩) (Or.inl (by simp)) _).set (p := ⟨w.heap.size, 4, none⟩) (Or.inl (by simp)) _).set (p := ⟨w.heap.size, 5, none⟩) (Or.inl (by simp)) _) (hNT 26 (by decide)), row_turn Z3.out (((((((Turn.refl [w.heap.size] w4).set (p := ⟨w.heap.size, 0, none⟩) (Or.inl (by simp)) _).set (p := ⟨w.heap.size, 1, none⟩) (Or.inl (by simp)) _).set (p := ⟨w.heap.size, 2, none⟩) (Or.inl (by simp)) _).set (p := ⟨w.heap.size, 3, none⟩) (Or.inl (by simp)) _).set (p := ⟨w.heap.size, 4, none⟩) (Or.inl (by simp)) _).set (p := ⟨w.heap.size, 5, none⟩) (Or.inl (by simp)) _) (hNT 26 (by decide)), row_turn Z4.out (((((((Turn.refl [w.heap.size] w4).set (p := ⟨w.heap.size, 0, none⟩) (Or.inl (by simp)) _).set (p := ⟨w.heap.size, 1, none⟩) (Or.inl (by simp)) _).set (p := ⟨w.heap.size, 2, none⟩) (Or.inl (by simp)) _).set (p := ⟨w.heap.size, 3, none⟩) (Or.inl (by simp)) _).set (p := ⟨w.heap.size, 4, none⟩) (Or.inl (by simp)) _).set (p := ⟨w.heap.size, 5, none⟩) (Or.inl (by simp)) _) (hNT 107 (by decide))⟩, ((((((((Fin.mk_ T4.out U4.out)).set H.out (Nat.le_refl _)).set H.out (Nat.le_refl _)).set H.out (Nat.le_refl _)).set H.out (Nat.le_refl _)).set H.out (Nat.le_refl _)).set H.out (Nat.le_refl _))⟩
    rw [if_neg (by omega)]
    have b80 : (c != 80) = true := by simpa using h80
    have b79 : (c != 79) = true := by simpa using h79
    cases hy : compR l p with
    | error y =>
      obtain ⟨f, e⟩ := y
      simp only [mapR]
      have U0 : Hid (CU (w.alloc (.cells #[.bool false, .slice none 0 0, .int .i64 0, .slice none 0 0, .slice none 0 0, .slice none 0 0] 65)) b v l p) := H.out.grew ((Grew.refl w).alloc _)
      have T0 : Hid (Turn [b] w (w.alloc (.cells #[.bool false, .slice none 0 0, .int .i64 0, .slice none 0 0, .slice none 0 0, .slice none 0 0] 65))) := (Turn.refl [b] w).alloc _
      have N0 : Hid ((w.alloc (.cells #[.bool false, .slice none 0 0, .int .i64 0, .slice none 0 0, .slice none 0 0, .slice none 0 0] 65)).heap[w.heap.size]? = some (.cells #[.bool false, .slice none 0 0, .int .i64 0, .slice none 0 0, .slice none 0 0, .slice none 0 0] 65 (0, 0))) := heap_alloc_last _ _
      go_enter Tryz.func26, Tryz.ntmps26
      go_wp2_with fail
      refine (P.out _ U0.out).mono ?_
      rintro en w1 ⟨rfl, g1⟩
      have T1 : Hid (Turn [b] w w1) := T0.out.trans (g1.turn _)
      have U1 : Hid (CU w1 b v l p) := U0.out.grew g1
      have N1 : Hid (w1.heap[w.heap.size]? = some (.cells #[.bool false, .slice none 0 0, .int .i64 0, .slice none 0 0, .slice none 0 0, .slice none 0 0] 65 (0, 0))) := (g1.turn []).other N0.out (by simp)
      clear g1 T0 U0 N0
      go_wp2_with fail
      refine (AnsX.er (compType_any U1.out) hy).mono ?_
      rintro en w2 ⟨rfl, t2⟩
      have T2 : Hid (Turn [b] w w2) := T1.out.trans t2
      clear t2
      go_wp2_with fail
      exact ⟨rfl, rfl, T2.out⟩
    | ok y =>
      obtain ⟨x, r⟩ := y
      simp only [mapR]
      have U0 : Hid (CU (w.alloc (.cells #[.bool false, .slice none 0 0, .int .i64 0, .slice none 0 0, .slice none 0 0, .slice none 0 0] 65)) b v l p) := H.out.grew ((Grew.refl w).alloc _)
      have T0 : Hid (Turn [b] w (w.alloc (.cells #[.bool false, .slice none 0 0, .int .i64 0, .slice none 0 0, .slice none 0 0, .slice none 0 0] 65))) := (Turn.refl [b] w).alloc _
      have N0 : Hid ((w.alloc (.cells #[.bool false, .slice none 0 0, .int .i64 0, .slice none 0 0, .slice none 0 0, .slice none 0 0] 65)).heap[w.heap.size]? = some (.cells #[.bool false, .slice none 0 0, .int .i64 0, .slice none 0 0, .slice none 0 0, .slice none 0 0] 65 (0, 0))) := heap_alloc_last _ _
      go_enter Tryz.func26, Tryz.ntmps26
      go_wp2_with fail
      refine (P.out _ U0.out).mono ?_
      rintro en w1 ⟨rfl, g1⟩
      have T1 : Hid (Turn [b] w w1) := T0.out.trans (g1.turn _)
      have U1 : Hid (CU w1 b v l p) := U0.out.grew g1
      have N1 : Hid (w1.heap[w.heap.size]? = some (.cells #[.bool false, .slice none 0 0, .int .i64 0, .slice none 0 0, .slice none 0 0, .slice none 0 0] 65 (0, 0))) := (g1.turn []).other N0.out (by simp)
      clear g1 T0 U0 N0
      go_wp2_with fail
      refine (AnsX.ok (compType_any U1.out) hy).mono ?_
      rintro en w2 ⟨cs, rfl, c2, t2, u2⟩
      have T2 : Hid (Turn [b] w w2) := T1.out.trans t2
      have U2 : Hid (CU w2 b v l r) := u2
      have N2 : Hid (w2.heap[w.heap.size]? = some (.cells #[.bool false, .slice none 0 0, .int .i64 0, .slice none 0 0, .slice none 0 0, .slice none 0 0] 65 (0, 0))) := t2.other N1.out (by simp; omega)
      obtain ⟨pv, rv, fv, hcs, z2, z3, z4⟩ := (show CompC w.heap.size w2 cs x from c2.low T1.out.size)
      obtain ⟨pa, pc, e2⟩ := row_one z2
      obtain ⟨ra, rc, e3⟩ := row_one z3
      obtain ⟨fa, fc, e4⟩ := row_one z4
      subst e2
      subst e3
      subst e4
      subst hcs
      have Z2 : Hid (RowV w.heap.size w2 (.slice pa x.params.length pc) x.params) := z2
      have Z3 : Hid (RowV w.heap.size w2 (.slice ra x.results.length rc) x.results) := z3
      have Z4 : Hid (RowF w.heap.size w2 (.slice fa x.fields.length fc) x.fields) := z4
      clear z2 z3 z4 c2
      clear t2 u2 T1 U1 N1
      have hne : ¬ b = w.heap.size := by omega
      have n0 := cell_of N2.out 0
      have y0 := free_of N2.out 0
      have n1 := cell_of N2.out 1
      have y1 := free_of N2.out 1
      have n2 := cell_of N2.out 2
      have y2 := free_of N2.out 2
      have n3 := cell_of N2.out 3
      have y3 := free_of N2.out 3
      have n4 := cell_of N2.out 4
      have y4 := free_of N2.out 4
      have n5 := cell_of N2.out 5
      have y5 := free_of N2.out 5
      simp at n0 n1 n2 n3 n4 n5
      go_wp2_with fail
      refine bodyPost_ret (v := .agg #[.bool true, .slice none 0 0, .int .i64 x.kind, .slice pa x.params.length pc, .slice ra x.results.length rc, .slice fa x.fields.length fc]) (by simp [results, Tryz.results26, go_sem, n0, n1, n2, n3, n4, n5]) rfl ?_
      have hNT : ∀ (e : TypeId), 65 ≠ e → ∀ y ∈ [w.heap.size], NoT w2 y e := fun e he y hy => by simp at hy; subst hy; exact NoT.of N2.out he
      exact ⟨[.bool true, .slice none 0 0, .int .i64 x.kind, .slice pa x.params.length pc, .slice ra x.results.length rc, .slice fa x.fields.length fc], rfl, ⟨_, _, _, _, rfl, RowI.nil _ _, row_turn Z2.out (((((((Turn.refl [w.heap.size] w2).set (p := ⟨w.heap.size, 0, none⟩) (Or.inl (by simp)) _).set (p := ⟨w.heap.size, 1, none⟩) (Or.inl (by simp)) _).set (p := ⟨w.heap.size, 2, none⟩) (Or.inl (by simp)) _).set (p := ⟨w.heap.size, 3, none⟩) (Or.inl (by simp)) _).set (p := ⟨w.heap.size, 4, none⟩) (Or.inl (by simp)) _).set (p := ⟨w.heap.size, 5, none⟩) (Or.inl (by simp)) _) (hNT 26 (by decide)), row_turn Z3.out (((((((Turn.refl [w.heap.size] w2).set (p := ⟨w.heap.size, 0, none⟩) (Or.inl (by simp)) _).set (p := ⟨w.heap.size, 1, none⟩) (Or.inl (by simp)) _).set (p := ⟨w.heap.size, 2, none⟩) (Or.inl (by simp)) _).set (p := ⟨w.heap.size, 3, none⟩) (Or.inl (by simp)) _).set (p := ⟨w.heap.size, 4, none⟩) (Or.inl (by simp)) _).set (p := ⟨w.heap.size, 5, none⟩) (Or.inl (by simp)) _) (hNT 26 (by decide)), row_turn Z4.out (((((((Turn.refl [w.heap.size] w2).set (p := ⟨w.heap.size, 0, none⟩) (Or.inl (by simp)) _).set (p := ⟨w.heap.size, 1, none⟩) (Or.inl (by simp)) _).set (p := ⟨w.heap.size, 2, none⟩) (Or.inl (by simp)) _).set (p := ⟨w.heap.size, 3, none⟩) (Or.inl (by simp)) _).set (p := ⟨w.heap.size, 4, none⟩) (Or.inl (by simp)) _).set (p := ⟨w.heap.size, 5, none⟩) (Or.inl (by simp)) _) (hNT 107 (by decide))⟩, ((((((((Fin.mk_ T2.out U2.out)).set H.out (Nat.le_refl _)).set H.out (Nat.le_refl _)).set H.out (Nat.le_refl _)).set H.out (Nat.le_refl _)).set H.out (Nat.le_refl _)).set H.out (Nat.le_refl _))⟩
  · have hr : subR l p = .error (p, 3) := by unfold subR; exact atR_no hp
    rw [hr]
    clear hr
    have U0 : Hid (CU (w.alloc (.cells #[.bool false, .slice none 0 0, .int .i64 0, .slice none 0 0, .slice none 0 0, .slice none 0 0] 65)) b v l p) := H.out.grew ((Grew.refl w).alloc _)
    have T0 : Hid (Turn [b] w (w.alloc (.cells #[.bool false, .slice none 0 0, .int .i64 0, .slice none 0 0, .slice none 0 0, .slice none 0 0] 65))) := (Turn.refl [b] w).alloc _
    have N0 : Hid ((w.alloc (.cells #[.bool false, .slice none 0 0, .int .i64 0, .slice none 0 0, .slice none 0 0, .slice none 0 0] 65)).heap[w.heap.size]? = some (.cells #[.bool false, .slice none 0 0, .int .i64 0, .slice none 0 0, .slice none 0 0, .slice none 0 0] 65 (0, 0))) := heap_alloc_last _ _
    go_enter Tryz.func26, Tryz.ntmps26
    go_wp2_with fail
    refine (peek_no U0.out hp).mono ?_
    rintro en w1 ⟨rfl, g1⟩
    have T1 : Hid (Turn [b] w w1) := T0.out.trans (g1.turn _)
    clear g1
    go_wp2_with fail
    exact ⟨rfl, rfl, T1.out⟩
theorem infoS : (Tryz.prog.info? 65).map (fun i => (i.zero, i.size, i.bytes)) = some (some (.agg #[.bool false, .slice none 0 0, .int .i64 0, .slice none 0 0, .slice none 0 0, .slice none 0 0]), 6, 112) := by kernel_rfl
theorem CU.no4 {w : World} {b : Nat} {v : Value} {l : List Int} {p : Nat} (h : CU w b v l p) {e : TypeId} (he : 82 ≠ e) : ∀ x ∈ [b], NoT w x e := by
  intro x hx
  simp at hx
  subst hx
  exact NoT.of h.obj he
def AnsS (b : Nat) (v : Value) (l : List Int) (w : World) (r : RS (List SB)) (en : Ending) (w' : World) : Prop := match r with
  | .ok (x, q) => ∃ rv, en = .returned rv ∧ SubsQ w.heap.size w' rv x ∧ Turn [b] w w' ∧ CU w' b v l q
  | .error (f, e) => en = .panicked (flt f e) ∧ Turn [b] w w'
theorem AnsS.er {b : Nat} {v : Value} {l : List Int} {w : World} {r : RS (List SB)} {f e : Nat} {n : FuncId} {args : Array Value} (h : Calls Tryz.prog n args w (AnsS b v l w r)) (hr : r = .error (f, e)) : Calls Tryz.prog n args w fun en w' => en = .panicked (flt f e) ∧ Turn [b] w w' := by subst hr; exact h
theorem AnsS.ok {b : Nat} {v : Value} {l : List Int} {w : World} {r : RS (List SB)} {x : List SB} {q : Nat} {n : FuncId} {args : Array Value} (h : Calls Tryz.prog n args w (AnsS b v l w r)) (hr : r = .ok (x, q)) : Calls Tryz.prog n args w fun en w' => ∃ rv, en = .returned rv ∧ SubsQ w.heap.size w' rv x ∧ Turn [b] w w' ∧ CU w' b v l q := by subst hr; exact h
set_option maxRecDepth 100000 in
set_option maxHeartbeats 1000000 in
theorem listS_any {w : World} {b : Nat} {v : Value} {l : List Int} {p : Nat} (h : CU w b v l p) (lim : Int) (h0 : 0 ≤ lim) (h1 : lim ≤ 10000) :
    Calls Tryz.prog 27 #[.pointer (some ⟨b, 0, none⟩), .int .u32 lim, .func (.func 26) #[] #[]] w (AnsS b v l w (listR lim (subR l) l p)) := by
  have H : Hid (CU w b v l p) := h
  have hb : b < w.heap.size := h.lt
  have c1 := h.c1
  have C := numU_any h
  have hle := h.le
  have HB : Hid (Byt l) := h.byt
  clear h
  unfold listR
  rcases numR_ways (b := 32) (sg := false) hle with ⟨n, q0, hr, hq1, hq2, hx⟩ | ⟨n, f, e, hr, hq1, hq2, hq3, hx⟩
  · have hnb := rd_32 HB.out hr
    rw [hx] at C ⊢
    unfold limR
    simp only
    clear hx hr
    by_cases h3 : lim < n
    · rw [if_pos h3]
      have d3 : decide (lim < n) = true := by simpa using h3
      go_enter Tryz.func27, Tryz.ntmps27
      go_wp2_with fail
      refine C.mono ?_
      rintro en w1 ⟨rfl, t1, u1⟩
      have T1 : Hid (Turn [b] w w1) := t1
      clear C t1 u1
      go_wp2_with fail
      refine (giveUp_any _ 2 _).mono ?_
      rintro en w2 ⟨rfl, h2⟩
      obtain rfl := h2.symm
      go_wp2_with fail
      exact ⟨rfl, rfl, T1.out⟩
    · rw [if_neg h3]
      have d3 : decide (lim < n) = false := by simpa using h3
      obtain ⟨N, rfl⟩ : ∃ N : Nat, n = N := ⟨n.toNat, by omega⟩
      simp only [thenR, Int.toNat_natCast]
      obtain ⟨R, hR⟩ : ∃ R, R = manyR (subR l) N [] q0 := ⟨_, rfl⟩
      rw [← hR]
      have HR : Hid (R = manyR (subR l) N [] q0) := hR
      clear hR
      have hN : N ≤ 10000 := by omega
      go_enter Tryz.func27, Tryz.ntmps27
      go_wp2_with fail
      refine C.mono ?_
      rintro en w1 ⟨rfl, t1, u1⟩
      have T1 : Hid (Turn [b] w w1) := t1
      have U1 : Hid (CU w1 b v l q0) := u1
      have hs1 := t1.size
      clear C t1 u1 c1
      go_wp2_with fail
      go_loopw [9, 22] (fun v_ n_ wr => ∃ (k : Nat) (acc : List SB) (q : Nat), n_ = .int .u32 k ∧ k ≤ N ∧ acc.length = k ∧ w.heap.size ≤ wr.heap.size ∧ Hid (SubsQ w.heap.size wr v_ acc) ∧ Hid (CU wr b v l q) ∧ Hid (Turn [b] w wr) ∧ Hid (R = manyR (subR l) (N - k) acc q)) (fun _ n_ _ => N - (intOf n_).toNat)
      case atStart => exact ⟨0, [], q0, rfl, by omega, rfl, hs1, SubsQ.nil _ _, U1, T1, HR⟩
      case round =>
        obtain ⟨k, acc, q, rfl, hk, hacc, hsr, WR, UR, TR, HE⟩ := hrel
        subst hacc
        obtain ⟨aa, cc, hv⟩ := WR.out.one
        subst hv
        by_cases hkn : acc.length < N
        · have d4 : decide ((acc.length : Int) < (N : Int)) = true := by simp; omega
          have HE2 := HE.out
          rw [show N - acc.length = (N - (acc.length + 1)) + 1 by omega, manyR] at HE2
          have D := subType_any UR.out
          cases hx : subR l q with
          | error y =>
            obtain ⟨f, e⟩ := y
            rw [hx] at HE2
            have D' := AnsX.er D hx
            have HE3 : Hid (R = .error (f, e)) := HE2
            clear HE HE2 hx D
            go_wp2_with fail
            refine D'.mono ?_
            rintro en w2 ⟨rfl, t2⟩
            have T2 : Hid (Turn [b] w w2) := TR.out.trans t2
            clear D' t2
            go_wp2_with fail
            exact ⟨rfl, by rw [HE3.out]; exact ⟨rfl, T2.out⟩⟩
          | ok y =>
            obtain ⟨x, q1⟩ := y
            have HE3 : Hid (R = manyR (subR l) (N - (acc.length + 1)) (acc ++ [x]) q1) := by
              rw [hx] at HE2
              exact HE2
            have D' := AnsX.ok D hx
            clear HE HE2 D
            go_wp2_with fail
            refine D'.mono ?_
            rintro en w2 ⟨cs, rfl, c2, t2, u2⟩
            have T2 : Hid (Turn [b] w w2) := TR.out.trans t2
            have U2 : Hid (CU w2 b v l q1) := u2
            have W2 := WR.out.turn t2 (UR.out.no4 (by decide)) (UR.out.no4 (by decide)) (UR.out.no4 (by decide)) (UR.out.no4 (by decide))
            have hB2 : w.heap.size ≤ w2.heap.size := Nat.le_trans hsr t2.size
            have C2 : SubC w.heap.size w2 cs x := c2.low hsr
            obtain ⟨ds, hrow, hel⟩ := W2
            have C3 := C2
            obtain ⟨sv, pv, rv, fv, hcs, z1, z2, z3, z4⟩ := C2
            obtain ⟨sa, sc, e1⟩ := row_one z1
            obtain ⟨pa, pc, e2⟩ := row_one z2
            obtain ⟨ra, rc, e3⟩ := row_one z3
            obtain ⟨fa, fc, e4⟩ := row_one z4
            subst e1
            subst e2
            subst e3
            subst e4
            subst hcs
            have HROW : Hid (w2.ownsRow w.heap.size 65 6 (.slice aa acc.length cc) acc.length ds) := hrow
            have HEL : Hid (∀ i x, acc[i]? = some x → SubC w.heap.size w2 ((ds.drop (i * 6)).take 6) x) := hel
            have HC3 : Hid (SubC w.heap.size w2 [.bool x.final_, .slice sa x.supers.length sc, .int .i64 x.comp.kind, .slice pa x.comp.params.length pc, .slice ra x.comp.results.length rc, .slice fa x.comp.fields.length fc] x) := C3
            clear D' t2 u2 WR TR UR z1 z2 z3 z4 c2 C3 hrow hel hx
            go_wp2_with (at_builtin; refine wp_app1 (v := .slice aa acc.length cc) (n := acc.length) (cs := ds) (B := w.heap.size) rfl _ _ 22 65 6 112 _ Tryz.underlying22 infoS rfl (by decide) (by decide) rfl b rfl rfl HROW.out hB2 rfl (by simp [Value.oneCell']) (by omega) ?_; intro v3 w3 hO3 hT3 hG3)
            have hQ3 : SubsQ w.heap.size w3 v3 (acc ++ [x]) := SubsQ.snoc HROW.out HEL.out HC3.out rfl hO3 hG3
            have T3 : Hid (Turn [b] w w3) := hT3.turn T2.out (Nat.le_refl _)
            have o3 : w3.heap[b]? = some (cur v q1) := (hG3 b U2.out.lt (fun hh => by have := (World.ownsRow.lt HROW.out b hh.symm).1; omega)).trans U2.out.obj
            have U3 : Hid (CU w3 b v l q1) := H.out.of T3.out o3 U2.out.le
            clear o3
            go_roundw
            case rel => exact ⟨acc.length + 1, acc ++ [x], q1, by go_num, by omega, by simp, Nat.le_trans hB2 hT3.size, hQ3, U3, T3, HE3⟩
            case measure => simp [intOf]; omega
        · have d4 : decide ((acc.length : Int) < (N : Int)) = false := by simp; omega
          have HE2 := HE.out
          rw [show N - acc.length = 0 by omega, manyR] at HE2
          have HE3 : Hid (R = .ok (acc, q)) := HE2
          clear HE HE2
          go_wp2_with fail
          go_ret
          rw [HE3.out]
          exact ⟨_, rfl, WR.out, TR.out, UR.out⟩
  · rw [hx] at C ⊢
    unfold limR
    simp only [thenR]
    clear hx hr
    go_enter Tryz.func27, Tryz.ntmps27
    go_wp2_with fail
    refine C.mono ?_
    rintro en w1 ⟨rfl, t1⟩
    go_wp2_with fail
    exact ⟨rfl, rfl, t1⟩
set_option maxRecDepth 100000 in
set_option maxHeartbeats 1000000 in
theorem recType_any {w : World} {b : Nat} {v : Value} {l : List Int} {p : Nat} (h : CU w b v l p) :
    Calls Tryz.prog 13 #[.pointer (some ⟨b, 0, none⟩)] w (AnsX RecC b v l w (recR l p)) := by
  have H : Hid (CU w b v l p) := h
  have hb : b < w.heap.size := h.lt
  have hl := h.len
  have hle := h.le
  clear h
  by_cases hp : p < l.length
  · unfold recR
    rw [atR_in hp]
    have P : Hid (∀ w', CU w' b v l p → Calls Tryz.prog 25 #[.pointer (some ⟨b, 0, none⟩)] w' fun en w'' => en = .returned (.int .u8 (l.getD p 0)) ∧ Grew w' w'') := fun w' u => peek_ok u hp
    generalize l.getD p 0 = c at *
    by_cases h78 : c = 78
    · subst h78
      rw [if_pos rfl]
      cases hx : listR 10000 (subR l) l (p + 1) with
      | error y =>
        obtain ⟨f, e⟩ := y
        simp only [mapR]
        have U0 : Hid (CU (w.alloc (.cells #[.slice none 0 0, .bool false] 24)) b v l p) := H.out.grew ((Grew.refl w).alloc _)
        have T0 : Hid (Turn [b] w (w.alloc (.cells #[.slice none 0 0, .bool false] 24))) := (Turn.refl [b] w).alloc _
        have N0 : Hid ((w.alloc (.cells #[.slice none 0 0, .bool false] 24)).heap[w.heap.size]? = some (.cells #[.slice none 0 0, .bool false] 24 (0, 0))) := heap_alloc_last _ _
        go_enter Tryz.func13, Tryz.ntmps13
        go_wp2_with fail
        refine (P.out _ U0.out).mono ?_
        rintro en w1 ⟨rfl, g1⟩
        have T1 : Hid (Turn [b] w w1) := T0.out.trans (g1.turn _)
        have U1 : Hid (CU w1 b v l p) := U0.out.grew g1
        have N1 : Hid (w1.heap[w.heap.size]? = some (.cells #[.slice none 0 0, .bool false] 24 (0, 0))) := (g1.turn []).other N0.out (by simp)
        clear g1 T0 U0 N0
        have c1_1 := U1.out.c1
        have z1_1 := U1.out.z1
        go_wp2_with fail
        generalize hw2 : w1.setCell { block := b, off := 1 } (Value.int IntKind.i64 ((p : Int) + 1)) = w2
        have T2 : Hid (Turn [b] w w2) := by rw [← hw2]; exact T1.out.set (Or.inl (by simp)) _
        have u2 : CU w2 b v l (p + 1) := by rw [← hw2]; have := U1.out.set1 (q := p + 1) (by omega); simpa using this
        have U2 : Hid (CU w2 b v l (p + 1)) := u2
        clear u2
        have N2 : Hid (w2.heap[w.heap.size]? = some (.cells #[.slice none 0 0, .bool false] 24 (0, 0))) := by rw [← hw2]; exact heap_other N1.out (by simp; omega) _
        clear hw2 c1_1 z1_1 T1 U1 N1
        refine (AnsS.er (listS_any U2.out 10000 (by decide) (by decide)) hx).mono ?_
        rintro en w3 ⟨rfl, t3⟩
        have T3 : Hid (Turn [b] w w3) := T2.out.trans t3
        clear t3
        go_wp2_with fail
        exact ⟨rfl, rfl, T3.out⟩
      | ok y =>
        obtain ⟨ts, q⟩ := y
        simp only [mapR]
        have U0 : Hid (CU (w.alloc (.cells #[.slice none 0 0, .bool false] 24)) b v l p) := H.out.grew ((Grew.refl w).alloc _)
        have T0 : Hid (Turn [b] w (w.alloc (.cells #[.slice none 0 0, .bool false] 24))) := (Turn.refl [b] w).alloc _
        have N0 : Hid ((w.alloc (.cells #[.slice none 0 0, .bool false] 24)).heap[w.heap.size]? = some (.cells #[.slice none 0 0, .bool false] 24 (0, 0))) := heap_alloc_last _ _
        go_enter Tryz.func13, Tryz.ntmps13
        go_wp2_with fail
        refine (P.out _ U0.out).mono ?_
        rintro en w1 ⟨rfl, g1⟩
        have T1 : Hid (Turn [b] w w1) := T0.out.trans (g1.turn _)
        have U1 : Hid (CU w1 b v l p) := U0.out.grew g1
        have N1 : Hid (w1.heap[w.heap.size]? = some (.cells #[.slice none 0 0, .bool false] 24 (0, 0))) := (g1.turn []).other N0.out (by simp)
        clear g1 T0 U0 N0
        have c1_1 := U1.out.c1
        have z1_1 := U1.out.z1
        go_wp2_with fail
        generalize hw2 : w1.setCell { block := b, off := 1 } (Value.int IntKind.i64 ((p : Int) + 1)) = w2
        have T2 : Hid (Turn [b] w w2) := by rw [← hw2]; exact T1.out.set (Or.inl (by simp)) _
        have u2 : CU w2 b v l (p + 1) := by rw [← hw2]; have := U1.out.set1 (q := p + 1) (by omega); simpa using this
        have U2 : Hid (CU w2 b v l (p + 1)) := u2
        clear u2
        have N2 : Hid (w2.heap[w.heap.size]? = some (.cells #[.slice none 0 0, .bool false] 24 (0, 0))) := by rw [← hw2]; exact heap_other N1.out (by simp; omega) _
        clear hw2 c1_1 z1_1 T1 U1 N1
        refine (AnsS.ok (listS_any U2.out 10000 (by decide) (by decide)) hx).mono ?_
        rintro en w3 ⟨rv, rfl, r3, t3, u3⟩
        have T3 : Hid (Turn [b] w w3) := T2.out.trans t3
        have U3 : Hid (CU w3 b v l q) := u3
        have N3 : Hid (w3.heap[w.heap.size]? = some (.cells #[.slice none 0 0, .bool false] 24 (0, 0))) := t3.other N2.out (by simp; omega)
        have Q3 : Hid (SubsQ w.heap.size w3 rv ts) := r3.low T2.out.size
        obtain ⟨ra, rc, hrv⟩ := r3.one
        subst hrv
        clear r3
        clear t3 u3 T2 U2 N2
        have hne : ¬ b = w.heap.size := by omega
        have n0 := cell_of N3.out 0
        have y0 := free_of N3.out 0
        have n1 := cell_of N3.out 1
        have y1 := free_of N3.out 1
        simp at n0 n1
        go_wp2_with fail
        refine bodyPost_ret (v := .agg #[.slice ra ts.length rc, .bool true]) (by simp [results, Tryz.results13, go_sem, n0, n1]) rfl ?_
        have hNT : ∀ (e : TypeId), 24 ≠ e → ∀ y ∈ [w.heap.size], NoT w3 y e := fun e he y hy => by simp at hy; subst hy; exact NoT.of N3.out he
        exact ⟨[.slice ra ts.length rc, .bool true], rfl, ⟨_, rfl, Q3.out.turn (((Turn.refl [w.heap.size] w3).set (p := ⟨w.heap.size, 0, none⟩) (Or.inl (by simp)) _).set (p := ⟨w.heap.size, 1, none⟩) (Or.inl (by simp)) _) (hNT 65 (by decide)) (hNT 3 (by decide)) (hNT 26 (by decide)) (hNT 107 (by decide))⟩, ((((Fin.mk_ T3.out U3.out)).set H.out (Nat.le_refl _)).set H.out (Nat.le_refl _))⟩
    · rw [if_neg h78]
      have b78 : (c != 78) = true := by simpa using h78
      cases hx : subR l p with
      | error y =>
        obtain ⟨f, e⟩ := y
        simp only [mapR]
        have U0 : Hid (CU (w.alloc (.cells #[.slice none 0 0, .bool false] 24)) b v l p) := H.out.grew ((Grew.refl w).alloc _)
        have T0 : Hid (Turn [b] w (w.alloc (.cells #[.slice none 0 0, .bool false] 24))) := (Turn.refl [b] w).alloc _
        have N0 : Hid ((w.alloc (.cells #[.slice none 0 0, .bool false] 24)).heap[w.heap.size]? = some (.cells #[.slice none 0 0, .bool false] 24 (0, 0))) := heap_alloc_last _ _
        go_enter Tryz.func13, Tryz.ntmps13
        go_wp2_with fail
        refine (P.out _ U0.out).mono ?_
        rintro en w1 ⟨rfl, g1⟩
        have T1 : Hid (Turn [b] w w1) := T0.out.trans (g1.turn _)
        have U1 : Hid (CU w1 b v l p) := U0.out.grew g1
        have N1 : Hid (w1.heap[w.heap.size]? = some (.cells #[.slice none 0 0, .bool false] 24 (0, 0))) := (g1.turn []).other N0.out (by simp)
        clear g1 T0 U0 N0
        go_wp2_with fail
        refine (AnsX.er (subType_any U1.out) hx).mono ?_
        rintro en w2 ⟨rfl, t2⟩
        have T2 : Hid (Turn [b] w w2) := T1.out.trans t2
        clear t2
        go_wp2_with fail
        exact ⟨rfl, rfl, T2.out⟩
      | ok y =>
        obtain ⟨x, q⟩ := y
        simp only [mapR]
        have U0 : Hid (CU (w.alloc (.cells #[.slice none 0 0, .bool false] 24)) b v l p) := H.out.grew ((Grew.refl w).alloc _)
        have T0 : Hid (Turn [b] w (w.alloc (.cells #[.slice none 0 0, .bool false] 24))) := (Turn.refl [b] w).alloc _
        have N0 : Hid ((w.alloc (.cells #[.slice none 0 0, .bool false] 24)).heap[w.heap.size]? = some (.cells #[.slice none 0 0, .bool false] 24 (0, 0))) := heap_alloc_last _ _
        go_enter Tryz.func13, Tryz.ntmps13
        go_wp2_with fail
        refine (P.out _ U0.out).mono ?_
        rintro en w1 ⟨rfl, g1⟩
        have T1 : Hid (Turn [b] w w1) := T0.out.trans (g1.turn _)
        have U1 : Hid (CU w1 b v l p) := U0.out.grew g1
        have N1 : Hid (w1.heap[w.heap.size]? = some (.cells #[.slice none 0 0, .bool false] 24 (0, 0))) := (g1.turn []).other N0.out (by simp)
        clear g1 T0 U0 N0
        go_wp2_with fail
        refine (AnsX.ok (subType_any U1.out) hx).mono ?_
        rintro en w2 ⟨cs, rfl, c2, t2, u2⟩
        have T2 : Hid (Turn [b] w w2) := T1.out.trans t2
        have U2 : Hid (CU w2 b v l q) := u2
        have N2 : Hid (w2.heap[w.heap.size]? = some (.cells #[.slice none 0 0, .bool false] 24 (0, 0))) := t2.other N1.out (by simp; omega)
        have C3 : SubC w.heap.size w2 cs x := c2.low T1.out.size
        have C4 := C3
        obtain ⟨sv, pv, rv, fv, hcs, z1, z2, z3, z4⟩ := C3
        obtain ⟨sa, sc, e1⟩ := row_one z1
        obtain ⟨pa, pc, e2⟩ := row_one z2
        obtain ⟨ra, rc, e3⟩ := row_one z3
        obtain ⟨fa, fc, e4⟩ := row_one z4
        subst e1
        subst e2
        subst e3
        subst e4
        subst hcs
        have HC3 : Hid (SubC w.heap.size w2 [.bool x.final_, .slice sa x.supers.length sc, .int .i64 x.comp.kind, .slice pa x.comp.params.length pc, .slice ra x.comp.results.length rc, .slice fa x.comp.fields.length fc] x) := C4
        clear z1 z2 z3 z4 c2 C4
        clear t2 u2 T1 U1 N1
        have hlk : w.heap.size < w2.heap.size := lt_of_obj N2.out
        have hne : ¬ b = w.heap.size := by omega
        have hne2 : ¬ w2.heap.size = w.heap.size := by omega
        have hne3 : ¬ w.heap.size = w2.heap.size := by omega
        have n0 := cell_of N2.out 0
        have n1 := cell_of N2.out 1
        have y0 := free_of N2.out 0
        have y1 := free_of N2.out 1
        simp at n0 n1
        clear hx
        go_wp2_with fail
        generalize hWf : (((w2.setCell ⟨w.heap.size, 0, none⟩ (.slice (some ⟨w2.heap.size, 0, none⟩) 1 1)).setCell ⟨w.heap.size, 1, none⟩ (.bool false)).alloc (.cells #[.bool x.final_, .slice sa x.supers.length sc, .int .i64 x.comp.kind, .slice pa x.comp.params.length pc, .slice ra x.comp.results.length rc, .slice fa x.comp.fields.length fc] 65)) = Wf
        have hN : Wf.heap[w.heap.size]? = some (.cells #[.slice (some ⟨w2.heap.size, 0, none⟩) 1 1, .bool false] 24 (0, 0)) := by
          rw [← hWf]
          refine heap_alloc ?_ _
          rw [heap_set (heap_set N2.out 0 _) 1 _]
          rfl
        have m0 := cell_of hN 0
        have m1 := cell_of hN 1
        simp at m0 m1
        refine bodyPost_ret (v := .agg #[.slice (some ⟨w2.heap.size, 0, none⟩) 1 1, .bool false]) (by simp [results, Tryz.results13, go_sem, m0, m1]) rfl ?_
        rw [← hWf]
        have hNT : ∀ (e : TypeId), 24 ≠ e → ∀ y ∈ [w.heap.size], NoT w2 y e := fun e he y hy => by simp at hy; subst hy; exact NoT.of N2.out he
        have tk : Turn [w.heap.size] w2 ((w2.setCell ⟨w.heap.size, 0, none⟩ (.slice (some ⟨w2.heap.size, 0, none⟩) 1 1)).setCell ⟨w.heap.size, 1, none⟩ (.bool false)) := ((Turn.refl [w.heap.size] w2).set (p := ⟨w.heap.size, 0, none⟩) (Or.inl (by simp)) _).set (p := ⟨w.heap.size, 1, none⟩) (Or.inl (by simp)) _
        have hsub : SubsQ w.heap.size (((w2.setCell ⟨w.heap.size, 0, none⟩ (.slice (some ⟨w2.heap.size, 0, none⟩) 1 1)).setCell ⟨w.heap.size, 1, none⟩ (.bool false)).alloc (.cells #[.bool x.final_, .slice sa x.supers.length sc, .int .i64 x.comp.kind, .slice pa x.comp.params.length pc, .slice ra x.comp.results.length rc, .slice fa x.comp.fields.length fc] 65)) (.slice (some ⟨w2.heap.size, 0, none⟩) 1 1) [x] := by
          have h := row_new ((w2.setCell ⟨w.heap.size, 0, none⟩ (.slice (some ⟨w2.heap.size, 0, none⟩) 1 1)).setCell ⟨w.heap.size, 1, none⟩ (.bool false)) 65 6 (by decide) #[.bool x.final_, .slice sa x.supers.length sc, .int .i64 x.comp.kind, .slice pa x.comp.params.length pc, .slice ra x.comp.results.length rc, .slice fa x.comp.fields.length fc] rfl (by simp [Value.oneCell'])
          have hz : ((w2.setCell ⟨w.heap.size, 0, none⟩ (.slice (some ⟨w2.heap.size, 0, none⟩) 1 1)).setCell ⟨w.heap.size, 1, none⟩ (.bool false)).heap.size = w2.heap.size := by simp
          rw [hz] at h
          refine ⟨_, row_low h (Nat.le_of_lt hlk), fun i y hy => ?_⟩
          have hi : i = 0 := by
            rcases Nat.eq_zero_or_pos i with h | h
            · exact h
            · rw [List.getElem?_eq_none (by simp; omega)] at hy; cases hy
          subst hi
          simp only [List.getElem?_cons_zero, Option.some.injEq] at hy
          subst hy
          exact (HC3.out.turn tk (hNT 3 (by decide)) (hNT 26 (by decide)) (hNT 107 (by decide))).grew ((Grew.refl _).alloc _)
        exact ⟨[.slice (some ⟨w2.heap.size, 0, none⟩) 1 1, .bool false], rfl, ⟨_, rfl, hsub⟩, ((((Fin.mk_ T2.out U2.out).set H.out (Nat.le_refl _)).set H.out (Nat.le_refl _)).grew ((Grew.refl _).alloc _))⟩
  · have hr : recR l p = .error (p, 3) := by unfold recR; exact atR_no hp
    rw [hr]
    clear hr
    have U0 : Hid (CU (w.alloc (.cells #[.slice none 0 0, .bool false] 24)) b v l p) := H.out.grew ((Grew.refl w).alloc _)
    have T0 : Hid (Turn [b] w (w.alloc (.cells #[.slice none 0 0, .bool false] 24))) := (Turn.refl [b] w).alloc _
    have N0 : Hid ((w.alloc (.cells #[.slice none 0 0, .bool false] 24)).heap[w.heap.size]? = some (.cells #[.slice none 0 0, .bool false] 24 (0, 0))) := heap_alloc_last _ _
    go_enter Tryz.func13, Tryz.ntmps13
    go_wp2_with fail
    refine (peek_no U0.out hp).mono ?_
    rintro en w1 ⟨rfl, g1⟩
    have T1 : Hid (Turn [b] w w1) := T0.out.trans (g1.turn _)
    clear g1
    go_wp2_with fail
    exact ⟨rfl, rfl, T1.out⟩
end Go.Proofs.YtchehejjdinifaaGreatDoor
