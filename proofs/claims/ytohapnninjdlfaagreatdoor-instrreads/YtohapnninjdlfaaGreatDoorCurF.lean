/-
  The walks of the cursor that reads flags, storage types, fields, block types; no statement is proved here.
-/
import Derived.Test.YtohapnninjdlfaaGreatDoorCurN
namespace Go.Proofs.YtohapnninjdlfaaGreatDoor
open Go.RowKit
set_option linter.unusedVariables false
set_option linter.unusedSimpArgs false
set_option linter.constructorNameAsVariable false

/- Only the cursor has turned, and it stands at q. -/
def Fin (b : Nat) (v : Value) (l : List Int) (w w' : World) (q : Nat) : Prop := Turn [b] w w' ∧ CU w' b v l q
theorem Fin.mk_ {b : Nat} {v : Value} {l : List Int} {w w' : World} {q : Nat} (t : Turn [b] w w') (u : CU w' b v l q) : Fin b v l w w' q := ⟨t, u⟩
theorem Fin.set {b : Nat} {v : Value} {l : List Int} {w w' : World} {p q : Nat} (h : Fin b v l w w' q) (h0 : CU w b v l p) {N j : Nat} (hN : w.heap.size ≤ N) {x : Value} : Fin b v l w (w'.setCell ⟨N, j, none⟩ x) q :=
  ⟨h.1.set (p := ⟨N, j, none⟩) (Or.inr hN) x, h0.setN h.1 h.2 N j hN x⟩
theorem Fin.inc {b : Nat} {v : Value} {l : List Int} {w w' : World} {q : Nat} (h : Fin b v l w w' q) (hq : q + 1 ≤ l.length) : Fin b v l w (w'.setCell ⟨b, 1, none⟩ (.int .i64 ((q : Int) + 1))) (q + 1) :=
  ⟨h.1.set (Or.inl (by simp)) _, by have := h.2.set1 (q := q + 1) hq; simpa using this⟩
def vt (n : Int) (nul : Bool) (h : Int) : Value := .agg #[.int .i64 n, .bool nul, .int .i64 h]
def VT.v (x : VT) : Value := vt x.num x.null x.heap
def FT.v (x : FT) : Value := .agg #[.int .i64 x.ty.num, .bool x.ty.null, .int .i64 x.ty.heap, .bool x.mut_]
def BK.v (x : BK) : Value := .agg #[.int .i64 x.type_, .int .i64 x.result.num, .bool x.result.null, .int .i64 x.result.heap]
theorem atR_in {α : Type} {l : List Int} {p : Nat} {k : Int → RS α} (h : p < l.length) : atR l p k = k (l.getD p 0) := by unfold atR; rw [if_pos h]
theorem atR_no {α : Type} {l : List Int} {p : Nat} {k : Int → RS α} (h : ¬ p < l.length) : atR l p k = .error (p, 3) := by unfold atR; rw [if_neg h]
theorem Calls.er_of {α : Type} {enc : α → Value} {b : Nat} {v : Value} {l : List Int} {w : World} {r : RS α} {f e : Nat} {n : FuncId} {args : Array Value} (h : Calls Tryz.prog n args w (Ans enc b v l w r)) (hr : r = .error (f, e)) : Calls Tryz.prog n args w fun en w' => en = .panicked (flt f e) ∧ Turn [b] w w' := by subst hr; exact h
theorem Calls.ok_of {α : Type} {enc : α → Value} {b : Nat} {v : Value} {l : List Int} {w : World} {r : RS α} {x : α} {q : Nat} {n : FuncId} {args : Array Value} (h : Calls Tryz.prog n args w (Ans enc b v l w r)) (hr : r = .ok (x, q)) : Calls Tryz.prog n args w fun en w' => en = .returned (enc x) ∧ Turn [b] w w' ∧ CU w' b v l q := by subst hr; exact h
set_option maxRecDepth 100000 in
set_option maxHeartbeats 1000000 in
theorem heapType_any {w : World} {b : Nat} {v : Value} {l : List Int} {p : Nat} (h : CU w b v l p) :
    Calls Tryz.prog 114 #[.pointer (some ⟨b, 0, none⟩)] w (Ans (fun n => .int .i64 n) b v l w (heapR l p)) := by
  have H : Hid (CU w b v l p) := h
  have hb : b < w.heap.size := h.lt
  have hl := h.len
  have hle := h.le
  clear h
  by_cases hp : p < l.length
  · unfold heapR
    rw [atR_in hp]
    have P : Hid (∀ w', CU w' b v l p → Calls Tryz.prog 124 #[.pointer (some ⟨b, 0, none⟩)] w' fun en w'' => en = .returned (.int .u8 (l.getD p 0)) ∧ Grew w' w'') := fun w' u => peek_ok u hp
    have M : Hid (∀ w', CU w' b v l p → Calls Tryz.prog 125 #[.int .u8 (l.getD p 0)] w' fun en w'' => en = .returned (.tuple #[.int .i64 (mean (l.getD p 0)).1, .int .i64 (mean (l.getD p 0)).2]) ∧ Grew w' w'') := fun w' u => meaning_any _ _ u.tab
    generalize l.getD p 0 = c at *
    generalize hm : mean c = m at *
    obtain ⟨k, m⟩ := m
    simp only at M ⊢
    clear hm
    by_cases hk4 : k = 4
    · rw [if_pos hk4]
      have k4 : (k == 4) = true := by simpa using hk4
      have U0 : Hid (CU w b v l p) := H.out
      have T0 : Hid (Turn [b] w w) := Turn.refl [b] w
      go_enter Tryz.func114, Tryz.ntmps114
      go_wp2_with fail
      refine (P.out _ U0.out).mono ?_
      rintro en w1 ⟨rfl, g1⟩
      have T1 : Hid (Turn [b] w w1) := T0.out.trans (g1.turn _)
      have U1 : Hid (CU w1 b v l p) := U0.out.grew g1
      clear g1 T0 U0
      go_wp2_with fail
      refine (M.out _ U1.out).mono ?_
      rintro en w2 ⟨rfl, g2⟩
      have T2 : Hid (Turn [b] w w2) := T1.out.trans (g2.turn _)
      have U2 : Hid (CU w2 b v l p) := U1.out.grew g2
      clear g2 T1 U1
      have c1_2 := U2.out.c1
      have z1_2 := U2.out.z1
      have hq1 : p + 1 ≤ l.length := by omega
      go_wp2_with fail
      go_ret
      exact ⟨by first | rfl | simp, (Fin.mk_ T2.out U2.out).inc hq1⟩
    · rw [if_neg hk4]
      have k4 : (k == 4) = false := by simpa using hk4
      cases hx : tyS l p with
      | error y =>
        obtain ⟨f, e⟩ := y
        have U0 : Hid (CU w b v l p) := H.out
        have T0 : Hid (Turn [b] w w) := Turn.refl [b] w
        go_enter Tryz.func114, Tryz.ntmps114
        go_wp2_with fail
        refine (P.out _ U0.out).mono ?_
        rintro en w1 ⟨rfl, g1⟩
        have T1 : Hid (Turn [b] w w1) := T0.out.trans (g1.turn _)
        have U1 : Hid (CU w1 b v l p) := U0.out.grew g1
        clear g1 T0 U0
        go_wp2_with fail
        refine (M.out _ U1.out).mono ?_
        rintro en w2 ⟨rfl, g2⟩
        have T2 : Hid (Turn [b] w w2) := T1.out.trans (g2.turn _)
        have U2 : Hid (CU w2 b v l p) := U1.out.grew g2
        clear g2 T1 U1
        go_wp2_with fail
        refine (Calls.er_of (typeS_any U2.out) hx).mono ?_
        rintro en w3 ⟨rfl, t3⟩
        have T3 : Hid (Turn [b] w w3) := T2.out.trans t3
        clear t3
        go_wp2_with fail
        exact ⟨rfl, rfl, T3.out⟩
      | ok y =>
        obtain ⟨x, q⟩ := y
        have U0 : Hid (CU w b v l p) := H.out
        have T0 : Hid (Turn [b] w w) := Turn.refl [b] w
        go_enter Tryz.func114, Tryz.ntmps114
        go_wp2_with fail
        refine (P.out _ U0.out).mono ?_
        rintro en w1 ⟨rfl, g1⟩
        have T1 : Hid (Turn [b] w w1) := T0.out.trans (g1.turn _)
        have U1 : Hid (CU w1 b v l p) := U0.out.grew g1
        clear g1 T0 U0
        go_wp2_with fail
        refine (M.out _ U1.out).mono ?_
        rintro en w2 ⟨rfl, g2⟩
        have T2 : Hid (Turn [b] w w2) := T1.out.trans (g2.turn _)
        have U2 : Hid (CU w2 b v l p) := U1.out.grew g2
        clear g2 T1 U1
        go_wp2_with fail
        refine (Calls.ok_of (typeS_any U2.out) hx).mono ?_
        rintro en w3 ⟨rfl, t3, u3⟩
        have T3 : Hid (Turn [b] w w3) := T2.out.trans t3
        have U3 : Hid (CU w3 b v l q) := u3
        clear t3 u3 T2 U2
        go_wp2_with fail
        go_ret
        exact ⟨by first | rfl | simp, (Fin.mk_ T3.out U3.out)⟩
  · have hr : heapR l p = .error (p, 3) := by unfold heapR; exact atR_no hp
    rw [hr]
    clear hr
    have U0 : Hid (CU w b v l p) := H.out
    have T0 : Hid (Turn [b] w w) := Turn.refl [b] w
    go_enter Tryz.func114, Tryz.ntmps114
    go_wp2_with fail
    refine (peek_no U0.out hp).mono ?_
    rintro en w1 ⟨rfl, g1⟩
    have T1 : Hid (Turn [b] w w1) := T0.out.trans (g1.turn _)
    clear g1
    go_wp2_with fail
    exact ⟨rfl, rfl, T1.out⟩
set_option maxRecDepth 100000 in
set_option maxHeartbeats 1000000 in
theorem refType_any {w : World} {b : Nat} {v : Value} {l : List Int} {p : Nat} (h : CU w b v l p) :
    Calls Tryz.prog 133 #[.pointer (some ⟨b, 0, none⟩)] w (Ans VT.v b v l w (refR l p)) := by
  have H : Hid (CU w b v l p) := h
  have hb : b < w.heap.size := h.lt
  have hl := h.len
  have hle := h.le
  clear h
  by_cases hp : p < l.length
  · unfold refR
    rw [atR_in hp]
    have P : Hid (∀ w', CU w' b v l p → Calls Tryz.prog 124 #[.pointer (some ⟨b, 0, none⟩)] w' fun en w'' => en = .returned (.int .u8 (l.getD p 0)) ∧ Grew w' w'') := fun w' u => peek_ok u hp
    have M : Hid (∀ w', CU w' b v l p → Calls Tryz.prog 125 #[.int .u8 (l.getD p 0)] w' fun en w'' => en = .returned (.tuple #[.int .i64 (mean (l.getD p 0)).1, .int .i64 (mean (l.getD p 0)).2]) ∧ Grew w' w'') := fun w' u => meaning_any _ _ u.tab
    have HK : (mean (l.getD p 0)).1 = 4 → heapR l p = .ok ((mean (l.getD p 0)).2, p + 1) := fun h => by unfold heapR; rw [atR_in hp, if_pos h]
    generalize l.getD p 0 = c at *
    generalize hm : mean c = m at *
    obtain ⟨k, m⟩ := m
    simp only at M HK ⊢
    clear hm
    by_cases hk4 : k = 4
    · rw [if_pos hk4]
      have k4 : (k == 4) = true := by simpa using hk4
      have HR : Hid (heapR l p = .ok (m, p + 1)) := HK hk4
      have U0 : Hid (CU (w.alloc (.cells #[.int .i64 0, .bool false, .int .i64 0] 28)) b v l p) := H.out.grew ((Grew.refl w).alloc _)
      have T0 : Hid (Turn [b] w (w.alloc (.cells #[.int .i64 0, .bool false, .int .i64 0] 28))) := (Turn.refl [b] w).alloc _
      have N0 : Hid ((w.alloc (.cells #[.int .i64 0, .bool false, .int .i64 0] 28)).heap[w.heap.size]? = some (.cells #[.int .i64 0, .bool false, .int .i64 0] 28 (0, 0))) := heap_alloc_last _ _
      go_enter Tryz.func133, Tryz.ntmps133
      go_wp2_with fail
      refine (P.out _ U0.out).mono ?_
      rintro en w1 ⟨rfl, g1⟩
      have T1 : Hid (Turn [b] w w1) := T0.out.trans (g1.turn _)
      have U1 : Hid (CU w1 b v l p) := U0.out.grew g1
      have N1 : Hid (w1.heap[w.heap.size]? = some (.cells #[.int .i64 0, .bool false, .int .i64 0] 28 (0, 0))) := (g1.turn []).other N0.out (by simp)
      clear g1 T0 U0 N0
      go_wp2_with fail
      refine (M.out _ U1.out).mono ?_
      rintro en w2 ⟨rfl, g2⟩
      have T2 : Hid (Turn [b] w w2) := T1.out.trans (g2.turn _)
      have U2 : Hid (CU w2 b v l p) := U1.out.grew g2
      have N2 : Hid (w2.heap[w.heap.size]? = some (.cells #[.int .i64 0, .bool false, .int .i64 0] 28 (0, 0))) := (g2.turn []).other N1.out (by simp)
      clear g2 T1 U1 N1
      go_wp2_with fail
      refine (Calls.ok_of (heapType_any U2.out) HR.out).mono ?_
      rintro en w3 ⟨rfl, t3, u3⟩
      have T3 : Hid (Turn [b] w w3) := T2.out.trans t3
      have U3 : Hid (CU w3 b v l (p + 1)) := u3
      have N3 : Hid (w3.heap[w.heap.size]? = some (.cells #[.int .i64 0, .bool false, .int .i64 0] 28 (0, 0))) := t3.other N2.out (by simp; omega)
      clear t3 u3 T2 U2 N2
      have hne : ¬ b = w.heap.size := by omega
      have n0 := cell_of N3.out 0
      have y0 := free_of N3.out 0
      have n1 := cell_of N3.out 1
      have y1 := free_of N3.out 1
      have n2 := cell_of N3.out 2
      have y2 := free_of N3.out 2
      simp at n0 n1 n2
      go_wp2_with fail
      refine bodyPost_ret (v := vt 5 true m) (by simp [results, Tryz.results133, go_sem, vt, VT.v, n0, n1, n2]) rfl ?_
      exact ⟨rfl, (((((Fin.mk_ T3.out U3.out)).set H.out (Nat.le_refl _)).set H.out (Nat.le_refl _)).set H.out (Nat.le_refl _))⟩
    · rw [if_neg hk4]
      have k4 : (k == 4) = false := by simpa using hk4
      by_cases hk5 : k = 5
      · rw [if_pos hk5]
        have k5 : (k == 5) = true := by simpa using hk5
        cases hx : heapR l (p + 1) with
        | error y =>
          obtain ⟨f, e⟩ := y
          have U0 : Hid (CU (w.alloc (.cells #[.int .i64 0, .bool false, .int .i64 0] 28)) b v l p) := H.out.grew ((Grew.refl w).alloc _)
          have T0 : Hid (Turn [b] w (w.alloc (.cells #[.int .i64 0, .bool false, .int .i64 0] 28))) := (Turn.refl [b] w).alloc _
          have N0 : Hid ((w.alloc (.cells #[.int .i64 0, .bool false, .int .i64 0] 28)).heap[w.heap.size]? = some (.cells #[.int .i64 0, .bool false, .int .i64 0] 28 (0, 0))) := heap_alloc_last _ _
          go_enter Tryz.func133, Tryz.ntmps133
          go_wp2_with fail
          refine (P.out _ U0.out).mono ?_
          rintro en w1 ⟨rfl, g1⟩
          have T1 : Hid (Turn [b] w w1) := T0.out.trans (g1.turn _)
          have U1 : Hid (CU w1 b v l p) := U0.out.grew g1
          have N1 : Hid (w1.heap[w.heap.size]? = some (.cells #[.int .i64 0, .bool false, .int .i64 0] 28 (0, 0))) := (g1.turn []).other N0.out (by simp)
          clear g1 T0 U0 N0
          go_wp2_with fail
          refine (M.out _ U1.out).mono ?_
          rintro en w2 ⟨rfl, g2⟩
          have T2 : Hid (Turn [b] w w2) := T1.out.trans (g2.turn _)
          have U2 : Hid (CU w2 b v l p) := U1.out.grew g2
          have N2 : Hid (w2.heap[w.heap.size]? = some (.cells #[.int .i64 0, .bool false, .int .i64 0] 28 (0, 0))) := (g2.turn []).other N1.out (by simp)
          clear g2 T1 U1 N1
          have c1_2 := U2.out.c1
          have z1_2 := U2.out.z1
          go_wp2_with fail
          generalize hw3 : w2.setCell { block := b, off := 1 } (Value.int IntKind.i64 ((p : Int) + 1)) = w3
          have T3 : Hid (Turn [b] w w3) := by rw [← hw3]; exact T2.out.set (Or.inl (by simp)) _
          have u3 : CU w3 b v l (p + 1) := by rw [← hw3]; have := U2.out.set1 (q := p + 1) (by omega); simpa using this
          have U3 : Hid (CU w3 b v l (p + 1)) := u3
          clear u3
          have N3 : Hid (w3.heap[w.heap.size]? = some (.cells #[.int .i64 0, .bool false, .int .i64 0] 28 (0, 0))) := by rw [← hw3]; exact heap_other N2.out (by simp; omega) _
          clear hw3 c1_2 z1_2 T2 U2 N2
          refine (Calls.er_of (heapType_any U3.out) hx).mono ?_
          rintro en w4 ⟨rfl, t4⟩
          have T4 : Hid (Turn [b] w w4) := T3.out.trans t4
          clear t4
          go_wp2_with fail
          exact ⟨rfl, rfl, T4.out⟩
        | ok y =>
          obtain ⟨x, q⟩ := y
          have U0 : Hid (CU (w.alloc (.cells #[.int .i64 0, .bool false, .int .i64 0] 28)) b v l p) := H.out.grew ((Grew.refl w).alloc _)
          have T0 : Hid (Turn [b] w (w.alloc (.cells #[.int .i64 0, .bool false, .int .i64 0] 28))) := (Turn.refl [b] w).alloc _
          have N0 : Hid ((w.alloc (.cells #[.int .i64 0, .bool false, .int .i64 0] 28)).heap[w.heap.size]? = some (.cells #[.int .i64 0, .bool false, .int .i64 0] 28 (0, 0))) := heap_alloc_last _ _
          go_enter Tryz.func133, Tryz.ntmps133
          go_wp2_with fail
          refine (P.out _ U0.out).mono ?_
          rintro en w1 ⟨rfl, g1⟩
          have T1 : Hid (Turn [b] w w1) := T0.out.trans (g1.turn _)
          have U1 : Hid (CU w1 b v l p) := U0.out.grew g1
          have N1 : Hid (w1.heap[w.heap.size]? = some (.cells #[.int .i64 0, .bool false, .int .i64 0] 28 (0, 0))) := (g1.turn []).other N0.out (by simp)
          clear g1 T0 U0 N0
          go_wp2_with fail
          refine (M.out _ U1.out).mono ?_
          rintro en w2 ⟨rfl, g2⟩
          have T2 : Hid (Turn [b] w w2) := T1.out.trans (g2.turn _)
          have U2 : Hid (CU w2 b v l p) := U1.out.grew g2
          have N2 : Hid (w2.heap[w.heap.size]? = some (.cells #[.int .i64 0, .bool false, .int .i64 0] 28 (0, 0))) := (g2.turn []).other N1.out (by simp)
          clear g2 T1 U1 N1
          have c1_2 := U2.out.c1
          have z1_2 := U2.out.z1
          go_wp2_with fail
          generalize hw3 : w2.setCell { block := b, off := 1 } (Value.int IntKind.i64 ((p : Int) + 1)) = w3
          have T3 : Hid (Turn [b] w w3) := by rw [← hw3]; exact T2.out.set (Or.inl (by simp)) _
          have u3 : CU w3 b v l (p + 1) := by rw [← hw3]; have := U2.out.set1 (q := p + 1) (by omega); simpa using this
          have U3 : Hid (CU w3 b v l (p + 1)) := u3
          clear u3
          have N3 : Hid (w3.heap[w.heap.size]? = some (.cells #[.int .i64 0, .bool false, .int .i64 0] 28 (0, 0))) := by rw [← hw3]; exact heap_other N2.out (by simp; omega) _
          clear hw3 c1_2 z1_2 T2 U2 N2
          refine (Calls.ok_of (heapType_any U3.out) hx).mono ?_
          rintro en w4 ⟨rfl, t4, u4⟩
          have T4 : Hid (Turn [b] w w4) := T3.out.trans t4
          have U4 : Hid (CU w4 b v l q) := u4
          have N4 : Hid (w4.heap[w.heap.size]? = some (.cells #[.int .i64 0, .bool false, .int .i64 0] 28 (0, 0))) := t4.other N3.out (by simp; omega)
          clear t4 u4 T3 U3 N3
          have hne : ¬ b = w.heap.size := by omega
          have n0 := cell_of N4.out 0
          have y0 := free_of N4.out 0
          have n1 := cell_of N4.out 1
          have y1 := free_of N4.out 1
          have n2 := cell_of N4.out 2
          have y2 := free_of N4.out 2
          simp at n0 n1 n2
          go_wp2_with fail
          refine bodyPost_ret (v := vt 5 (m == 1) x) (by simp [results, Tryz.results133, go_sem, vt, VT.v, n0, n1, n2]) rfl ?_
          exact ⟨rfl, (((((Fin.mk_ T4.out U4.out)).set H.out (Nat.le_refl _)).set H.out (Nat.le_refl _)).set H.out (Nat.le_refl _))⟩
      · rw [if_neg hk5]
        have k5 : (k == 5) = false := by simpa using hk5
        have U0 : Hid (CU (w.alloc (.cells #[.int .i64 0, .bool false, .int .i64 0] 28)) b v l p) := H.out.grew ((Grew.refl w).alloc _)
        have T0 : Hid (Turn [b] w (w.alloc (.cells #[.int .i64 0, .bool false, .int .i64 0] 28))) := (Turn.refl [b] w).alloc _
        have N0 : Hid ((w.alloc (.cells #[.int .i64 0, .bool false, .int .i64 0] 28)).heap[w.heap.size]? = some (.cells #[.int .i64 0, .bool false, .int .i64 0] 28 (0, 0))) := heap_alloc_last _ _
        go_enter Tryz.func133, Tryz.ntmps133
        go_wp2_with fail
        refine (P.out _ U0.out).mono ?_
        rintro en w1 ⟨rfl, g1⟩
        have T1 : Hid (Turn [b] w w1) := T0.out.trans (g1.turn _)
        have U1 : Hid (CU w1 b v l p) := U0.out.grew g1
        have N1 : Hid (w1.heap[w.heap.size]? = some (.cells #[.int .i64 0, .bool false, .int .i64 0] 28 (0, 0))) := (g1.turn []).other N0.out (by simp)
        clear g1 T0 U0 N0
        go_wp2_with fail
        refine (M.out _ U1.out).mono ?_
        rintro en w2 ⟨rfl, g2⟩
        have T2 : Hid (Turn [b] w w2) := T1.out.trans (g2.turn _)
        have U2 : Hid (CU w2 b v l p) := U1.out.grew g2
        have N2 : Hid (w2.heap[w.heap.size]? = some (.cells #[.int .i64 0, .bool false, .int .i64 0] 28 (0, 0))) := (g2.turn []).other N1.out (by simp)
        clear g2 T1 U1 N1
        have c1_2 := U2.out.c1
        go_wp2_with fail
        refine (giveUp_any _ 4 _).mono ?_
        rintro en w9 ⟨rfl, h9⟩
        obtain rfl := h9.symm
        go_wp2_with fail
        exact ⟨rfl, rfl, T2.out⟩
  · have hr : refR l p = .error (p, 3) := by unfold refR; exact atR_no hp
    rw [hr]
    clear hr
    have U0 : Hid (CU (w.alloc (.cells #[.int .i64 0, .bool false, .int .i64 0] 28)) b v l p) := H.out.grew ((Grew.refl w).alloc _)
    have T0 : Hid (Turn [b] w (w.alloc (.cells #[.int .i64 0, .bool false, .int .i64 0] 28))) := (Turn.refl [b] w).alloc _
    have N0 : Hid ((w.alloc (.cells #[.int .i64 0, .bool false, .int .i64 0] 28)).heap[w.heap.size]? = some (.cells #[.int .i64 0, .bool false, .int .i64 0] 28 (0, 0))) := heap_alloc_last _ _
    go_enter Tryz.func133, Tryz.ntmps133
    go_wp2_with fail
    refine (peek_no U0.out hp).mono ?_
    rintro en w1 ⟨rfl, g1⟩
    have T1 : Hid (Turn [b] w w1) := T0.out.trans (g1.turn _)
    clear g1
    go_wp2_with fail
    exact ⟨rfl, rfl, T1.out⟩
set_option maxRecDepth 100000 in
set_option maxHeartbeats 1000000 in
theorem valType_any {w : World} {b : Nat} {v : Value} {l : List Int} {p : Nat} (h : CU w b v l p) :
    Calls Tryz.prog 126 #[.pointer (some ⟨b, 0, none⟩)] w (Ans VT.v b v l w (valR l p)) := by
  have H : Hid (CU w b v l p) := h
  have hb : b < w.heap.size := h.lt
  have hl := h.len
  have hle := h.le
  clear h
  by_cases hp : p < l.length
  · unfold valR
    rw [atR_in hp]
    have P : Hid (∀ w', CU w' b v l p → Calls Tryz.prog 124 #[.pointer (some ⟨b, 0, none⟩)] w' fun en w'' => en = .returned (.int .u8 (l.getD p 0)) ∧ Grew w' w'') := fun w' u => peek_ok u hp
    have M : Hid (∀ w', CU w' b v l p → Calls Tryz.prog 125 #[.int .u8 (l.getD p 0)] w' fun en w'' => en = .returned (.tuple #[.int .i64 (mean (l.getD p 0)).1, .int .i64 (mean (l.getD p 0)).2]) ∧ Grew w' w'') := fun w' u => meaning_any _ _ u.tab
    generalize l.getD p 0 = c at *
    generalize hm : mean c = m at *
    obtain ⟨k, m⟩ := m
    simp only at M ⊢
    clear hm
    by_cases hk2 : k = 2
    · rw [if_pos hk2]
      have k2 : (k == 2) = true := by simpa using hk2
      have U0 : Hid (CU (w.alloc (.cells #[.int .i64 0, .bool false, .int .i64 0] 28)) b v l p) := H.out.grew ((Grew.refl w).alloc _)
      have T0 : Hid (Turn [b] w (w.alloc (.cells #[.int .i64 0, .bool false, .int .i64 0] 28))) := (Turn.refl [b] w).alloc _
      have N0 : Hid ((w.alloc (.cells #[.int .i64 0, .bool false, .int .i64 0] 28)).heap[w.heap.size]? = some (.cells #[.int .i64 0, .bool false, .int .i64 0] 28 (0, 0))) := heap_alloc_last _ _
      go_enter Tryz.func126, Tryz.ntmps126
      go_wp2_with fail
      refine (P.out _ U0.out).mono ?_
      rintro en w1 ⟨rfl, g1⟩
      have T1 : Hid (Turn [b] w w1) := T0.out.trans (g1.turn _)
      have U1 : Hid (CU w1 b v l p) := U0.out.grew g1
      have N1 : Hid (w1.heap[w.heap.size]? = some (.cells #[.int .i64 0, .bool false, .int .i64 0] 28 (0, 0))) := (g1.turn []).other N0.out (by simp)
      clear g1 T0 U0 N0
      go_wp2_with fail
      refine (M.out _ U1.out).mono ?_
      rintro en w2 ⟨rfl, g2⟩
      have T2 : Hid (Turn [b] w w2) := T1.out.trans (g2.turn _)
      have U2 : Hid (CU w2 b v l p) := U1.out.grew g2
      have N2 : Hid (w2.heap[w.heap.size]? = some (.cells #[.int .i64 0, .bool false, .int .i64 0] 28 (0, 0))) := (g2.turn []).other N1.out (by simp)
      clear g2 T1 U1 N1
      have c1_2 := U2.out.c1
      go_wp2_with fail
      refine (giveUp_any _ 8 _).mono ?_
      rintro en w9 ⟨rfl, h9⟩
      obtain rfl := h9.symm
      go_wp2_with fail
      exact ⟨rfl, rfl, T2.out⟩
    · rw [if_neg hk2]
      have k2 : (k == 2) = false := by simpa using hk2
      by_cases hk1 : k = 1
      · rw [if_pos hk1]
        have k1 : (k == 1) = true := by simpa using hk1
        have U0 : Hid (CU (w.alloc (.cells #[.int .i64 0, .bool false, .int .i64 0] 28)) b v l p) := H.out.grew ((Grew.refl w).alloc _)
        have T0 : Hid (Turn [b] w (w.alloc (.cells #[.int .i64 0, .bool false, .int .i64 0] 28))) := (Turn.refl [b] w).alloc _
        have N0 : Hid ((w.alloc (.cells #[.int .i64 0, .bool false, .int .i64 0] 28)).heap[w.heap.size]? = some (.cells #[.int .i64 0, .bool false, .int .i64 0] 28 (0, 0))) := heap_alloc_last _ _
        go_enter Tryz.func126, Tryz.ntmps126
        go_wp2_with fail
        refine (P.out _ U0.out).mono ?_
        rintro en w1 ⟨rfl, g1⟩
        have T1 : Hid (Turn [b] w w1) := T0.out.trans (g1.turn _)
        have U1 : Hid (CU w1 b v l p) := U0.out.grew g1
        have N1 : Hid (w1.heap[w.heap.size]? = some (.cells #[.int .i64 0, .bool false, .int .i64 0] 28 (0, 0))) := (g1.turn []).other N0.out (by simp)
        clear g1 T0 U0 N0
        go_wp2_with fail
        refine (M.out _ U1.out).mono ?_
        rintro en w2 ⟨rfl, g2⟩
        have T2 : Hid (Turn [b] w w2) := T1.out.trans (g2.turn _)
        have U2 : Hid (CU w2 b v l p) := U1.out.grew g2
        have N2 : Hid (w2.heap[w.heap.size]? = some (.cells #[.int .i64 0, .bool false, .int .i64 0] 28 (0, 0))) := (g2.turn []).other N1.out (by simp)
        clear g2 T1 U1 N1
        have c1_2 := U2.out.c1
        have z1_2 := U2.out.z1
        have hq1 : p + 1 ≤ l.length := by omega
        have hne : ¬ b = w.heap.size := by omega
        have n0 := cell_of N2.out 0
        have y0 := free_of N2.out 0
        have n1 := cell_of N2.out 1
        have y1 := free_of N2.out 1
        have n2 := cell_of N2.out 2
        have y2 := free_of N2.out 2
        simp at n0 n1 n2
        go_wp2_with fail
        refine bodyPost_ret (v := vt m false 0) (by simp [results, Tryz.results126, go_sem, vt, VT.v, n0, n1, n2]) rfl ?_
        exact ⟨rfl, (((((Fin.mk_ T2.out U2.out).inc hq1).set H.out (Nat.le_refl _)).set H.out (Nat.le_refl _)).set H.out (Nat.le_refl _))⟩
      · rw [if_neg hk1]
        have k1 : (k == 1) = false := by simpa using hk1
        cases hx : refR l p with
        | error y =>
          obtain ⟨f, e⟩ := y
          have U0 : Hid (CU (w.alloc (.cells #[.int .i64 0, .bool false, .int .i64 0] 28)) b v l p) := H.out.grew ((Grew.refl w).alloc _)
          have T0 : Hid (Turn [b] w (w.alloc (.cells #[.int .i64 0, .bool false, .int .i64 0] 28))) := (Turn.refl [b] w).alloc _
          have N0 : Hid ((w.alloc (.cells #[.int .i64 0, .bool false, .int .i64 0] 28)).heap[w.heap.size]? = some (.cells #[.int .i64 0, .bool false, .int .i64 0] 28 (0, 0))) := heap_alloc_last _ _
          go_enter Tryz.func126, Tryz.ntmps126
          go_wp2_with fail
          refine (P.out _ U0.out).mono ?_
          rintro en w1 ⟨rfl, g1⟩
          have T1 : Hid (Turn [b] w w1) := T0.out.trans (g1.turn _)
          have U1 : Hid (CU w1 b v l p) := U0.out.grew g1
          have N1 : Hid (w1.heap[w.heap.size]? = some (.cells #[.int .i64 0, .bool false, .int .i64 0] 28 (0, 0))) := (g1.turn []).other N0.out (by simp)
          clear g1 T0 U0 N0
          go_wp2_with fail
          refine (M.out _ U1.out).mono ?_
          rintro en w2 ⟨rfl, g2⟩
          have T2 : Hid (Turn [b] w w2) := T1.out.trans (g2.turn _)
          have U2 : Hid (CU w2 b v l p) := U1.out.grew g2
          have N2 : Hid (w2.heap[w.heap.size]? = some (.cells #[.int .i64 0, .bool false, .int .i64 0] 28 (0, 0))) := (g2.turn []).other N1.out (by simp)
          clear g2 T1 U1 N1
          go_wp2_with fail
          refine (Calls.er_of (refType_any U2.out) hx).mono ?_
          rintro en w3 ⟨rfl, t3⟩
          have T3 : Hid (Turn [b] w w3) := T2.out.trans t3
          clear t3
          go_wp2_with fail
          exact ⟨rfl, rfl, T3.out⟩
        | ok y =>
          obtain ⟨⟨n, nul, hp⟩, q⟩ := y
          have U0 : Hid (CU (w.alloc (.cells #[.int .i64 0, .bool false, .int .i64 0] 28)) b v l p) := H.out.grew ((Grew.refl w).alloc _)
          have T0 : Hid (Turn [b] w (w.alloc (.cells #[.int .i64 0, .bool false, .int .i64 0] 28))) := (Turn.refl [b] w).alloc _
          have N0 : Hid ((w.alloc (.cells #[.int .i64 0, .bool false, .int .i64 0] 28)).heap[w.heap.size]? = some (.cells #[.int .i64 0, .bool false, .int .i64 0] 28 (0, 0))) := heap_alloc_last _ _
          go_enter Tryz.func126, Tryz.ntmps126
          go_wp2_with fail
          refine (P.out _ U0.out).mono ?_
          rintro en w1 ⟨rfl, g1⟩
          have T1 : Hid (Turn [b] w w1) := T0.out.trans (g1.turn _)
          have U1 : Hid (CU w1 b v l p) := U0.out.grew g1
          have N1 : Hid (w1.heap[w.heap.size]? = some (.cells #[.int .i64 0, .bool false, .int .i64 0] 28 (0, 0))) := (g1.turn []).other N0.out (by simp)
          clear g1 T0 U0 N0
          go_wp2_with fail
          refine (M.out _ U1.out).mono ?_
          rintro en w2 ⟨rfl, g2⟩
          have T2 : Hid (Turn [b] w w2) := T1.out.trans (g2.turn _)
          have U2 : Hid (CU w2 b v l p) := U1.out.grew g2
          have N2 : Hid (w2.heap[w.heap.size]? = some (.cells #[.int .i64 0, .bool false, .int .i64 0] 28 (0, 0))) := (g2.turn []).other N1.out (by simp)
          clear g2 T1 U1 N1
          go_wp2_with fail
          refine (Calls.ok_of (refType_any U2.out) hx).mono ?_
          rintro en w3 ⟨rfl, t3, u3⟩
          have T3 : Hid (Turn [b] w w3) := T2.out.trans t3
          have U3 : Hid (CU w3 b v l q) := u3
          have N3 : Hid (w3.heap[w.heap.size]? = some (.cells #[.int .i64 0, .bool false, .int .i64 0] 28 (0, 0))) := t3.other N2.out (by simp; omega)
          clear t3 u3 T2 U2 N2
          unfold VT.v vt
          have hne : ¬ b = w.heap.size := by omega
          have n0 := cell_of N3.out 0
          have y0 := free_of N3.out 0
          have n1 := cell_of N3.out 1
          have y1 := free_of N3.out 1
          have n2 := cell_of N3.out 2
          have y2 := free_of N3.out 2
          simp at n0 n1 n2
          go_wp2_with fail
          refine bodyPost_ret (v := vt n nul hp) (by simp [results, Tryz.results126, go_sem, vt, VT.v, n0, n1, n2]) rfl ?_
          exact ⟨rfl, (((((Fin.mk_ T3.out U3.out)).set H.out (Nat.le_refl _)).set H.out (Nat.le_refl _)).set H.out (Nat.le_refl _))⟩
  · have hr : valR l p = .error (p, 3) := by unfold valR; exact atR_no hp
    rw [hr]
    clear hr
    have U0 : Hid (CU (w.alloc (.cells #[.int .i64 0, .bool false, .int .i64 0] 28)) b v l p) := H.out.grew ((Grew.refl w).alloc _)
    have T0 : Hid (Turn [b] w (w.alloc (.cells #[.int .i64 0, .bool false, .int .i64 0] 28))) := (Turn.refl [b] w).alloc _
    have N0 : Hid ((w.alloc (.cells #[.int .i64 0, .bool false, .int .i64 0] 28)).heap[w.heap.size]? = some (.cells #[.int .i64 0, .bool false, .int .i64 0] 28 (0, 0))) := heap_alloc_last _ _
    go_enter Tryz.func126, Tryz.ntmps126
    go_wp2_with fail
    refine (peek_no U0.out hp).mono ?_
    rintro en w1 ⟨rfl, g1⟩
    have T1 : Hid (Turn [b] w w1) := T0.out.trans (g1.turn _)
    clear g1
    go_wp2_with fail
    exact ⟨rfl, rfl, T1.out⟩
end Go.Proofs.YtohapnninjdlfaaGreatDoor

namespace Go.Proofs.YtohapnninjdlfaaGreatDoor
open Go.RowKit
set_option linter.unusedVariables false
set_option linter.unusedSimpArgs false
set_option linter.constructorNameAsVariable false

set_option maxRecDepth 100000 in
set_option maxHeartbeats 1000000 in
theorem blockType_any {w : World} {b : Nat} {v : Value} {l : List Int} {p : Nat} (h : CU w b v l p) :
    Calls Tryz.prog 99 #[.pointer (some ⟨b, 0, none⟩)] w (Ans BK.v b v l w (blockR l p)) := by
  have H : Hid (CU w b v l p) := h
  have hb : b < w.heap.size := h.lt
  have hl := h.len
  have hle := h.le
  clear h
  by_cases hp : p < l.length
  · unfold blockR
    rw [atR_in hp]
    have P : Hid (∀ w', CU w' b v l p → Calls Tryz.prog 124 #[.pointer (some ⟨b, 0, none⟩)] w' fun en w'' => en = .returned (.int .u8 (l.getD p 0)) ∧ Grew w' w'') := fun w' u => peek_ok u hp
    have M : Hid (∀ w', CU w' b v l p → Calls Tryz.prog 125 #[.int .u8 (l.getD p 0)] w' fun en w'' => en = .returned (.tuple #[.int .i64 (mean (l.getD p 0)).1, .int .i64 (mean (l.getD p 0)).2]) ∧ Grew w' w'') := fun w' u => meaning_any _ _ u.tab
    generalize l.getD p 0 = c at *
    generalize hm : mean c = m at *
    obtain ⟨k, m⟩ := m
    simp only at M ⊢
    clear hm
    by_cases h64 : c = 64
    · rw [if_pos h64]
      have k64 : (c == 64) = true := by simpa using h64
      have U0 : Hid (CU (w.alloc (.cells #[.int .i64 0, .int .i64 0, .bool false, .int .i64 0] 30)) b v l p) := H.out.grew ((Grew.refl w).alloc _)
      have T0 : Hid (Turn [b] w (w.alloc (.cells #[.int .i64 0, .int .i64 0, .bool false, .int .i64 0] 30))) := (Turn.refl [b] w).alloc _
      have N0 : Hid ((w.alloc (.cells #[.int .i64 0, .int .i64 0, .bool false, .int .i64 0] 30)).heap[w.heap.size]? = some (.cells #[.int .i64 0, .int .i64 0, .bool false, .int .i64 0] 30 (0, 0))) := heap_alloc_last _ _
      go_enter Tryz.func99, Tryz.ntmps99
      go_wp2_with fail
      refine (P.out _ U0.out).mono ?_
      rintro en w1 ⟨rfl, g1⟩
      have T1 : Hid (Turn [b] w w1) := T0.out.trans (g1.turn _)
      have U1 : Hid (CU w1 b v l p) := U0.out.grew g1
      have N1 : Hid (w1.heap[w.heap.size]? = some (.cells #[.int .i64 0, .int .i64 0, .bool false, .int .i64 0] 30 (0, 0))) := (g1.turn []).other N0.out (by simp)
      clear g1 T0 U0 N0
      have c1_1 := U1.out.c1
      have z1_1 := U1.out.z1
      have hq1 : p + 1 ≤ l.length := by omega
      have hne : ¬ b = w.heap.size := by omega
      have n0 := cell_of N1.out 0
      have y0 := free_of N1.out 0
      have n1 := cell_of N1.out 1
      have y1 := free_of N1.out 1
      have n2 := cell_of N1.out 2
      have y2 := free_of N1.out 2
      have n3 := cell_of N1.out 3
      have y3 := free_of N1.out 3
      simp at n0 n1 n2 n3
      go_wp2_with fail
      refine bodyPost_ret (v := BK.v ⟨-1, ⟨0, false, 0⟩⟩) (by simp [results, Tryz.results99, go_sem, vt, VT.v, BK.v, n0, n1, n2, n3]) rfl ?_
      exact ⟨rfl, ((((((Fin.mk_ T1.out U1.out).inc hq1).set H.out (Nat.le_refl _)).set H.out (Nat.le_refl _)).set H.out (Nat.le_refl _)).set H.out (Nat.le_refl _))⟩
    · rw [if_neg h64]
      have k64 : (c == 64) = false := by simpa using h64
      by_cases hk1 : k = 1
      · rw [if_pos (by omega)]
        have b1 : (k == 1) = true := by simp; omega
        cases hx : valR l p with
        | error y =>
          obtain ⟨f, e⟩ := y
          try simp only [mapR]
          have U0 : Hid (CU (w.alloc (.cells #[.int .i64 0, .int .i64 0, .bool false, .int .i64 0] 30)) b v l p) := H.out.grew ((Grew.refl w).alloc _)
          have T0 : Hid (Turn [b] w (w.alloc (.cells #[.int .i64 0, .int .i64 0, .bool false, .int .i64 0] 30))) := (Turn.refl [b] w).alloc _
          have N0 : Hid ((w.alloc (.cells #[.int .i64 0, .int .i64 0, .bool false, .int .i64 0] 30)).heap[w.heap.size]? = some (.cells #[.int .i64 0, .int .i64 0, .bool false, .int .i64 0] 30 (0, 0))) := heap_alloc_last _ _
          go_enter Tryz.func99, Tryz.ntmps99
          go_wp2_with fail
          refine (P.out _ U0.out).mono ?_
          rintro en w1 ⟨rfl, g1⟩
          have T1 : Hid (Turn [b] w w1) := T0.out.trans (g1.turn _)
          have U1 : Hid (CU w1 b v l p) := U0.out.grew g1
          have N1 : Hid (w1.heap[w.heap.size]? = some (.cells #[.int .i64 0, .int .i64 0, .bool false, .int .i64 0] 30 (0, 0))) := (g1.turn []).other N0.out (by simp)
          clear g1 T0 U0 N0
          go_wp2_with fail
          refine (M.out _ U1.out).mono ?_
          rintro en w2 ⟨rfl, g2⟩
          have T2 : Hid (Turn [b] w w2) := T1.out.trans (g2.turn _)
          have U2 : Hid (CU w2 b v l p) := U1.out.grew g2
          have N2 : Hid (w2.heap[w.heap.size]? = some (.cells #[.int .i64 0, .int .i64 0, .bool false, .int .i64 0] 30 (0, 0))) := (g2.turn []).other N1.out (by simp)
          clear g2 T1 U1 N1
          go_wp2_with fail
          refine (Calls.er_of (valType_any U2.out) hx).mono ?_
          rintro en w3 ⟨rfl, t3⟩
          have T3 : Hid (Turn [b] w w3) := T2.out.trans t3
          clear t3
          go_wp2_with fail
          exact ⟨rfl, rfl, T3.out⟩
        | ok y =>
          obtain ⟨⟨n, nul, hp⟩, q⟩ := y
          try simp only [mapR]
          have U0 : Hid (CU (w.alloc (.cells #[.int .i64 0, .int .i64 0, .bool false, .int .i64 0] 30)) b v l p) := H.out.grew ((Grew.refl w).alloc _)
          have T0 : Hid (Turn [b] w (w.alloc (.cells #[.int .i64 0, .int .i64 0, .bool false, .int .i64 0] 30))) := (Turn.refl [b] w).alloc _
          have N0 : Hid ((w.alloc (.cells #[.int .i64 0, .int .i64 0, .bool false, .int .i64 0] 30)).heap[w.heap.size]? = some (.cells #[.int .i64 0, .int .i64 0, .bool false, .int .i64 0] 30 (0, 0))) := heap_alloc_last _ _
          go_enter Tryz.func99, Tryz.ntmps99
          go_wp2_with fail
          refine (P.out _ U0.out).mono ?_
          rintro en w1 ⟨rfl, g1⟩
          have T1 : Hid (Turn [b] w w1) := T0.out.trans (g1.turn _)
          have U1 : Hid (CU w1 b v l p) := U0.out.grew g1
          have N1 : Hid (w1.heap[w.heap.size]? = some (.cells #[.int .i64 0, .int .i64 0, .bool false, .int .i64 0] 30 (0, 0))) := (g1.turn []).other N0.out (by simp)
          clear g1 T0 U0 N0
          go_wp2_with fail
          refine (M.out _ U1.out).mono ?_
          rintro en w2 ⟨rfl, g2⟩
          have T2 : Hid (Turn [b] w w2) := T1.out.trans (g2.turn _)
          have U2 : Hid (CU w2 b v l p) := U1.out.grew g2
          have N2 : Hid (w2.heap[w.heap.size]? = some (.cells #[.int .i64 0, .int .i64 0, .bool false, .int .i64 0] 30 (0, 0))) := (g2.turn []).other N1.out (by simp)
          clear g2 T1 U1 N1
          go_wp2_with fail
          refine (Calls.ok_of (valType_any U2.out) hx).mono ?_
          rintro en w3 ⟨rfl, t3, u3⟩
          have T3 : Hid (Turn [b] w w3) := T2.out.trans t3
          have U3 : Hid (CU w3 b v l q) := u3
          have N3 : Hid (w3.heap[w.heap.size]? = some (.cells #[.int .i64 0, .int .i64 0, .bool false, .int .i64 0] 30 (0, 0))) := t3.other N2.out (by simp; omega)
          clear t3 u3 T2 U2 N2
          unfold VT.v vt
          have hne : ¬ b = w.heap.size := by omega
          have n0 := cell_of N3.out 0
          have y0 := free_of N3.out 0
          have n1 := cell_of N3.out 1
          have y1 := free_of N3.out 1
          have n2 := cell_of N3.out 2
          have y2 := free_of N3.out 2
          have n3 := cell_of N3.out 3
          have y3 := free_of N3.out 3
          simp at n0 n1 n2 n3
          go_wp2_with fail
          refine bodyPost_ret (v := BK.v ⟨-1, ⟨n, nul, hp⟩⟩) (by simp [results, Tryz.results99, go_sem, vt, VT.v, BK.v, n0, n1, n2, n3]) rfl ?_
          exact ⟨rfl, ((((((Fin.mk_ T3.out U3.out)).set H.out (Nat.le_refl _)).set H.out (Nat.le_refl _)).set H.out (Nat.le_refl _)).set H.out (Nat.le_refl _))⟩
      by_cases hk2 : k = 2
      · rw [if_pos (by omega)]
        have b1 : (k == 1) = false := by simp; omega
        have b2 : (k == 2) = true := by simp; omega
        cases hx : valR l p with
        | error y =>
          obtain ⟨f, e⟩ := y
          try simp only [mapR]
          have U0 : Hid (CU (w.alloc (.cells #[.int .i64 0, .int .i64 0, .bool false, .int .i64 0] 30)) b v l p) := H.out.grew ((Grew.refl w).alloc _)
          have T0 : Hid (Turn [b] w (w.alloc (.cells #[.int .i64 0, .int .i64 0, .bool false, .int .i64 0] 30))) := (Turn.refl [b] w).alloc _
          have N0 : Hid ((w.alloc (.cells #[.int .i64 0, .int .i64 0, .bool false, .int .i64 0] 30)).heap[w.heap.size]? = some (.cells #[.int .i64 0, .int .i64 0, .bool false, .int .i64 0] 30 (0, 0))) := heap_alloc_last _ _
          go_enter Tryz.func99, Tryz.ntmps99
          go_wp2_with fail
          refine (P.out _ U0.out).mono ?_
          rintro en w1 ⟨rfl, g1⟩
          have T1 : Hid (Turn [b] w w1) := T0.out.trans (g1.turn _)
          have U1 : Hid (CU w1 b v l p) := U0.out.grew g1
          have N1 : Hid (w1.heap[w.heap.size]? = some (.cells #[.int .i64 0, .int .i64 0, .bool false, .int .i64 0] 30 (0, 0))) := (g1.turn []).other N0.out (by simp)
          clear g1 T0 U0 N0
          go_wp2_with fail
          refine (M.out _ U1.out).mono ?_
          rintro en w2 ⟨rfl, g2⟩
          have T2 : Hid (Turn [b] w w2) := T1.out.trans (g2.turn _)
          have U2 : Hid (CU w2 b v l p) := U1.out.grew g2
          have N2 : Hid (w2.heap[w.heap.size]? = some (.cells #[.int .i64 0, .int .i64 0, .bool false, .int .i64 0] 30 (0, 0))) := (g2.turn []).other N1.out (by simp)
          clear g2 T1 U1 N1
          go_wp2_with fail
          refine (Calls.er_of (valType_any U2.out) hx).mono ?_
          rintro en w3 ⟨rfl, t3⟩
          have T3 : Hid (Turn [b] w w3) := T2.out.trans t3
          clear t3
          go_wp2_with fail
          exact ⟨rfl, rfl, T3.out⟩
        | ok y =>
          obtain ⟨⟨n, nul, hp⟩, q⟩ := y
          try simp only [mapR]
          have U0 : Hid (CU (w.alloc (.cells #[.int .i64 0, .int .i64 0, .bool false, .int .i64 0] 30)) b v l p) := H.out.grew ((Grew.refl w).alloc _)
          have T0 : Hid (Turn [b] w (w.alloc (.cells #[.int .i64 0, .int .i64 0, .bool false, .int .i64 0] 30))) := (Turn.refl [b] w).alloc _
          have N0 : Hid ((w.alloc (.cells #[.int .i64 0, .int .i64 0, .bool false, .int .i64 0] 30)).heap[w.heap.size]? = some (.cells #[.int .i64 0, .int .i64 0, .bool false, .int .i64 0] 30 (0, 0))) := heap_alloc_last _ _
          go_enter Tryz.func99, Tryz.ntmps99
          go_wp2_with fail
          refine (P.out _ U0.out).mono ?_
          rintro en w1 ⟨rfl, g1⟩
          have T1 : Hid (Turn [b] w w1) := T0.out.trans (g1.turn _)
          have U1 : Hid (CU w1 b v l p) := U0.out.grew g1
          have N1 : Hid (w1.heap[w.heap.size]? = some (.cells #[.int .i64 0, .int .i64 0, .bool false, .int .i64 0] 30 (0, 0))) := (g1.turn []).other N0.out (by simp)
          clear g1 T0 U0 N0
          go_wp2_with fail
          refine (M.out _ U1.out).mono ?_
          rintro en w2 ⟨rfl, g2⟩
          have T2 : Hid (Turn [b] w w2) := T1.out.trans (g2.turn _)
          have U2 : Hid (CU w2 b v l p) := U1.out.grew g2
          have N2 : Hid (w2.heap[w.heap.size]? = some (.cells #[.int .i64 0, .int .i64 0, .bool false, .int .i64 0] 30 (0, 0))) := (g2.turn []).other N1.out (by simp)
          clear g2 T1 U1 N1
          go_wp2_with fail
          refine (Calls.ok_of (valType_any U2.out) hx).mono ?_
          rintro en w3 ⟨rfl, t3, u3⟩
          have T3 : Hid (Turn [b] w w3) := T2.out.trans t3
          have U3 : Hid (CU w3 b v l q) := u3
          have N3 : Hid (w3.heap[w.heap.size]? = some (.cells #[.int .i64 0, .int .i64 0, .bool false, .int .i64 0] 30 (0, 0))) := t3.other N2.out (by simp; omega)
          clear t3 u3 T2 U2 N2
          unfold VT.v vt
          have hne : ¬ b = w.heap.size := by omega
          have n0 := cell_of N3.out 0
          have y0 := free_of N3.out 0
          have n1 := cell_of N3.out 1
          have y1 := free_of N3.out 1
          have n2 := cell_of N3.out 2
          have y2 := free_of N3.out 2
          have n3 := cell_of N3.out 3
          have y3 := free_of N3.out 3
          simp at n0 n1 n2 n3
          go_wp2_with fail
          refine bodyPost_ret (v := BK.v ⟨-1, ⟨n, nul, hp⟩⟩) (by simp [results, Tryz.results99, go_sem, vt, VT.v, BK.v, n0, n1, n2, n3]) rfl ?_
          exact ⟨rfl, ((((((Fin.mk_ T3.out U3.out)).set H.out (Nat.le_refl _)).set H.out (Nat.le_refl _)).set H.out (Nat.le_refl _)).set H.out (Nat.le_refl _))⟩
      by_cases hk4 : k = 4
      · rw [if_pos (by omega)]
        have b1 : (k == 1) = false := by simp; omega
        have b2 : (k == 2) = false := by simp; omega
        have b4 : (k == 4) = true := by simp; omega
        cases hx : valR l p with
        | error y =>
          obtain ⟨f, e⟩ := y
          try simp only [mapR]
          have U0 : Hid (CU (w.alloc (.cells #[.int .i64 0, .int .i64 0, .bool false, .int .i64 0] 30)) b v l p) := H.out.grew ((Grew.refl w).alloc _)
          have T0 : Hid (Turn [b] w (w.alloc (.cells #[.int .i64 0, .int .i64 0, .bool false, .int .i64 0] 30))) := (Turn.refl [b] w).alloc _
          have N0 : Hid ((w.alloc (.cells #[.int .i64 0, .int .i64 0, .bool false, .int .i64 0] 30)).heap[w.heap.size]? = some (.cells #[.int .i64 0, .int .i64 0, .bool false, .int .i64 0] 30 (0, 0))) := heap_alloc_last _ _
          go_enter Tryz.func99, Tryz.ntmps99
          go_wp2_with fail
          refine (P.out _ U0.out).mono ?_
          rintro en w1 ⟨rfl, g1⟩
          have T1 : Hid (Turn [b] w w1) := T0.out.trans (g1.turn _)
          have U1 : Hid (CU w1 b v l p) := U0.out.grew g1
          have N1 : Hid (w1.heap[w.heap.size]? = some (.cells #[.int .i64 0, .int .i64 0, .bool false, .int .i64 0] 30 (0, 0))) := (g1.turn []).other N0.out (by simp)
          clear g1 T0 U0 N0
          go_wp2_with fail
          refine (M.out _ U1.out).mono ?_
          rintro en w2 ⟨rfl, g2⟩
          have T2 : Hid (Turn [b] w w2) := T1.out.trans (g2.turn _)
          have U2 : Hid (CU w2 b v l p) := U1.out.grew g2
          have N2 : Hid (w2.heap[w.heap.size]? = some (.cells #[.int .i64 0, .int .i64 0, .bool false, .int .i64 0] 30 (0, 0))) := (g2.turn []).other N1.out (by simp)
          clear g2 T1 U1 N1
          go_wp2_with fail
          refine (Calls.er_of (valType_any U2.out) hx).mono ?_
          rintro en w3 ⟨rfl, t3⟩
          have T3 : Hid (Turn [b] w w3) := T2.out.trans t3
          clear t3
          go_wp2_with fail
          exact ⟨rfl, rfl, T3.out⟩
        | ok y =>
          obtain ⟨⟨n, nul, hp⟩, q⟩ := y
          try simp only [mapR]
          have U0 : Hid (CU (w.alloc (.cells #[.int .i64 0, .int .i64 0, .bool false, .int .i64 0] 30)) b v l p) := H.out.grew ((Grew.refl w).alloc _)
          have T0 : Hid (Turn [b] w (w.alloc (.cells #[.int .i64 0, .int .i64 0, .bool false, .int .i64 0] 30))) := (Turn.refl [b] w).alloc _
          have N0 : Hid ((w.alloc (.cells #[.int .i64 0, .int .i64 0, .bool false, .int .i64 0] 30)).heap[w.heap.size]? = some (.cells #[.int .i64 0, .int .i64 0, .bool false, .int .i64 0] 30 (0, 0))) := heap_alloc_last _ _
          go_enter Tryz.func99, Tryz.ntmps99
          go_wp2_with fail
          refine (P.out _ U0.out).mono ?_
          rintro en w1 ⟨rfl, g1⟩
          have T1 : Hid (Turn [b] w w1) := T0.out.trans (g1.turn _)
          have U1 : Hid (CU w1 b v l p) := U0.out.grew g1
          have N1 : Hid (w1.heap[w.heap.size]? = some (.cells #[.int .i64 0, .int .i64 0, .bool false, .int .i64 0] 30 (0, 0))) := (g1.turn []).other N0.out (by simp)
          clear g1 T0 U0 N0
          go_wp2_with fail
          refine (M.out _ U1.out).mono ?_
          rintro en w2 ⟨rfl, g2⟩
          have T2 : Hid (Turn [b] w w2) := T1.out.trans (g2.turn _)
          have U2 : Hid (CU w2 b v l p) := U1.out.grew g2
          have N2 : Hid (w2.heap[w.heap.size]? = some (.cells #[.int .i64 0, .int .i64 0, .bool false, .int .i64 0] 30 (0, 0))) := (g2.turn []).other N1.out (by simp)
          clear g2 T1 U1 N1
          go_wp2_with fail
          refine (Calls.ok_of (valType_any U2.out) hx).mono ?_
          rintro en w3 ⟨rfl, t3, u3⟩
          have T3 : Hid (Turn [b] w w3) := T2.out.trans t3
          have U3 : Hid (CU w3 b v l q) := u3
          have N3 : Hid (w3.heap[w.heap.size]? = some (.cells #[.int .i64 0, .int .i64 0, .bool false, .int .i64 0] 30 (0, 0))) := t3.other N2.out (by simp; omega)
          clear t3 u3 T2 U2 N2
          unfold VT.v vt
          have hne : ¬ b = w.heap.size := by omega
          have n0 := cell_of N3.out 0
          have y0 := free_of N3.out 0
          have n1 := cell_of N3.out 1
          have y1 := free_of N3.out 1
          have n2 := cell_of N3.out 2
          have y2 := free_of N3.out 2
          have n3 := cell_of N3.out 3
          have y3 := free_of N3.out 3
          simp at n0 n1 n2 n3
          go_wp2_with fail
          refine bodyPost_ret (v := BK.v ⟨-1, ⟨n, nul, hp⟩⟩) (by simp [results, Tryz.results99, go_sem, vt, VT.v, BK.v, n0, n1, n2, n3]) rfl ?_
          exact ⟨rfl, ((((((Fin.mk_ T3.out U3.out)).set H.out (Nat.le_refl _)).set H.out (Nat.le_refl _)).set H.out (Nat.le_refl _)).set H.out (Nat.le_refl _))⟩
      by_cases hk5 : k = 5
      · rw [if_pos (by omega)]
        have b1 : (k == 1) = false := by simp; omega
        have b2 : (k == 2) = false := by simp; omega
        have b4 : (k == 4) = false := by simp; omega
        have b5 : (k == 5) = true := by simp; omega
        cases hx : valR l p with
        | error y =>
          obtain ⟨f, e⟩ := y
          try simp only [mapR]
          have U0 : Hid (CU (w.alloc (.cells #[.int .i64 0, .int .i64 0, .bool false, .int .i64 0] 30)) b v l p) := H.out.grew ((Grew.refl w).alloc _)
          have T0 : Hid (Turn [b] w (w.alloc (.cells #[.int .i64 0, .int .i64 0, .bool false, .int .i64 0] 30))) := (Turn.refl [b] w).alloc _
          have N0 : Hid ((w.alloc (.cells #[.int .i64 0, .int .i64 0, .bool false, .int .i64 0] 30)).heap[w.heap.size]? = some (.cells #[.int .i64 0, .int .i64 0, .bool false, .int .i64 0] 30 (0, 0))) := heap_alloc_last _ _
          go_enter Tryz.func99, Tryz.ntmps99
          go_wp2_with fail
          refine (P.out _ U0.out).mono ?_
          rintro en w1 ⟨rfl, g1⟩
          have T1 : Hid (Turn [b] w w1) := T0.out.trans (g1.turn _)
          have U1 : Hid (CU w1 b v l p) := U0.out.grew g1
          have N1 : Hid (w1.heap[w.heap.size]? = some (.cells #[.int .i64 0, .int .i64 0, .bool false, .int .i64 0] 30 (0, 0))) := (g1.turn []).other N0.out (by simp)
          clear g1 T0 U0 N0
          go_wp2_with fail
          refine (M.out _ U1.out).mono ?_
          rintro en w2 ⟨rfl, g2⟩
          have T2 : Hid (Turn [b] w w2) := T1.out.trans (g2.turn _)
          have U2 : Hid (CU w2 b v l p) := U1.out.grew g2
          have N2 : Hid (w2.heap[w.heap.size]? = some (.cells #[.int .i64 0, .int .i64 0, .bool false, .int .i64 0] 30 (0, 0))) := (g2.turn []).other N1.out (by simp)
          clear g2 T1 U1 N1
          go_wp2_with fail
          refine (Calls.er_of (valType_any U2.out) hx).mono ?_
          rintro en w3 ⟨rfl, t3⟩
          have T3 : Hid (Turn [b] w w3) := T2.out.trans t3
          clear t3
          go_wp2_with fail
          exact ⟨rfl, rfl, T3.out⟩
        | ok y =>
          obtain ⟨⟨n, nul, hp⟩, q⟩ := y
          try simp only [mapR]
          have U0 : Hid (CU (w.alloc (.cells #[.int .i64 0, .int .i64 0, .bool false, .int .i64 0] 30)) b v l p) := H.out.grew ((Grew.refl w).alloc _)
          have T0 : Hid (Turn [b] w (w.alloc (.cells #[.int .i64 0, .int .i64 0, .bool false, .int .i64 0] 30))) := (Turn.refl [b] w).alloc _
          have N0 : Hid ((w.alloc (.cells #[.int .i64 0, .int .i64 0, .bool false, .int .i64 0] 30)).heap[w.heap.size]? = some (.cells #[.int .i64 0, .int .i64 0, .bool false, .int .i64 0] 30 (0, 0))) := heap_alloc_last _ _
          go_enter Tryz.func99, Tryz.ntmps99
          go_wp2_with fail
          refine (P.out _ U0.out).mono ?_
          rintro en w1 ⟨rfl, g1⟩
          have T1 : Hid (Turn [b] w w1) := T0.out.trans (g1.turn _)
          have U1 : Hid (CU w1 b v l p) := U0.out.grew g1
          have N1 : Hid (w1.heap[w.heap.size]? = some (.cells #[.int .i64 0, .int .i64 0, .bool false, .int .i64 0] 30 (0, 0))) := (g1.turn []).other N0.out (by simp)
          clear g1 T0 U0 N0
          go_wp2_with fail
          refine (M.out _ U1.out).mono ?_
          rintro en w2 ⟨rfl, g2⟩
          have T2 : Hid (Turn [b] w w2) := T1.out.trans (g2.turn _)
          have U2 : Hid (CU w2 b v l p) := U1.out.grew g2
          have N2 : Hid (w2.heap[w.heap.size]? = some (.cells #[.int .i64 0, .int .i64 0, .bool false, .int .i64 0] 30 (0, 0))) := (g2.turn []).other N1.out (by simp)
          clear g2 T1 U1 N1
          go_wp2_with fail
          refine (Calls.ok_of (valType_any U2.out) hx).mono ?_
          rintro en w3 ⟨rfl, t3, u3⟩
          have T3 : Hid (Turn [b] w w3) := T2.out.trans t3
          have U3 : Hid (CU w3 b v l q) := u3
          have N3 : Hid (w3.heap[w.heap.size]? = some (.cells #[.int .i64 0, .int .i64 0, .bool false, .int .i64 0] 30 (0, 0))) := t3.other N2.out (by simp; omega)
          clear t3 u3 T2 U2 N2
          unfold VT.v vt
          have hne : ¬ b = w.heap.size := by omega
          have n0 := cell_of N3.out 0
          have y0 := free_of N3.out 0
          have n1 := cell_of N3.out 1
          have y1 := free_of N3.out 1
          have n2 := cell_of N3.out 2
          have y2 := free_of N3.out 2
          have n3 := cell_of N3.out 3
          have y3 := free_of N3.out 3
          simp at n0 n1 n2 n3
          go_wp2_with fail
          refine bodyPost_ret (v := BK.v ⟨-1, ⟨n, nul, hp⟩⟩) (by simp [results, Tryz.results99, go_sem, vt, VT.v, BK.v, n0, n1, n2, n3]) rfl ?_
          exact ⟨rfl, ((((((Fin.mk_ T3.out U3.out)).set H.out (Nat.le_refl _)).set H.out (Nat.le_refl _)).set H.out (Nat.le_refl _)).set H.out (Nat.le_refl _))⟩
      rw [if_neg (by omega)]
      have b1 : (k == 1) = false := by simp; omega
      have b2 : (k == 2) = false := by simp; omega
      have b4 : (k == 4) = false := by simp; omega
      have b5 : (k == 5) = false := by simp; omega
      cases hx : tyS l p with
      | error y =>
        obtain ⟨f, e⟩ := y
        simp only [mapR]
        have U0 : Hid (CU (w.alloc (.cells #[.int .i64 0, .int .i64 0, .bool false, .int .i64 0] 30)) b v l p) := H.out.grew ((Grew.refl w).alloc _)
        have T0 : Hid (Turn [b] w (w.alloc (.cells #[.int .i64 0, .int .i64 0, .bool false, .int .i64 0] 30))) := (Turn.refl [b] w).alloc _
        have N0 : Hid ((w.alloc (.cells #[.int .i64 0, .int .i64 0, .bool false, .int .i64 0] 30)).heap[w.heap.size]? = some (.cells #[.int .i64 0, .int .i64 0, .bool false, .int .i64 0] 30 (0, 0))) := heap_alloc_last _ _
        go_enter Tryz.func99, Tryz.ntmps99
        go_wp2_with fail
        refine (P.out _ U0.out).mono ?_
        rintro en w1 ⟨rfl, g1⟩
        have T1 : Hid (Turn [b] w w1) := T0.out.trans (g1.turn _)
        have U1 : Hid (CU w1 b v l p) := U0.out.grew g1
        have N1 : Hid (w1.heap[w.heap.size]? = some (.cells #[.int .i64 0, .int .i64 0, .bool false, .int .i64 0] 30 (0, 0))) := (g1.turn []).other N0.out (by simp)
        clear g1 T0 U0 N0
        go_wp2_with fail
        refine (M.out _ U1.out).mono ?_
        rintro en w2 ⟨rfl, g2⟩
        have T2 : Hid (Turn [b] w w2) := T1.out.trans (g2.turn _)
        have U2 : Hid (CU w2 b v l p) := U1.out.grew g2
        have N2 : Hid (w2.heap[w.heap.size]? = some (.cells #[.int .i64 0, .int .i64 0, .bool false, .int .i64 0] 30 (0, 0))) := (g2.turn []).other N1.out (by simp)
        clear g2 T1 U1 N1
        go_wp2_with fail
        refine (Calls.er_of (typeS_any U2.out) hx).mono ?_
        rintro en w3 ⟨rfl, t3⟩
        have T3 : Hid (Turn [b] w w3) := T2.out.trans t3
        clear t3
        go_wp2_with fail
        exact ⟨rfl, rfl, T3.out⟩
      | ok y =>
        obtain ⟨x, q⟩ := y
        simp only [mapR]
        have U0 : Hid (CU (w.alloc (.cells #[.int .i64 0, .int .i64 0, .bool false, .int .i64 0] 30)) b v l p) := H.out.grew ((Grew.refl w).alloc _)
        have T0 : Hid (Turn [b] w (w.alloc (.cells #[.int .i64 0, .int .i64 0, .bool false, .int .i64 0] 30))) := (Turn.refl [b] w).alloc _
        have N0 : Hid ((w.alloc (.cells #[.int .i64 0, .int .i64 0, .bool false, .int .i64 0] 30)).heap[w.heap.size]? = some (.cells #[.int .i64 0, .int .i64 0, .bool false, .int .i64 0] 30 (0, 0))) := heap_alloc_last _ _
        go_enter Tryz.func99, Tryz.ntmps99
        go_wp2_with fail
        refine (P.out _ U0.out).mono ?_
        rintro en w1 ⟨rfl, g1⟩
        have T1 : Hid (Turn [b] w w1) := T0.out.trans (g1.turn _)
        have U1 : Hid (CU w1 b v l p) := U0.out.grew g1
        have N1 : Hid (w1.heap[w.heap.size]? = some (.cells #[.int .i64 0, .int .i64 0, .bool false, .int .i64 0] 30 (0, 0))) := (g1.turn []).other N0.out (by simp)
        clear g1 T0 U0 N0
        go_wp2_with fail
        refine (M.out _ U1.out).mono ?_
        rintro en w2 ⟨rfl, g2⟩
        have T2 : Hid (Turn [b] w w2) := T1.out.trans (g2.turn _)
        have U2 : Hid (CU w2 b v l p) := U1.out.grew g2
        have N2 : Hid (w2.heap[w.heap.size]? = some (.cells #[.int .i64 0, .int .i64 0, .bool false, .int .i64 0] 30 (0, 0))) := (g2.turn []).other N1.out (by simp)
        clear g2 T1 U1 N1
        go_wp2_with fail
        refine (Calls.ok_of (typeS_any U2.out) hx).mono ?_
        rintro en w3 ⟨rfl, t3, u3⟩
        have T3 : Hid (Turn [b] w w3) := T2.out.trans t3
        have U3 : Hid (CU w3 b v l q) := u3
        have N3 : Hid (w3.heap[w.heap.size]? = some (.cells #[.int .i64 0, .int .i64 0, .bool false, .int .i64 0] 30 (0, 0))) := t3.other N2.out (by simp; omega)
        clear t3 u3 T2 U2 N2
        have hne : ¬ b = w.heap.size := by omega
        have n0 := cell_of N3.out 0
        have y0 := free_of N3.out 0
        have n1 := cell_of N3.out 1
        have y1 := free_of N3.out 1
        have n2 := cell_of N3.out 2
        have y2 := free_of N3.out 2
        have n3 := cell_of N3.out 3
        have y3 := free_of N3.out 3
        simp at n0 n1 n2 n3
        go_wp2_with fail
        refine bodyPost_ret (v := BK.v ⟨x, ⟨0, false, 0⟩⟩) (by simp [results, Tryz.results99, go_sem, vt, VT.v, BK.v, n0, n1, n2, n3]) rfl ?_
        exact ⟨rfl, ((((((Fin.mk_ T3.out U3.out)).set H.out (Nat.le_refl _)).set H.out (Nat.le_refl _)).set H.out (Nat.le_refl _)).set H.out (Nat.le_refl _))⟩
  · have hr : blockR l p = .error (p, 3) := by unfold blockR; exact atR_no hp
    rw [hr]
    clear hr
    have U0 : Hid (CU (w.alloc (.cells #[.int .i64 0, .int .i64 0, .bool false, .int .i64 0] 30)) b v l p) := H.out.grew ((Grew.refl w).alloc _)
    have T0 : Hid (Turn [b] w (w.alloc (.cells #[.int .i64 0, .int .i64 0, .bool false, .int .i64 0] 30))) := (Turn.refl [b] w).alloc _
    have N0 : Hid ((w.alloc (.cells #[.int .i64 0, .int .i64 0, .bool false, .int .i64 0] 30)).heap[w.heap.size]? = some (.cells #[.int .i64 0, .int .i64 0, .bool false, .int .i64 0] 30 (0, 0))) := heap_alloc_last _ _
    go_enter Tryz.func99, Tryz.ntmps99
    go_wp2_with fail
    refine (peek_no U0.out hp).mono ?_
    rintro en w1 ⟨rfl, g1⟩
    have T1 : Hid (Turn [b] w w1) := T0.out.trans (g1.turn _)
    clear g1
    go_wp2_with fail
    exact ⟨rfl, rfl, T1.out⟩
end Go.Proofs.YtohapnninjdlfaaGreatDoor
