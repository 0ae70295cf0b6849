/-
  The walks of the cursor that reads flags, storage types, fields, block types; no statement is proved here.
-/
import Derived.Test.YtbhbogfdnaadeaaDoorCurT
namespace Go.Proofs.YtbhbogfdnaadeaaDoor
open Go.RowKit
set_option linter.unusedVariables false
set_option linter.unusedSimpArgs false
set_option linter.constructorNameAsVariable false

set_option maxRecDepth 100000 in
set_option maxHeartbeats 1000000 in
theorem flag_any {w : World} {b : Nat} {v : Value} {l : List Int} {p : Nat} (h : CU w b v l p) :
    Calls Tryd.prog 140 #[.pointer (some ⟨b, 0, none⟩)] w (Ans (fun x => .bool x) b v l w (flagR l p)) := by
  have H : Hid (CU w b v l p) := h
  have hb : b < w.heap.size := h.lt
  have hl := h.len
  have hle := h.le
  clear h
  unfold flagR
  cases hx : belowR 2 l p with
  | error y =>
    obtain ⟨f, e⟩ := y
    simp only [mapR]
    have U0 : Hid (CU w b v l p) := H.out
    have T0 : Hid (Turn [b] w w) := Turn.refl [b] w
    go_enter Tryd.func140, Tryd.ntmps140
    go_wp2_with fail
    refine (Calls.er_of (below_any U0.out 2 (by decide)) hx).mono ?_
    rintro en w1 ⟨rfl, t1⟩
    have T1 : Hid (Turn [b] w w1) := T0.out.trans t1
    clear t1
    go_wp2_with fail
    exact ⟨rfl, rfl, T1.out⟩
  | ok y =>
    obtain ⟨x, q⟩ := y
    simp only [mapR]
    have U0 : Hid (CU w b v l p) := H.out
    have T0 : Hid (Turn [b] w w) := Turn.refl [b] w
    go_enter Tryd.func140, Tryd.ntmps140
    go_wp2_with fail
    refine (Calls.ok_of (below_any U0.out 2 (by decide)) hx).mono ?_
    rintro en w1 ⟨rfl, t1, u1⟩
    have T1 : Hid (Turn [b] w w1) := T0.out.trans t1
    have U1 : Hid (CU w1 b v l q) := u1
    clear t1 u1 T0 U0
    go_wp2_with fail
    go_ret
    exact ⟨by first | rfl | simp, (Fin.mk_ T1.out U1.out)⟩
set_option maxRecDepth 100000 in
set_option maxHeartbeats 1000000 in
theorem storage_any {w : World} {b : Nat} {v : Value} {l : List Int} {p : Nat} (h : CU w b v l p) :
    Calls Tryd.prog 139 #[.pointer (some ⟨b, 0, none⟩)] w (Ans VT.v b v l w (storR l p)) := by
  have H : Hid (CU w b v l p) := h
  have hb : b < w.heap.size := h.lt
  have hl := h.len
  have hle := h.le
  clear h
  by_cases hp : p < l.length
  · unfold storR
    rw [atR_in hp]
    have P : Hid (∀ w', CU w' b v l p → Calls Tryd.prog 95 #[.pointer (some ⟨b, 0, none⟩)] w' fun en w'' => en = .returned (.int .u8 (l.getD p 0)) ∧ Grew w' w'') := fun w' u => peek_ok u hp
    have M : Hid (∀ w', CU w' b v l p → Calls Tryd.prog 128 #[.int .u8 (l.getD p 0)] w' fun en w'' => en = .returned (.tuple #[.int .i64 (mean (l.getD p 0)).1, .int .i64 (mean (l.getD p 0)).2]) ∧ Grew w' w'') := fun w' u => meaning_any _ _ u.tab
    generalize l.getD p 0 = c at *
    generalize hm : mean c = m at *
    obtain ⟨k, m⟩ := m
    simp only at M ⊢
    clear hm
    by_cases hk3 : k = 3
    · rw [if_pos hk3]
      have k3 : (k == 3) = true := by simpa using hk3
      have U0 : Hid (CU (w.alloc (.cells #[.int .i64 0, .bool false, .int .i64 0] 23)) b v l p) := H.out.grew ((Grew.refl w).alloc _)
      have T0 : Hid (Turn [b] w (w.alloc (.cells #[.int .i64 0, .bool false, .int .i64 0] 23))) := (Turn.refl [b] w).alloc _
      have N0 : Hid ((w.alloc (.cells #[.int .i64 0, .bool false, .int .i64 0] 23)).heap[w.heap.size]? = some (.cells #[.int .i64 0, .bool false, .int .i64 0] 23 (0, 0))) := heap_alloc_last _ _
      go_enter Tryd.func139, Tryd.ntmps139
      go_wp2_with fail
      refine (P.out _ U0.out).mono ?_
      rintro en w1 ⟨rfl, g1⟩
      have T1 : Hid (Turn [b] w w1) := T0.out.trans (g1.turn _)
      have U1 : Hid (CU w1 b v l p) := U0.out.grew g1
      have N1 : Hid (w1.heap[w.heap.size]? = some (.cells #[.int .i64 0, .bool false, .int .i64 0] 23 (0, 0))) := (g1.turn []).other N0.out (by simp)
      clear g1 T0 U0 N0
      go_wp2_with fail
      refine (M.out _ U1.out).mono ?_
      rintro en w2 ⟨rfl, g2⟩
      have T2 : Hid (Turn [b] w w2) := T1.out.trans (g2.turn _)
      have U2 : Hid (CU w2 b v l p) := U1.out.grew g2
      have N2 : Hid (w2.heap[w.heap.size]? = some (.cells #[.int .i64 0, .bool false, .int .i64 0] 23 (0, 0))) := (g2.turn []).other N1.out (by simp)
      clear g2 T1 U1 N1
      have c1_2 := U2.out.c1
      have z1_2 := U2.out.z1
      have hq1 : p + 1 ≤ l.length := by omega
      have hne : ¬ b = w.heap.size := by omega
      have n0 := cell_of N2.out 0
      have y0 := free_of N2.out 0
      have n1 := cell_of N2.out 1
      have y1 := free_of N2.out 1
      have n2 := cell_of N2.out 2
      have y2 := free_of N2.out 2
      simp at n0 n1 n2
      go_wp2_with fail
      refine bodyPost_ret (v := vt m false 0) (by simp [results, Tryd.results139, go_sem, vt, VT.v, n0, n1, n2]) rfl ?_
      exact ⟨rfl, (((((Fin.mk_ T2.out U2.out).inc hq1).set H.out (Nat.le_refl _)).set H.out (Nat.le_refl _)).set H.out (Nat.le_refl _))⟩
    · rw [if_neg hk3]
      have k3 : (k == 3) = false := by simpa using hk3
      cases hx : valR l p with
      | error y =>
        obtain ⟨f, e⟩ := y
        try simp only [mapR]
        have U0 : Hid (CU (w.alloc (.cells #[.int .i64 0, .bool false, .int .i64 0] 23)) b v l p) := H.out.grew ((Grew.refl w).alloc _)
        have T0 : Hid (Turn [b] w (w.alloc (.cells #[.int .i64 0, .bool false, .int .i64 0] 23))) := (Turn.refl [b] w).alloc _
        have N0 : Hid ((w.alloc (.cells #[.int .i64 0, .bool false, .int .i64 0] 23)).heap[w.heap.size]? = some (.cells #[.int .i64 0, .bool false, .int .i64 0] 23 (0, 0))) := heap_alloc_last _ _
        go_enter Tryd.func139, Tryd.ntmps139
        go_wp2_with fail
        refine (P.out _ U0.out).mono ?_
        rintro en w1 ⟨rfl, g1⟩
        have T1 : Hid (Turn [b] w w1) := T0.out.trans (g1.turn _)
        have U1 : Hid (CU w1 b v l p) := U0.out.grew g1
        have N1 : Hid (w1.heap[w.heap.size]? = some (.cells #[.int .i64 0, .bool false, .int .i64 0] 23 (0, 0))) := (g1.turn []).other N0.out (by simp)
        clear g1 T0 U0 N0
        go_wp2_with fail
        refine (M.out _ U1.out).mono ?_
        rintro en w2 ⟨rfl, g2⟩
        have T2 : Hid (Turn [b] w w2) := T1.out.trans (g2.turn _)
        have U2 : Hid (CU w2 b v l p) := U1.out.grew g2
        have N2 : Hid (w2.heap[w.heap.size]? = some (.cells #[.int .i64 0, .bool false, .int .i64 0] 23 (0, 0))) := (g2.turn []).other N1.out (by simp)
        clear g2 T1 U1 N1
        go_wp2_with fail
        refine (Calls.er_of (valType_any U2.out) hx).mono ?_
        rintro en w3 ⟨rfl, t3⟩
        have T3 : Hid (Turn [b] w w3) := T2.out.trans t3
        clear t3
        go_wp2_with fail
        exact ⟨rfl, rfl, T3.out⟩
      | ok y =>
        obtain ⟨⟨n, nul, hp⟩, q⟩ := y
        try simp only [mapR]
        have U0 : Hid (CU (w.alloc (.cells #[.int .i64 0, .bool false, .int .i64 0] 23)) b v l p) := H.out.grew ((Grew.refl w).alloc _)
        have T0 : Hid (Turn [b] w (w.alloc (.cells #[.int .i64 0, .bool false, .int .i64 0] 23))) := (Turn.refl [b] w).alloc _
        have N0 : Hid ((w.alloc (.cells #[.int .i64 0, .bool false, .int .i64 0] 23)).heap[w.heap.size]? = some (.cells #[.int .i64 0, .bool false, .int .i64 0] 23 (0, 0))) := heap_alloc_last _ _
        go_enter Tryd.func139, Tryd.ntmps139
        go_wp2_with fail
        refine (P.out _ U0.out).mono ?_
        rintro en w1 ⟨rfl, g1⟩
        have T1 : Hid (Turn [b] w w1) := T0.out.trans (g1.turn _)
        have U1 : Hid (CU w1 b v l p) := U0.out.grew g1
        have N1 : Hid (w1.heap[w.heap.size]? = some (.cells #[.int .i64 0, .bool false, .int .i64 0] 23 (0, 0))) := (g1.turn []).other N0.out (by simp)
        clear g1 T0 U0 N0
        go_wp2_with fail
        refine (M.out _ U1.out).mono ?_
        rintro en w2 ⟨rfl, g2⟩
        have T2 : Hid (Turn [b] w w2) := T1.out.trans (g2.turn _)
        have U2 : Hid (CU w2 b v l p) := U1.out.grew g2
        have N2 : Hid (w2.heap[w.heap.size]? = some (.cells #[.int .i64 0, .bool false, .int .i64 0] 23 (0, 0))) := (g2.turn []).other N1.out (by simp)
        clear g2 T1 U1 N1
        go_wp2_with fail
        refine (Calls.ok_of (valType_any U2.out) hx).mono ?_
        rintro en w3 ⟨rfl, t3, u3⟩
        have T3 : Hid (Turn [b] w w3) := T2.out.trans t3
        have U3 : Hid (CU w3 b v l q) := u3
        have N3 : Hid (w3.heap[w.heap.size]? = some (.cells #[.int .i64 0, .bool false, .int .i64 0] 23 (0, 0))) := t3.other N2.out (by simp; omega)
        clear t3 u3 T2 U2 N2
        unfold VT.v vt
        have hne : ¬ b = w.heap.size := by omega
        have n0 := cell_of N3.out 0
        have y0 := free_of N3.out 0
        have n1 := cell_of N3.out 1
        have y1 := free_of N3.out 1
        have n2 := cell_of N3.out 2
        have y2 := free_of N3.out 2
        simp at n0 n1 n2
        go_wp2_with fail
        refine bodyPost_ret (v := vt n nul hp) (by simp [results, Tryd.results139, go_sem, vt, VT.v, n0, n1, n2]) rfl ?_
        exact ⟨rfl, (((((Fin.mk_ T3.out U3.out)).set H.out (Nat.le_refl _)).set H.out (Nat.le_refl _)).set H.out (Nat.le_refl _))⟩
  · have hr : storR l p = .error (p, 3) := by unfold storR; exact atR_no hp
    rw [hr]
    clear hr
    have U0 : Hid (CU (w.alloc (.cells #[.int .i64 0, .bool false, .int .i64 0] 23)) b v l p) := H.out.grew ((Grew.refl w).alloc _)
    have T0 : Hid (Turn [b] w (w.alloc (.cells #[.int .i64 0, .bool false, .int .i64 0] 23))) := (Turn.refl [b] w).alloc _
    have N0 : Hid ((w.alloc (.cells #[.int .i64 0, .bool false, .int .i64 0] 23)).heap[w.heap.size]? = some (.cells #[.int .i64 0, .bool false, .int .i64 0] 23 (0, 0))) := heap_alloc_last _ _
    go_enter Tryd.func139, Tryd.ntmps139
    go_wp2_with fail
    refine (peek_no U0.out hp).mono ?_
    rintro en w1 ⟨rfl, g1⟩
    have T1 : Hid (Turn [b] w w1) := T0.out.trans (g1.turn _)
    clear g1
    go_wp2_with fail
    exact ⟨rfl, rfl, T1.out⟩
set_option maxRecDepth 100000 in
set_option maxHeartbeats 1000000 in
theorem field_any {w : World} {b : Nat} {v : Value} {l : List Int} {p : Nat} (h : CU w b v l p) :
    Calls Tryd.prog 131 #[.pointer (some ⟨b, 0, none⟩)] w (Ans FT.v b v l w (fieldR l p)) := by
  have H : Hid (CU w b v l p) := h
  have hb : b < w.heap.size := h.lt
  have hl := h.len
  have hle := h.le
  clear h
  unfold fieldR
  cases hx : storR l p with
  | error y =>
    obtain ⟨f, e⟩ := y
    simp only [thenR]
    have U0 : Hid (CU (w.alloc (.cells #[.int .i64 0, .bool false, .int .i64 0, .bool false] 154)) b v l p) := H.out.grew ((Grew.refl w).alloc _)
    have T0 : Hid (Turn [b] w (w.alloc (.cells #[.int .i64 0, .bool false, .int .i64 0, .bool false] 154))) := (Turn.refl [b] w).alloc _
    have N0 : Hid ((w.alloc (.cells #[.int .i64 0, .bool false, .int .i64 0, .bool false] 154)).heap[w.heap.size]? = some (.cells #[.int .i64 0, .bool false, .int .i64 0, .bool false] 154 (0, 0))) := heap_alloc_last _ _
    go_enter Tryd.func131, Tryd.ntmps131
    go_wp2_with fail
    refine (Calls.er_of (storage_any U0.out) hx).mono ?_
    rintro en w1 ⟨rfl, t1⟩
    have T1 : Hid (Turn [b] w w1) := T0.out.trans t1
    clear t1
    go_wp2_with fail
    exact ⟨rfl, rfl, T1.out⟩
  | ok y =>
    obtain ⟨⟨n, nul, hp⟩, q⟩ := y
    simp only [thenR]
    cases hy : flagR l q with
    | error y =>
      obtain ⟨f, e⟩ := y
      simp only [mapR]
      have U0 : Hid (CU (w.alloc (.cells #[.int .i64 0, .bool false, .int .i64 0, .bool false] 154)) b v l p) := H.out.grew ((Grew.refl w).alloc _)
      have T0 : Hid (Turn [b] w (w.alloc (.cells #[.int .i64 0, .bool false, .int .i64 0, .bool false] 154))) := (Turn.refl [b] w).alloc _
      have N0 : Hid ((w.alloc (.cells #[.int .i64 0, .bool false, .int .i64 0, .bool false] 154)).heap[w.heap.size]? = some (.cells #[.int .i64 0, .bool false, .int .i64 0, .bool false] 154 (0, 0))) := heap_alloc_last _ _
      go_enter Tryd.func131, Tryd.ntmps131
      go_wp2_with fail
      refine (Calls.ok_of (storage_any U0.out) hx).mono ?_
      rintro en w1 ⟨rfl, t1, u1⟩
      have T1 : Hid (Turn [b] w w1) := T0.out.trans t1
      have U1 : Hid (CU w1 b v l q) := u1
      have N1 : Hid (w1.heap[w.heap.size]? = some (.cells #[.int .i64 0, .bool false, .int .i64 0, .bool false] 154 (0, 0))) := t1.other N0.out (by simp; omega)
      clear t1 u1 T0 U0 N0
      go_wp2_with fail
      refine (Calls.er_of (flag_any U1.out) hy).mono ?_
      rintro en w2 ⟨rfl, t2⟩
      have T2 : Hid (Turn [b] w w2) := T1.out.trans t2
      clear t2
      go_wp2_with fail
      exact ⟨rfl, rfl, T2.out⟩
    | ok y =>
      obtain ⟨mu, r⟩ := y
      simp only [mapR]
      have U0 : Hid (CU (w.alloc (.cells #[.int .i64 0, .bool false, .int .i64 0, .bool false] 154)) b v l p) := H.out.grew ((Grew.refl w).alloc _)
      have T0 : Hid (Turn [b] w (w.alloc (.cells #[.int .i64 0, .bool false, .int .i64 0, .bool false] 154))) := (Turn.refl [b] w).alloc _
      have N0 : Hid ((w.alloc (.cells #[.int .i64 0, .bool false, .int .i64 0, .bool false] 154)).heap[w.heap.size]? = some (.cells #[.int .i64 0, .bool false, .int .i64 0, .bool false] 154 (0, 0))) := heap_alloc_last _ _
      go_enter Tryd.func131, Tryd.ntmps131
      go_wp2_with fail
      refine (Calls.ok_of (storage_any U0.out) hx).mono ?_
      rintro en w1 ⟨rfl, t1, u1⟩
      have T1 : Hid (Turn [b] w w1) := T0.out.trans t1
      have U1 : Hid (CU w1 b v l q) := u1
      have N1 : Hid (w1.heap[w.heap.size]? = some (.cells #[.int .i64 0, .bool false, .int .i64 0, .bool false] 154 (0, 0))) := t1.other N0.out (by simp; omega)
      clear t1 u1 T0 U0 N0
      go_wp2_with fail
      refine (Calls.ok_of (flag_any U1.out) hy).mono ?_
      rintro en w2 ⟨rfl, t2, u2⟩
      have T2 : Hid (Turn [b] w w2) := T1.out.trans t2
      have U2 : Hid (CU w2 b v l r) := u2
      have N2 : Hid (w2.heap[w.heap.size]? = some (.cells #[.int .i64 0, .bool false, .int .i64 0, .bool false] 154 (0, 0))) := t2.other N1.out (by simp; omega)
      clear t2 u2 T1 U1 N1
      unfold VT.v vt
      have hne : ¬ b = w.heap.size := by omega
      have n0 := cell_of N2.out 0
      have y0 := free_of N2.out 0
      have n1 := cell_of N2.out 1
      have y1 := free_of N2.out 1
      have n2 := cell_of N2.out 2
      have y2 := free_of N2.out 2
      have n3 := cell_of N2.out 3
      have y3 := free_of N2.out 3
      simp at n0 n1 n2 n3
      go_wp2_with fail
      refine bodyPost_ret (v := FT.v ⟨⟨n, nul, hp⟩, mu⟩) (by simp [results, Tryd.results131, go_sem, FT.v, n0, n1, n2, n3]) rfl ?_
      exact ⟨rfl, ((((((Fin.mk_ T2.out U2.out)).set H.out (Nat.le_refl _)).set H.out (Nat.le_refl _)).set H.out (Nat.le_refl _)).set H.out (Nat.le_refl _))⟩
end Go.Proofs.YtbhbogfdnaadeaaDoor
