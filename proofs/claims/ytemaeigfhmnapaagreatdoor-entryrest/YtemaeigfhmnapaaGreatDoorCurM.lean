/-
  The walks of the cursor that reads tables, globals, tags, kinds and names; no statement is proved here.
-/
import Derived.Test.YtemaeigfhmnapaaGreatDoorCurL
import Derived.Test.YtemaeigfhmnapaaGreatDoorN3N
namespace Go.Proofs.YtemaeigfhmnapaaGreatDoor
open Go.RowKit
set_option linter.unusedVariables false
set_option linter.unusedSimpArgs false
set_option linter.constructorNameAsVariable false

set_option maxRecDepth 100000 in
set_option maxHeartbeats 1000000 in
theorem tableType_any {w : World} {b : Nat} {v : Value} {l : List Int} {p : Nat} (h : CU w b v l p) :
    Calls Tryz.prog 23 #[.pointer (some ⟨b, 0, none⟩)] w (Ans TT.v b v l w (tabR l p)) := by
  have H : Hid (CU w b v l p) := h
  have hb : b < w.heap.size := h.lt
  have hl := h.len
  have hle := h.le
  clear h
  unfold tabR
  cases hx : refR l p with
  | error y =>
    obtain ⟨f, e⟩ := y
    simp only [thenR]
    have U0 : Hid (CU (w.alloc (.cells #[.int .i64 0, .bool false, .int .i64 0, .bool false, .int .u64 0, .int .u64 0, .bool false] 34)) b v l p) := H.out.grew ((Grew.refl w).alloc _)
    have T0 : Hid (Turn [b] w (w.alloc (.cells #[.int .i64 0, .bool false, .int .i64 0, .bool false, .int .u64 0, .int .u64 0, .bool false] 34))) := (Turn.refl [b] w).alloc _
    have N0 : Hid ((w.alloc (.cells #[.int .i64 0, .bool false, .int .i64 0, .bool false, .int .u64 0, .int .u64 0, .bool false] 34)).heap[w.heap.size]? = some (.cells #[.int .i64 0, .bool false, .int .i64 0, .bool false, .int .u64 0, .int .u64 0, .bool false] 34 (0, 0))) := heap_alloc_last _ _
    go_enter Tryz.func23, Tryz.ntmps23
    go_wp2_with fail
    refine (Calls.er_of (refType_any U0.out) hx).mono ?_
    rintro en w1 ⟨rfl, t1⟩
    have T1 : Hid (Turn [b] w w1) := T0.out.trans t1
    clear t1
    go_wp2_with fail
    exact ⟨rfl, rfl, T1.out⟩
  | ok y =>
    obtain ⟨⟨n, nul, hp⟩, q⟩ := y
    simp only [thenR]
    cases hy : limsR l q with
    | error y =>
      obtain ⟨f, e⟩ := y
      try simp only [mapR]
      have U0 : Hid (CU (w.alloc (.cells #[.int .i64 0, .bool false, .int .i64 0, .bool false, .int .u64 0, .int .u64 0, .bool false] 34)) b v l p) := H.out.grew ((Grew.refl w).alloc _)
      have T0 : Hid (Turn [b] w (w.alloc (.cells #[.int .i64 0, .bool false, .int .i64 0, .bool false, .int .u64 0, .int .u64 0, .bool false] 34))) := (Turn.refl [b] w).alloc _
      have N0 : Hid ((w.alloc (.cells #[.int .i64 0, .bool false, .int .i64 0, .bool false, .int .u64 0, .int .u64 0, .bool false] 34)).heap[w.heap.size]? = some (.cells #[.int .i64 0, .bool false, .int .i64 0, .bool false, .int .u64 0, .int .u64 0, .bool false] 34 (0, 0))) := heap_alloc_last _ _
      go_enter Tryz.func23, Tryz.ntmps23
      go_wp2_with fail
      refine (Calls.ok_of (refType_any U0.out) hx).mono ?_
      rintro en w1 ⟨rfl, t1, u1⟩
      have T1 : Hid (Turn [b] w w1) := T0.out.trans t1
      have U1 : Hid (CU w1 b v l q) := u1
      have N1 : Hid (w1.heap[w.heap.size]? = some (.cells #[.int .i64 0, .bool false, .int .i64 0, .bool false, .int .u64 0, .int .u64 0, .bool false] 34 (0, 0))) := t1.other N0.out (by simp; omega)
      clear t1 u1 T0 U0 N0
      go_wp2_with fail
      refine (Calls.er_of (limits_any U1.out) hy).mono ?_
      rintro en w2 ⟨rfl, t2⟩
      have T2 : Hid (Turn [b] w w2) := T1.out.trans t2
      clear t2
      go_wp2_with fail
      exact ⟨rfl, rfl, T2.out⟩
    | ok y =>
      obtain ⟨⟨wi, mn, mx, hm⟩, r⟩ := y
      try simp only [mapR]
      have U0 : Hid (CU (w.alloc (.cells #[.int .i64 0, .bool false, .int .i64 0, .bool false, .int .u64 0, .int .u64 0, .bool false] 34)) b v l p) := H.out.grew ((Grew.refl w).alloc _)
      have T0 : Hid (Turn [b] w (w.alloc (.cells #[.int .i64 0, .bool false, .int .i64 0, .bool false, .int .u64 0, .int .u64 0, .bool false] 34))) := (Turn.refl [b] w).alloc _
      have N0 : Hid ((w.alloc (.cells #[.int .i64 0, .bool false, .int .i64 0, .bool false, .int .u64 0, .int .u64 0, .bool false] 34)).heap[w.heap.size]? = some (.cells #[.int .i64 0, .bool false, .int .i64 0, .bool false, .int .u64 0, .int .u64 0, .bool false] 34 (0, 0))) := heap_alloc_last _ _
      go_enter Tryz.func23, Tryz.ntmps23
      go_wp2_with fail
      refine (Calls.ok_of (refType_any U0.out) hx).mono ?_
      rintro en w1 ⟨rfl, t1, u1⟩
      have T1 : Hid (Turn [b] w w1) := T0.out.trans t1
      have U1 : Hid (CU w1 b v l q) := u1
      have N1 : Hid (w1.heap[w.heap.size]? = some (.cells #[.int .i64 0, .bool false, .int .i64 0, .bool false, .int .u64 0, .int .u64 0, .bool false] 34 (0, 0))) := t1.other N0.out (by simp; omega)
      clear t1 u1 T0 U0 N0
      go_wp2_with fail
      refine (Calls.ok_of (limits_any U1.out) hy).mono ?_
      rintro en w2 ⟨rfl, t2, u2⟩
      have T2 : Hid (Turn [b] w w2) := T1.out.trans t2
      have U2 : Hid (CU w2 b v l r) := u2
      have N2 : Hid (w2.heap[w.heap.size]? = some (.cells #[.int .i64 0, .bool false, .int .i64 0, .bool false, .int .u64 0, .int .u64 0, .bool false] 34 (0, 0))) := t2.other N1.out (by simp; omega)
      clear t2 u2 T1 U1 N1
      unfold VT.v vt LM.v
      have hne : ¬ b = w.heap.size := by omega
      have n0 := cell_of N2.out 0
      have y0 := free_of N2.out 0
      have n1 := cell_of N2.out 1
      have y1 := free_of N2.out 1
      have n2 := cell_of N2.out 2
      have y2 := free_of N2.out 2
      have n3 := cell_of N2.out 3
      have y3 := free_of N2.out 3
      have n4 := cell_of N2.out 4
      have y4 := free_of N2.out 4
      have n5 := cell_of N2.out 5
      have y5 := free_of N2.out 5
      have n6 := cell_of N2.out 6
      have y6 := free_of N2.out 6
      simp at n0 n1 n2 n3 n4 n5 n6
      go_wp2_with fail
      refine bodyPost_ret (v := TT.v ⟨⟨n, nul, hp⟩, ⟨wi, mn, mx, hm⟩⟩) (by simp [results, Tryz.results23, go_sem, TT.v, n0, n1, n2, n3, n4, n5, n6]) rfl ?_
      exact ⟨rfl, (((((((((Fin.mk_ T2.out U2.out)).set H.out (Nat.le_refl _)).set H.out (Nat.le_refl _)).set H.out (Nat.le_refl _)).set H.out (Nat.le_refl _)).set H.out (Nat.le_refl _)).set H.out (Nat.le_refl _)).set H.out (Nat.le_refl _))⟩
set_option maxRecDepth 100000 in
set_option maxHeartbeats 1000000 in
theorem globalType_any {w : World} {b : Nat} {v : Value} {l : List Int} {p : Nat} (h : CU w b v l p) :
    Calls Tryz.prog 26 #[.pointer (some ⟨b, 0, none⟩)] w (Ans GT.v b v l w (gloR l p)) := by
  have H : Hid (CU w b v l p) := h
  have hb : b < w.heap.size := h.lt
  have hl := h.len
  have hle := h.le
  clear h
  unfold gloR
  cases hx : valR l p with
  | error y =>
    obtain ⟨f, e⟩ := y
    simp only [thenR]
    have U0 : Hid (CU (w.alloc (.cells #[.int .i64 0, .bool false, .int .i64 0, .bool false] 40)) b v l p) := H.out.grew ((Grew.refl w).alloc _)
    have T0 : Hid (Turn [b] w (w.alloc (.cells #[.int .i64 0, .bool false, .int .i64 0, .bool false] 40))) := (Turn.refl [b] w).alloc _
    have N0 : Hid ((w.alloc (.cells #[.int .i64 0, .bool false, .int .i64 0, .bool false] 40)).heap[w.heap.size]? = some (.cells #[.int .i64 0, .bool false, .int .i64 0, .bool false] 40 (0, 0))) := heap_alloc_last _ _
    go_enter Tryz.func26, Tryz.ntmps26
    go_wp2_with fail
    refine (Calls.er_of (valType_any U0.out) hx).mono ?_
    rintro en w1 ⟨rfl, t1⟩
    have T1 : Hid (Turn [b] w w1) := T0.out.trans t1
    clear t1
    go_wp2_with fail
    exact ⟨rfl, rfl, T1.out⟩
  | ok y =>
    obtain ⟨⟨n, nul, hp⟩, q⟩ := y
    simp only [thenR]
    cases hy : flagR l q with
    | error y =>
      obtain ⟨f, e⟩ := y
      try simp only [mapR]
      have U0 : Hid (CU (w.alloc (.cells #[.int .i64 0, .bool false, .int .i64 0, .bool false] 40)) b v l p) := H.out.grew ((Grew.refl w).alloc _)
      have T0 : Hid (Turn [b] w (w.alloc (.cells #[.int .i64 0, .bool false, .int .i64 0, .bool false] 40))) := (Turn.refl [b] w).alloc _
      have N0 : Hid ((w.alloc (.cells #[.int .i64 0, .bool false, .int .i64 0, .bool false] 40)).heap[w.heap.size]? = some (.cells #[.int .i64 0, .bool false, .int .i64 0, .bool false] 40 (0, 0))) := heap_alloc_last _ _
      go_enter Tryz.func26, Tryz.ntmps26
      go_wp2_with fail
      refine (Calls.ok_of (valType_any U0.out) hx).mono ?_
      rintro en w1 ⟨rfl, t1, u1⟩
      have T1 : Hid (Turn [b] w w1) := T0.out.trans t1
      have U1 : Hid (CU w1 b v l q) := u1
      have N1 : Hid (w1.heap[w.heap.size]? = some (.cells #[.int .i64 0, .bool false, .int .i64 0, .bool false] 40 (0, 0))) := t1.other N0.out (by simp; omega)
      clear t1 u1 T0 U0 N0
      go_wp2_with fail
      refine (Calls.er_of (flag_any U1.out) hy).mono ?_
      rintro en w2 ⟨rfl, t2⟩
      have T2 : Hid (Turn [b] w w2) := T1.out.trans t2
      clear t2
      go_wp2_with fail
      exact ⟨rfl, rfl, T2.out⟩
    | ok y =>
      obtain ⟨mu, r⟩ := y
      try simp only [mapR]
      have U0 : Hid (CU (w.alloc (.cells #[.int .i64 0, .bool false, .int .i64 0, .bool false] 40)) b v l p) := H.out.grew ((Grew.refl w).alloc _)
      have T0 : Hid (Turn [b] w (w.alloc (.cells #[.int .i64 0, .bool false, .int .i64 0, .bool false] 40))) := (Turn.refl [b] w).alloc _
      have N0 : Hid ((w.alloc (.cells #[.int .i64 0, .bool false, .int .i64 0, .bool false] 40)).heap[w.heap.size]? = some (.cells #[.int .i64 0, .bool false, .int .i64 0, .bool false] 40 (0, 0))) := heap_alloc_last _ _
      go_enter Tryz.func26, Tryz.ntmps26
      go_wp2_with fail
      refine (Calls.ok_of (valType_any U0.out) hx).mono ?_
      rintro en w1 ⟨rfl, t1, u1⟩
      have T1 : Hid (Turn [b] w w1) := T0.out.trans t1
      have U1 : Hid (CU w1 b v l q) := u1
      have N1 : Hid (w1.heap[w.heap.size]? = some (.cells #[.int .i64 0, .bool false, .int .i64 0, .bool false] 40 (0, 0))) := t1.other N0.out (by simp; omega)
      clear t1 u1 T0 U0 N0
      go_wp2_with fail
      refine (Calls.ok_of (flag_any U1.out) hy).mono ?_
      rintro en w2 ⟨rfl, t2, u2⟩
      have T2 : Hid (Turn [b] w w2) := T1.out.trans t2
      have U2 : Hid (CU w2 b v l r) := u2
      have N2 : Hid (w2.heap[w.heap.size]? = some (.cells #[.int .i64 0, .bool false, .int .i64 0, .bool false] 40 (0, 0))) := t2.other N1.out (by simp; omega)
      clear t2 u2 T1 U1 N1
      unfold VT.v vt
      have hne : ¬ b = w.heap.size := by omega
      have n0 := cell_of N2.out 0
      have y0 := free_of N2.out 0
      have n1 := cell_of N2.out 1
      have y1 := free_of N2.out 1
      have n2 := cell_of N2.out 2
      have y2 := free_of N2.out 2
      have n3 := cell_of N2.out 3
      have y3 := free_of N2.out 3
      simp at n0 n1 n2 n3
      go_wp2_with fail
      refine bodyPost_ret (v := GT.v ⟨⟨n, nul, hp⟩, mu⟩) (by simp [results, Tryz.results26, go_sem, GT.v, n0, n1, n2, n3]) rfl ?_
      exact ⟨rfl, ((((((Fin.mk_ T2.out U2.out)).set H.out (Nat.le_refl _)).set H.out (Nat.le_refl _)).set H.out (Nat.le_refl _)).set H.out (Nat.le_refl _))⟩
set_option maxRecDepth 100000 in
set_option maxHeartbeats 1000000 in
theorem tag_any {w : World} {b : Nat} {v : Value} {l : List Int} {p : Nat} (h : CU w b v l p) :
    Calls Tryz.prog 29 #[.pointer (some ⟨b, 0, none⟩)] w (Ans (fun n => .int .i64 n) b v l w (tagR l p)) := by
  have H : Hid (CU w b v l p) := h
  have hb : b < w.heap.size := h.lt
  have hl := h.len
  have hle := h.le
  clear h
  unfold tagR
  cases hx : belowR 1 l p with
  | error y =>
    obtain ⟨f, e⟩ := y
    simp only [thenR]
    have U0 : Hid (CU w b v l p) := H.out
    have T0 : Hid (Turn [b] w w) := Turn.refl [b] w
    go_enter Tryz.func29, Tryz.ntmps29
    go_wp2_with fail
    refine (Calls.er_of (below_any U0.out 1 (by decide)) hx).mono ?_
    rintro en w1 ⟨rfl, t1⟩
    have T1 : Hid (Turn [b] w w1) := T0.out.trans t1
    clear t1
    go_wp2_with fail
    exact ⟨rfl, rfl, T1.out⟩
  | ok y =>
    obtain ⟨x, q⟩ := y
    simp only [thenR]
    cases hy : tyU l q with
    | error y =>
      obtain ⟨f, e⟩ := y
      try simp only [mapR]
      have U0 : Hid (CU w b v l p) := H.out
      have T0 : Hid (Turn [b] w w) := Turn.refl [b] w
      go_enter Tryz.func29, Tryz.ntmps29
      go_wp2_with fail
      refine (Calls.ok_of (below_any U0.out 1 (by decide)) hx).mono ?_
      rintro en w1 ⟨rfl, t1, u1⟩
      have T1 : Hid (Turn [b] w w1) := T0.out.trans t1
      have U1 : Hid (CU w1 b v l q) := u1
      clear t1 u1 T0 U0
      go_wp2_with fail
      refine (Calls.er_of (index_any U1.out) hy).mono ?_
      rintro en w2 ⟨rfl, t2⟩
      have T2 : Hid (Turn [b] w w2) := T1.out.trans t2
      clear t2
      go_wp2_with fail
      exact ⟨rfl, rfl, T2.out⟩
    | ok y =>
      obtain ⟨t, r⟩ := y
      try simp only [mapR]
      have U0 : Hid (CU w b v l p) := H.out
      have T0 : Hid (Turn [b] w w) := Turn.refl [b] w
      go_enter Tryz.func29, Tryz.ntmps29
      go_wp2_with fail
      refine (Calls.ok_of (below_any U0.out 1 (by decide)) hx).mono ?_
      rintro en w1 ⟨rfl, t1, u1⟩
      have T1 : Hid (Turn [b] w w1) := T0.out.trans t1
      have U1 : Hid (CU w1 b v l q) := u1
      clear t1 u1 T0 U0
      go_wp2_with fail
      refine (Calls.ok_of (index_any U1.out) hy).mono ?_
      rintro en w2 ⟨rfl, t2, u2⟩
      have T2 : Hid (Turn [b] w w2) := T1.out.trans t2
      have U2 : Hid (CU w2 b v l r) := u2
      clear t2 u2 T1 U1
      go_wp2_with fail
      go_ret
      exact ⟨by first | rfl | simp, (Fin.mk_ T2.out U2.out)⟩
theorem belowR_bd {e : Int} {l : List Int} {p : Nat} {x : Int} {q : Nat} (hB : Byt l) (h : belowR e l p = .ok (x, q)) : 0 ≤ x ∧ x ≤ 255 ∧ x < e := by
  unfold belowR atR at h
  split at h
  · have := hB p
    dsimp only at h
    split at h
    · cases h
    · simp only [Except.ok.injEq, Prod.mk.injEq] at h
      omega
  · cases h
set_option maxRecDepth 100000 in
set_option maxHeartbeats 1000000 in
theorem kind_any {w : World} {b : Nat} {v : Value} {l : List Int} {p : Nat} (h : CU w b v l p) :
    Calls Tryz.prog 61 #[.pointer (some ⟨b, 0, none⟩)] w (Ans (fun n => .int .i64 n) b v l w (kindR l p)) := by
  have H : Hid (CU w b v l p) := h
  have hb : b < w.heap.size := h.lt
  have hl := h.len
  have hle := h.le
  have HB : Hid (Byt l) := h.byt
  clear h
  unfold kindR
  cases hx : belowR 5 l p with
  | error y =>
    obtain ⟨f, e⟩ := y
    have U0 : Hid (CU w b v l p) := H.out
    have T0 : Hid (Turn [b] w w) := Turn.refl [b] w
    go_enter Tryz.func61, Tryz.ntmps61
    go_wp2_with fail
    refine (Calls.er_of (below_any U0.out 5 (by decide)) hx).mono ?_
    rintro en w1 ⟨rfl, t1⟩
    have T1 : Hid (Turn [b] w w1) := T0.out.trans t1
    clear t1
    go_wp2_with fail
    exact ⟨rfl, rfl, T1.out⟩
  | ok y =>
    obtain ⟨x, q⟩ := y
    have hbd := belowR_bd HB.out hx
    have U0 : Hid (CU w b v l p) := H.out
    have T0 : Hid (Turn [b] w w) := Turn.refl [b] w
    go_enter Tryz.func61, Tryz.ntmps61
    go_wp2_with fail
    refine (Calls.ok_of (below_any U0.out 5 (by decide)) hx).mono ?_
    rintro en w1 ⟨rfl, t1, u1⟩
    have T1 : Hid (Turn [b] w w1) := T0.out.trans t1
    have U1 : Hid (CU w1 b v l q) := u1
    clear t1 u1 T0 U0
    go_wp2_with fail
    go_ret
    exact ⟨by first | rfl | simp, (Fin.mk_ T1.out U1.out)⟩
end Go.Proofs.YtemaeigfhmnapaaGreatDoor
