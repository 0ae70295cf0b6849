/-
  Great structs loaded and stored whole, or a part of them: laws; no statement is proved here.
-/
import Derived.Test.YtchehejjdinifaaGreatDoorCurL
import Derived.Test.YtchehejjdinifaaGreatDoorN3N
import Derived.Test.YtchehejjdinifaaGreatDoorWorld
import Derived.BigQuiet
import Derived.Test.YtchehejjdinifaaGreatDoorKit
import Derived.Laws.Rows
namespace Go.Proofs.YtchehejjdinifaaGreatDoor
open Go.RowKit
set_option linter.unusedVariables false
set_option linter.unusedSimpArgs false
set_option linter.constructorNameAsVariable false

set_option maxRecDepth 100000 in
set_option maxHeartbeats 1000000 in
theorem tableType_any {w : World} {b : Nat} {v : Value} {l : List Int} {p : Nat} (h : CU w b v l p) :
    Calls Tryz.prog 59 #[.pointer (some ⟨b, 0, none⟩)] w (Ans TT.v b v l w (tabR l p)) := by
  have H : Hid (CU w b v l p) := h
  have hb : b < w.heap.size := h.lt
  have hl := h.len
  have hle := h.le
  clear h
  unfold tabR
  cases hx : refR l p with
  | error y =>
    obtain ⟨f, e⟩ := y
    simp only [thenR]
    have U0 : Hid (CU (w.alloc (.cells #[.int .i64 0, .bool false, .int .i64 0, .bool false, .int .u64 0, .int .u64 0, .bool false] 31)) b v l p) := H.out.grew ((Grew.refl w).alloc _)
    have T0 : Hid (Turn [b] w (w.alloc (.cells #[.int .i64 0, .bool false, .int .i64 0, .bool false, .int .u64 0, .int .u64 0, .bool false] 31))) := (Turn.refl [b] w).alloc _
    have N0 : Hid ((w.alloc (.cells #[.int .i64 0, .bool false, .int .i64 0, .bool false, .int .u64 0, .int .u64 0, .bool false] 31)).heap[w.heap.size]? = some (.cells #[.int .i64 0, .bool false, .int .i64 0, .bool false, .int .u64 0, .int .u64 0, .bool false] 31 (0, 0))) := heap_alloc_last _ _
    go_enter Tryz.func59, Tryz.ntmps59
    go_wp2_with fail
    refine (Calls.er_of (refType_any U0.out) hx).mono ?_
    rintro en w1 ⟨rfl, t1⟩
    have T1 : Hid (Turn [b] w w1) := T0.out.trans t1
    clear t1
    go_wp2_with fail
    exact ⟨rfl, rfl, T1.out⟩
  | ok y =>
    obtain ⟨⟨n, nul, hp⟩, q⟩ := y
    simp only [thenR]
    cases hy : limsR l q with
    | error y =>
      obtain ⟨f, e⟩ := y
      try simp only [mapR]
      have U0 : Hid (CU (w.alloc (.cells #[.int .i64 0, .bool false, .int .i64 0, .bool false, .int .u64 0, .int .u64 0, .bool false] 31)) b v l p) := H.out.grew ((Grew.refl w).alloc _)
      have T0 : Hid (Turn [b] w (w.alloc (.cells #[.int .i64 0, .bool false, .int .i64 0, .bool false, .int .u64 0, .int .u64 0, .bool false] 31))) := (Turn.refl [b] w).alloc _
      have N0 : Hid ((w.alloc (.cells #[.int .i64 0, .bool false, .int .i64 0, .bool false, .int .u64 0, .int .u64 0, .bool false] 31)).heap[w.heap.size]? = some (.cells #[.int .i64 0, .bool false, .int .i64 0, .bool false, .int .u64 0, .int .u64 0, .bool false] 31 (0, 0))) := heap_alloc_last _ _
      go_enter Tryz.func59, Tryz.ntmps59
      go_wp2_with fail
      refine (Calls.ok_of (refType_any U0.out) hx).mono ?_
      rintro en w1 ⟨rfl, t1, u1⟩
      have T1 : Hid (Turn [b] w w1) := T0.out.trans t1
      have U1 : Hid (CU w1 b v l q) := u1
      have N1 : Hid (w1.heap[w.heap.size]? = some (.cells #[.int .i64 0, .bool false, .int .i64 0, .bool false, .int .u64 0, .int .u64 0, .bool false] 31 (0, 0))) := t1.other N0.out (by simp; omega)
      clear t1 u1 T0 U0 N0
      go_wp2_with fail
      refine (Calls.er_of (limits_any U1.out) hy).mono ?_
      rintro en w2 ⟨rfl, t2⟩
      have T2 : Hid (Turn [b] w w2) := T1.out.trans t2
      clear t2
      go_wp2_with fail
      exact ⟨rfl, rfl, T2.out⟩
    | ok y =>
      obtain ⟨⟨wi, mn, mx, hm⟩, r⟩ := y
      try simp only [mapR]
      have U0 : Hid (CU (w.alloc (.cells #[.int .i64 0, .bool false, .int .i64 0, .bool false, .int .u64 0, .int .u64 0, .bool false] 31)) b v l p) := H.out.grew ((Grew.refl w).alloc _)
      have T0 : Hid (Turn [b] w (w.alloc (.cells #[.int .i64 0, .bool false, .int .i64 0, .bool false, .int .u64 0, .int .u64 0, .bool false] 31))) := (Turn.refl [b] w).alloc _
      have N0 : Hid ((w.alloc (.cells #[.int .i64 0, .bool false, .int .i64 0, .bool false, .int .u64 0, .int .u64 0, .bool false] 31)).heap[w.heap.size]? = some (.cells #[.int .i64 0, .bool false, .int .i64 0, .bool false, .int .u64 0, .int .u64 0, .bool false] 31 (0, 0))) := heap_alloc_last _ _
      go_enter Tryz.func59, Tryz.ntmps59
      go_wp2_with fail
      refine (Calls.ok_of (refType_any U0.out) hx).mono ?_
      rintro en w1 ⟨rfl, t1, u1⟩
      have T1 : Hid (Turn [b] w w1) := T0.out.trans t1
      have U1 : Hid (CU w1 b v l q) := u1
      have N1 : Hid (w1.heap[w.heap.size]? = some (.cells #[.int .i64 0, .bool false, .int .i64 0, .bool false, .int .u64 0, .int .u64 0, .bool false] 31 (0, 0))) := t1.other N0.out (by simp; omega)
      clear t1 u1 T0 U0 N0
      go_wp2_with fail
      refine (Calls.ok_of (limits_any U1.out) hy).mono ?_
      rintro en w2 ⟨rfl, t2, u2⟩
      have T2 : Hid (Turn [b] w w2) := T1.out.trans t2
      have U2 : Hid (CU w2 b v l r) := u2
      have N2 : Hid (w2.heap[w.heap.size]? = some (.cells #[.int .i64 0, .bool false, .int .i64 0, .bool false, .int .u64 0, .int .u64 0, .bool false] 31 (0, 0))) := t2.other N1.out (by simp; omega)
      clear t2 u2 T1 U1 N1
      unfold VT.v vt LM.v
      have hne : ¬ b = w.heap.size := by omega
      have n0 := cell_of N2.out 0
      have y0 := free_of N2.out 0
      have n1 := cell_of N2.out 1
      have y1 := free_of N2.out 1
      have n2 := cell_of N2.out 2
      have y2 := free_of N2.out 2
      have n3 := cell_of N2.out 3
      have y3 := free_of N2.out 3
      have n4 := cell_of N2.out 4
      have y4 := free_of N2.out 4
      have n5 := cell_of N2.out 5
      have y5 := free_of N2.out 5
      have n6 := cell_of N2.out 6
      have y6 := free_of N2.out 6
      simp at n0 n1 n2 n3 n4 n5 n6
      go_wp2_with fail
      refine bodyPost_ret (v := TT.v ⟨⟨n, nul, hp⟩, ⟨wi, mn, mx, hm⟩⟩) (by simp [results, Tryz.results59, go_sem, TT.v, n0, n1, n2, n3, n4, n5, n6]) rfl ?_
      exact ⟨rfl, (((((((((Fin.mk_ T2.out U2.out)).set H.out (Nat.le_refl _)).set H.out (Nat.le_refl _)).set H.out (Nat.le_refl _)).set H.out (Nat.le_refl _)).set H.out (Nat.le_refl _)).set H.out (Nat.le_refl _)).set H.out (Nat.le_refl _))⟩
set_option maxRecDepth 100000 in
set_option maxHeartbeats 1000000 in
theorem globalType_any {w : World} {b : Nat} {v : Value} {l : List Int} {p : Nat} (h : CU w b v l p) :
    Calls Tryz.prog 61 #[.pointer (some ⟨b, 0, none⟩)] w (Ans GT.v b v l w (gloR l p)) := by
  have H : Hid (CU w b v l p) := h
  have hb : b < w.heap.size := h.lt
  have hl := h.len
  have hle := h.le
  clear h
  unfold gloR
  cases hx : valR l p with
  | error y =>
    obtain ⟨f, e⟩ := y
    simp only [thenR]
    have U0 : Hid (CU (w.alloc (.cells #[.int .i64 0, .bool false, .int .i64 0, .bool false] 33)) b v l p) := H.out.grew ((Grew.refl w).alloc _)
    have T0 : Hid (Turn [b] w (w.alloc (.cells #[.int .i64 0, .bool false, .int .i64 0, .bool false] 33))) := (Turn.refl [b] w).alloc _
    have N0 : Hid ((w.alloc (.cells #[.int .i64 0, .bool false, .int .i64 0, .bool false] 33)).heap[w.heap.size]? = some (.cells #[.int .i64 0, .bool false, .int .i64 0, .bool false] 33 (0, 0))) := heap_alloc_last _ _
    go_enter Tryz.func61, Tryz.ntmps61
    go_wp2_with fail
    refine (Calls.er_of (valType_any U0.out) hx).mono ?_
    rintro en w1 ⟨rfl, t1⟩
    have T1 : Hid (Turn [b] w w1) := T0.out.trans t1
    clear t1
    go_wp2_with fail
    exact ⟨rfl, rfl, T1.out⟩
  | ok y =>
    obtain ⟨⟨n, nul, hp⟩, q⟩ := y
    simp only [thenR]
    cases hy : flagR l q with
    | error y =>
      obtain ⟨f, e⟩ := y
      try simp only [mapR]
      have U0 : Hid (CU (w.alloc (.cells #[.int .i64 0, .bool false, .int .i64 0, .bool false] 33)) b v l p) := H.out.grew ((Grew.refl w).alloc _)
      have T0 : Hid (Turn [b] w (w.alloc (.cells #[.int .i64 0, .bool false, .int .i64 0, .bool false] 33))) := (Turn.refl [b] w).alloc _
      have N0 : Hid ((w.alloc (.cells #[.int .i64 0, .bool false, .int .i64 0, .bool false] 33)).heap[w.heap.size]? = some (.cells #[.int .i64 0, .bool false, .int .i64 0, .bool false] 33 (0, 0))) := heap_alloc_last _ _
      go_enter Tryz.func61, Tryz.ntmps61
      go_wp2_with fail
      refine (Calls.ok_of (valType_any U0.out) hx).mono ?_
      rintro en w1 ⟨rfl, t1, u1⟩
      have T1 : Hid (Turn [b] w w1) := T0.out.trans t1
      have U1 : Hid (CU w1 b v l q) := u1
      have N1 : Hid (w1.heap[w.heap.size]? = some (.cells #[.int .i64 0, .bool false, .int .i64 0, .bool false] 33 (0, 0))) := t1.other N0.out (by simp; omega)
      clear t1 u1 T0 U0 N0
      go_wp2_with fail
      refine (Calls.er_of (flag_any U1.out) hy).mono ?_
      rintro en w2 ⟨rfl, t2⟩
      have T2 : Hid (Turn [b] w w2) := T1.out.trans t2
      clear t2
      go_wp2_with fail
      exact ⟨rfl, rfl, T2.out⟩
    | ok y =>
      obtain ⟨mu, r⟩ := y
      try simp only [mapR]
      have U0 : Hid (CU (w.alloc (.cells #[.int .i64 0, .bool false, .int .i64 0, .bool false] 33)) b v l p) := H.out.grew ((Grew.refl w).alloc _)
      have T0 : Hid (Turn [b] w (w.alloc (.cells #[.int .i64 0, .bool false, .int .i64 0, .bool false] 33))) := (Turn.refl [b] w).alloc _
      have N0 : Hid ((w.alloc (.cells #[.int .i64 0, .bool false, .int .i64 0, .bool false] 33)).heap[w.heap.size]? = some (.cells #[.int .i64 0, .bool false, .int .i64 0, .bool false] 33 (0, 0))) := heap_alloc_last _ _
      go_enter Tryz.func61, Tryz.ntmps61
      go_wp2_with fail
      refine (Calls.ok_of (valType_any U0.out) hx).mono ?_
      rintro en w1 ⟨rfl, t1, u1⟩
      have T1 : Hid (Turn [b] w w1) := T0.out.trans t1
      have U1 : Hid (CU w1 b v l q) := u1
      have N1 : Hid (w1.heap[w.heap.size]? = some (.cells #[.int .i64 0, .bool false, .int .i64 0, .bool false] 33 (0, 0))) := t1.other N0.out (by simp; omega)
      clear t1 u1 T0 U0 N0
      go_wp2_with fail
      refine (Calls.ok_of (flag_any U1.out) hy).mono ?_
      rintro en w2 ⟨rfl, t2, u2⟩
      have T2 : Hid (Turn [b] w w2) := T1.out.trans t2
      have U2 : Hid (CU w2 b v l r) := u2
      have N2 : Hid (w2.heap[w.heap.size]? = some (.cells #[.int .i64 0, .bool false, .int .i64 0, .bool false] 33 (0, 0))) := t2.other N1.out (by simp; omega)
      clear t2 u2 T1 U1 N1
      unfold VT.v vt
      have hne : ¬ b = w.heap.size := by omega
      have n0 := cell_of N2.out 0
      have y0 := free_of N2.out 0
      have n1 := cell_of N2.out 1
      have y1 := free_of N2.out 1
      have n2 := cell_of N2.out 2
      have y2 := free_of N2.out 2
      have n3 := cell_of N2.out 3
      have y3 := free_of N2.out 3
      simp at n0 n1 n2 n3
      go_wp2_with fail
      refine bodyPost_ret (v := GT.v ⟨⟨n, nul, hp⟩, mu⟩) (by simp [results, Tryz.results61, go_sem, GT.v, n0, n1, n2, n3]) rfl ?_
      exact ⟨rfl, ((((((Fin.mk_ T2.out U2.out)).set H.out (Nat.le_refl _)).set H.out (Nat.le_refl _)).set H.out (Nat.le_refl _)).set H.out (Nat.le_refl _))⟩
set_option maxRecDepth 100000 in
set_option maxHeartbeats 1000000 in
theorem tag_any {w : World} {b : Nat} {v : Value} {l : List Int} {p : Nat} (h : CU w b v l p) :
    Calls Tryz.prog 62 #[.pointer (some ⟨b, 0, none⟩)] w (Ans (fun n => .int .i64 n) b v l w (tagR l p)) := by
  have H : Hid (CU w b v l p) := h
  have hb : b < w.heap.size := h.lt
  have hl := h.len
  have hle := h.le
  clear h
  unfold tagR
  cases hx : belowR 1 l p with
  | error y =>
    obtain ⟨f, e⟩ := y
    simp only [thenR]
    have U0 : Hid (CU w b v l p) := H.out
    have T0 : Hid (Turn [b] w w) := Turn.refl [b] w
    go_enter Tryz.func62, Tryz.ntmps62
    go_wp2_with fail
    refine (Calls.er_of (below_any U0.out 1 (by decide)) hx).mono ?_
    rintro en w1 ⟨rfl, t1⟩
    have T1 : Hid (Turn [b] w w1) := T0.out.trans t1
    clear t1
    go_wp2_with fail
    exact ⟨rfl, rfl, T1.out⟩
  | ok y =>
    obtain ⟨x, q⟩ := y
    simp only [thenR]
    cases hy : tyU l q with
    | error y =>
      obtain ⟨f, e⟩ := y
      try simp only [mapR]
      have U0 : Hid (CU w b v l p) := H.out
      have T0 : Hid (Turn [b] w w) := Turn.refl [b] w
      go_enter Tryz.func62, Tryz.ntmps62
      go_wp2_with fail
      refine (Calls.ok_of (below_any U0.out 1 (by decide)) hx).mono ?_
      rintro en w1 ⟨rfl, t1, u1⟩
      have T1 : Hid (Turn [b] w w1) := T0.out.trans t1
      have U1 : Hid (CU w1 b v l q) := u1
      clear t1 u1 T0 U0
      go_wp2_with fail
      refine (Calls.er_of (index_any U1.out) hy).mono ?_
      rintro en w2 ⟨rfl, t2⟩
      have T2 : Hid (Turn [b] w w2) := T1.out.trans t2
      clear t2
      go_wp2_with fail
      exact ⟨rfl, rfl, T2.out⟩
    | ok y =>
      obtain ⟨t, r⟩ := y
      try simp only [mapR]
      have U0 : Hid (CU w b v l p) := H.out
      have T0 : Hid (Turn [b] w w) := Turn.refl [b] w
      go_enter Tryz.func62, Tryz.ntmps62
      go_wp2_with fail
      refine (Calls.ok_of (below_any U0.out 1 (by decide)) hx).mono ?_
      rintro en w1 ⟨rfl, t1, u1⟩
      have T1 : Hid (Turn [b] w w1) := T0.out.trans t1
      have U1 : Hid (CU w1 b v l q) := u1
      clear t1 u1 T0 U0
      go_wp2_with fail
      refine (Calls.ok_of (index_any U1.out) hy).mono ?_
      rintro en w2 ⟨rfl, t2, u2⟩
      have T2 : Hid (Turn [b] w w2) := T1.out.trans t2
      have U2 : Hid (CU w2 b v l r) := u2
      clear t2 u2 T1 U1
      go_wp2_with fail
      go_ret
      exact ⟨by first | rfl | simp, (Fin.mk_ T2.out U2.out)⟩
theorem belowR_bd {e : Int} {l : List Int} {p : Nat} {x : Int} {q : Nat} (hB : Byt l) (h : belowR e l p = .ok (x, q)) : 0 ≤ x ∧ x ≤ 255 ∧ x < e := by
  unfold belowR atR at h
  split at h
  · have := hB p
    dsimp only at h
    split at h
    · cases h
    · simp only [Except.ok.injEq, Prod.mk.injEq] at h
      omega
  · cases h
set_option maxRecDepth 100000 in
set_option maxHeartbeats 1000000 in
theorem kind_any {w : World} {b : Nat} {v : Value} {l : List Int} {p : Nat} (h : CU w b v l p) :
    Calls Tryz.prog 58 #[.pointer (some ⟨b, 0, none⟩)] w (Ans (fun n => .int .i64 n) b v l w (kindR l p)) := by
  have H : Hid (CU w b v l p) := h
  have hb : b < w.heap.size := h.lt
  have hl := h.len
  have hle := h.le
  have HB : Hid (Byt l) := h.byt
  clear h
  unfold kindR
  cases hx : belowR 5 l p with
  | error y =>
    obtain ⟨f, e⟩ := y
    have U0 : Hid (CU w b v l p) := H.out
    have T0 : Hid (Turn [b] w w) := Turn.refl [b] w
    go_enter Tryz.func58, Tryz.ntmps58
    go_wp2_with fail
    refine (Calls.er_of (below_any U0.out 5 (by decide)) hx).mono ?_
    rintro en w1 ⟨rfl, t1⟩
    have T1 : Hid (Turn [b] w w1) := T0.out.trans t1
    clear t1
    go_wp2_with fail
    exact ⟨rfl, rfl, T1.out⟩
  | ok y =>
    obtain ⟨x, q⟩ := y
    have hbd := belowR_bd HB.out hx
    have U0 : Hid (CU w b v l p) := H.out
    have T0 : Hid (Turn [b] w w) := Turn.refl [b] w
    go_enter Tryz.func58, Tryz.ntmps58
    go_wp2_with fail
    refine (Calls.ok_of (below_any U0.out 5 (by decide)) hx).mono ?_
    rintro en w1 ⟨rfl, t1, u1⟩
    have T1 : Hid (Turn [b] w w1) := T0.out.trans t1
    have U1 : Hid (CU w1 b v l q) := u1
    clear t1 u1 T0 U0
    go_wp2_with fail
    go_ret
    exact ⟨by first | rfl | simp, (Fin.mk_ T1.out U1.out)⟩
end Go.Proofs.YtchehejjdinifaaGreatDoor

namespace Go.Proofs.YtchehejjdinifaaGreatDoor
open Go.RowKit
set_option linter.unusedVariables false
set_option linter.unusedSimpArgs false

/- The cells (block, place, value) lie in blocks of W and are so in w'. -/
def Held (W w' : World) : List (Nat × Nat × Value) → Prop
  | [] => True
  | (b, j, v) :: l => (b < W.heap.size ∧ w'.cell? ⟨b, j, none⟩ = some v) ∧ Held W w' l
theorem Held.step {W w' w'' : World} (g0 : Grew W w') (g : Grew w' w'') : ∀ {l : List (Nat × Nat × Value)}, Held W w' l → Held W w'' l
  | [], _ => trivial
  | (b, j, v) :: l, ⟨⟨hb, hc⟩, h⟩ => ⟨⟨hb, by rw [g.1.cell (Nat.lt_of_lt_of_le hb g0.2)]; exact hc⟩, Held.step g0 g h⟩
def Ck (W : World) (l : List (Nat × Nat × Value)) (w' : World) : Prop := Grew W w' ∧ Held W w' l
theorem Ck.step {W : World} {l : List (Nat × Nat × Value)} {w' w'' : World} (h : Ck W l w') (g : Grew w' w'') : Ck W l w'' := ⟨h.1.trans g, Held.step h.1 g h.2⟩
theorem Ck.call {P : Program} {f : FuncId} {args : Array Value} {W : World} {l : List (Nat × Nat × Value)} {v : Value} {w' : World} (hc : Ck W l w')
    (h : Calls P f args w' fun e w'' => e = .returned v ∧ Grew w' w'') : Calls P f args w' fun e w'' => e = .returned v ∧ Ck W l w'' :=
  h.mono fun _ _ ⟨he, hg⟩ => ⟨he, hc.step hg⟩
theorem Ck.same {P : Program} {f : FuncId} {args : Array Value} {W : World} {l : List (Nat × Nat × Value)} {v : Value} {w' : World} (hc : Ck W l w')
    (h : Calls P f args w' fun e w'' => e = .returned v ∧ w'' = w') : Calls P f args w' fun e w'' => e = .returned v ∧ Ck W l w'' :=
  h.mono fun _ _ ⟨he, hg⟩ => ⟨he, by rw [hg]; exact hc⟩
theorem Held.drew {W : World} : ∀ {l : List (Nat × Nat × Value)}, Held W W l → Held W { W with drawn := W.drawn + 1 } l
  | [], _ => trivial
  | (b, j, v) :: l, ⟨⟨hb, hc⟩, h⟩ => ⟨⟨hb, hc⟩, Held.drew h⟩
theorem wp_region_ck {P : Program} {id : Nat} {Q : Exit → Act → World → Prop} {a : Act} {w : World} {l : List Oper} (c : List (Nat × Nat × Value)) (hm : P.follows .mixedOrders = true) (hB : Region.lexB .any l.toArray = true)
    (hc : Held w w c) (h : wpQuiet P l.toArray (Ck w c) (fun a' => ∀ w', Ck w c w' → Q .normal a' w') l a) : (Code.region id l.toArray true).wp P Q a w :=
  wp_region_quiet (C := Ck w c) hm hB ⟨(Grew.refl w).drew, hc.drew⟩ (by simpa using h)
end Go.Proofs.YtchehejjdinifaaGreatDoor

namespace Go.Proofs.YtchehejjdinifaaGreatDoor
open Go.RowKit
set_option linter.unusedVariables false
set_option linter.unusedSimpArgs false
set_option linter.constructorNameAsVariable false

/- A name read by the cursor. -/
def nameR (l : List Int) (p : Nat) : RS (List Int) := if (nm l p).2.2 = 0 then .ok ((nm l p).1, (nm l p).2.1.toNat) else .error ((nm l p).2.1.toNat, (nm l p).2.2.toNat)
theorem rd_bd {l : List Int} {p : Nat} {n q e : Int} (hp : p ≤ l.length) (h : rd 32 false l p l.length = (n, q, e)) (he : e ≠ 0) : 0 ≤ q ∧ q ≤ l.length ∧ 0 ≤ e ∧ e ≤ 21 := by
  rcases numR_ways (b := 32) (sg := false) hp with ⟨n', q', hr, h1, h2, h3⟩ | ⟨n', f, e', hr, h1, h2, h3, h4⟩
  · rw [hr] at h; simp only [Prod.mk.injEq] at h; omega
  · rw [hr] at h; simp only [Prod.mk.injEq] at h; omega
theorem nm_bd {l : List Int} {p : Nat} (hp : p ≤ l.length) : 0 ≤ (nm l p).2.1 ∧ (nm l p).2.1 ≤ l.length + 4 ∧ 0 ≤ (nm l p).2.2 ∧ (nm l p).2.2 ≤ 21 ∧ ((nm l p).2.2 = 0 → (p : Int) < (nm l p).2.1 ∧ (nm l p).2.1 ≤ l.length) := by
  rcases nm_cases l p with ⟨n, q, e, h1, he, h2⟩ | ⟨n, N, Q, h1, hN, hp0, hpq, hQ, ⟨hN1, hN2, h2⟩ | ⟨hN', hs, h2⟩ | ⟨hN', hs, i, ⟨hu, h2⟩ | ⟨hu, h2⟩⟩⟩
  · have := rd_bd hp h1 he; rw [h2]; simp only; omega
  · rw [h2]; simp only; omega
  · rw [h2]; simp only; omega
  · rw [h2]
    have hbd := U_bd ((l.take (Q + N)).drop Q)
    rw [hu] at hbd
    have hl : ((l.take (Q + N)).drop Q).length = N := by simp; omega
    rw [hl] at hbd
    simp only at hbd ⊢; omega
  · rw [h2]; simp only; omega
set_option maxRecDepth 100000 in
set_option maxHeartbeats 1000000 in
theorem name_any {w : World} {b : Nat} {v : Value} {l : List Int} {p : Nat} (h : CU w b v l p) :
    Calls Tryz.prog 34 #[.pointer (some ⟨b, 0, none⟩)] w (Ans (fun s => .string (strOfNums s)) b v l w (nameR l p)) := by
  have H : Hid (CU w b v l p) := h
  have hb : b < w.heap.size := h.lt
  have hl := h.len
  have hle := h.le
  have hbd := nm_bd h.le
  have c0 := h.c0
  have c1 := h.c1
  have C : Hid (∀ w', Grew w w' → Calls Tryz.prog 57 #[v, .int .i64 p] w' fun en w'' => en = .returned (.tuple #[.string (strOfNums (nm l p).1), .int .i64 (nm l p).2.1, .int .i64 (nm l p).2.2]) ∧ Grew w' w'') := fun w' g => Name_any v l p w' (g.reads h.rd) h.byt h.len
  clear h
  unfold nameR
  generalize nm l p = X at *
  obtain ⟨t, q, e⟩ := X
  simp only at hbd C ⊢
  obtain ⟨b1, b2, b3, b4, b5⟩ := hbd
  by_cases he : e = 0
  · subst he
    rw [if_pos rfl]
    have b5' := b5 rfl
    obtain ⟨k, rfl⟩ : ∃ k : Nat, q = k := ⟨q.toNat, by omega⟩
    rw [Int.toNat_natCast]
    clear b5
    obtain ⟨st, hst⟩ : ∃ st, strOfNums t = st := ⟨_, rfl⟩
    rw [hst] at C
    have HST : Hid (strOfNums t = st) := hst
    clear hst
    go_enter Tryz.func34, Tryz.ntmps34
    go_wp2_with fail
    refine wp_region_ck [(b, 0, v), (b, 1, .int .i64 p)] (by kernel_rfl) (by kernel_rfl) ⟨⟨hb, c0⟩, ⟨hb, c1⟩, trivial⟩ ?_
    repeat (first
      | go_big_quiet_skip
      | (go_big_quiet_want
         go_big_quiet_op
         first
         | go_big_quiet_on
         | (refine ⟨_, fun _ _ => rfl, ?_⟩; go_big_quiet_on)
         | (refine ⟨v, fun w' hw' => ?_, ?_⟩
            · (obtain ⟨_, ⟨_, hc0⟩, ⟨_, hc1⟩, _⟩ := hw'; go_simp; done)
            go_big_quiet_on)
         | (refine ⟨.int .i64 p, fun w' hw' => ?_, ?_⟩
            · (obtain ⟨_, ⟨_, hc0⟩, ⟨_, hc1⟩, _⟩ := hw'; go_simp; done)
            go_big_quiet_on)
         | (apply Exists.intro
            refine ⟨fun w' hw' => ?_, ?_⟩
            · (first
               | exact hw'.call (C.out _ hw'.1))
            go_big_quiet_on)))
    refine wpQuiet_nil ?_
    rintro w1 ⟨g1, _⟩
    have T1 : Hid (Turn [b] w w1) := g1.turn _
    have U1 : Hid (CU w1 b v l p) := H.out.grew g1
    have z1 := U1.out.z1
    have e1 := U1.out.c1
    clear g1 C c0 c1
    go_wp2_with fail
    go_ret
    refine ⟨?_, T1.out.set (Or.inl (by simp)) _, U1.out.set1 (by omega)⟩
    show _ = Ending.returned (.string (strOfNums t))
    rw [HST.out]
    rfl
  · rw [if_neg he]
    have he' : (e != 0) = true := by simpa using he
    obtain ⟨st, hst⟩ : ∃ st, strOfNums t = st := ⟨_, rfl⟩
    rw [hst] at C
    have HST : Hid (strOfNums t = st) := hst
    clear hst
    clear b5
    go_enter Tryz.func34, Tryz.ntmps34
    go_wp2_with fail
    refine wp_region_ck [(b, 0, v), (b, 1, .int .i64 p)] (by kernel_rfl) (by kernel_rfl) ⟨⟨hb, c0⟩, ⟨hb, c1⟩, trivial⟩ ?_
    repeat (first
      | go_big_quiet_skip
      | (go_big_quiet_want
         go_big_quiet_op
         first
         | go_big_quiet_on
         | (refine ⟨_, fun _ _ => rfl, ?_⟩; go_big_quiet_on)
         | (refine ⟨v, fun w' hw' => ?_, ?_⟩
            · (obtain ⟨_, ⟨_, hc0⟩, ⟨_, hc1⟩, _⟩ := hw'; go_simp; done)
            go_big_quiet_on)
         | (refine ⟨.int .i64 p, fun w' hw' => ?_, ?_⟩
            · (obtain ⟨_, ⟨_, hc0⟩, ⟨_, hc1⟩, _⟩ := hw'; go_simp; done)
            go_big_quiet_on)
         | (apply Exists.intro
            refine ⟨fun w' hw' => ?_, ?_⟩
            · (first
               | exact hw'.call (C.out _ hw'.1))
            go_big_quiet_on)))
    refine wpQuiet_nil ?_
    rintro w1 ⟨g1, _⟩
    have T1 : Hid (Turn [b] w w1) := g1.turn _
    have U1 : Hid (CU w1 b v l p) := H.out.grew g1
    have z1 := U1.out.z1
    have e1 := U1.out.c1
    clear g1 C c0 c1
    go_wp2_with fail
    refine (giveUp_any _ _ _).mono ?_
    rintro en w9 ⟨rfl, h9⟩
    obtain rfl := h9.symm
    go_wp2_with fail
    refine ⟨rfl, ?_, T1.out⟩
    rw [Int.toNat_of_nonneg b1, Int.toNat_of_nonneg b3]
end Go.Proofs.YtchehejjdinifaaGreatDoor

namespace Go.Proofs.YtchehejjdinifaaGreatDoor
open Go.RowKit
set_option linter.unusedVariables false
set_option linter.unusedSimpArgs false

theorem at_store {P : Program} {ops : Array Oper} {rest : List Oper} {o : Oper} {a : Act} {w : World} {Q : Exit → Act → World → Prop} (ty : TypeId) {x y : Operand} (ho : o.op = .store ty x y) (h : wpList P ops Q (o :: rest) a w) : wpList P ops Q (o :: rest) a w := h
theorem at_load {P : Program} {ops : Array Oper} {rest : List Oper} {o : Oper} {a : Act} {w : World} {Q : Exit → Act → World → Prop} (ty : TypeId) {x : Operand} (ho : o.op = .load ty x) (h : wpList P ops Q (o :: rest) a w) : wpList P ops Q (o :: rest) a w := h
theorem run_loadVar_seg {P : Program} (w : World) (g off : Nat) (ty : TypeId) (l : List Value) (d : TypeDesc) (hc : ∀ (j : Nat) (v : Value), l[j]? = some v → w.cell? ⟨g, off + j, none⟩ = some v)
    (hu : P.underlying ty = some d) (hd : (match d with | .struct _ | .array _ _ => true | _ => false) = true) (hi : (P.info? ty).map (·.size) = some l.length) :
    (loadVar ty ⟨g, off, none⟩).run P w = .ok (.agg l.toArray) w := by
  have hl : (loadCells ⟨g, off, none⟩ l.length).run P w = .ok l.toArray w :=
    run_loadCells_list (P := P) w ⟨g, off, none⟩ l (fun j v hv => by
      have hadd : (⟨g, off, none⟩ : Addr).add j = ⟨g, off + j, none⟩ := by simp [Addr.add]
      rw [hadd]
      exact hc j v hv)
  cases hq : P.info? ty with
  | none => simp [hq] at hi
  | some i =>
    have hs : i.size = l.length := by simpa [hq] using hi
    have hagg : (isAgg ty).run P w = .ok true w := by
      unfold isAgg
      rw [Sem.run_bind, run_underlying hu w]
      cases d <;> simp_all
    simp [loadVar, Sem.run_bind, hagg, sizeOf, typeInfo, hq, hs, hl]
theorem wpList_load_seg {P : Program} {ops : Array Oper} {rest : List Oper} {o : Oper} {a : Act} {w : World} {Q : Exit → Act → World → Prop} (hgd : o.guard = none) (ty : TypeId) (x : Operand) (ho : o.op = .load ty x)
    (g off : Nat) (hx : a.eval x = .pointer (some ⟨g, off, none⟩)) (l : List Value) (d : TypeDesc) (hc : ∀ (j : Nat) (v : Value), l[j]? = some v → w.cell? ⟨g, off + j, none⟩ = some v)
    (hu : P.underlying ty = some d) (hd : (match d with | .struct _ | .array _ _ => true | _ => false) = true) (hi : (P.info? ty).map (·.size) = some l.length)
    (h : wpList P ops Q rest (a.put o.dst (.agg l.toArray)) w) : wpList P ops Q (o :: rest) a w :=
  wpList_plain hgd fun _ hK => by
    unfold Oper.wp execOp
    simp only [ho, hx, Instr.loadAt, Instr.sureAddr, Sem.run_bind, Sem.run_pure, Result.andThen_ok, run_loadVar_seg w g off ty l d hc hu hd hi]
    exact hK _ _ h
theorem wpList_load_run {P : Program} {ops : Array Oper} {rest : List Oper} {o : Oper} {a : Act} {w : World} {Q : Exit → Act → World → Prop} (hw : Region.wanted o (yielded ops a.tmps) = true) (ty : TypeId) (x : Operand) (ho : o.op = .load ty x)
    (g off : Nat) (hx : a.eval x = .pointer (some ⟨g, off, none⟩)) (v : Value) (hr : (loadVar ty ⟨g, off, none⟩).run P w = .ok v w) (h : wpList P ops Q rest (a.put o.dst v) w) : wpList P ops Q (o :: rest) a w := by
  simp only [wpList, hw, if_true]
  refine Or.inl ?_
  unfold Oper.wp execOp
  simp only [ho, hx, Instr.loadAt, Instr.sureAddr, Sem.run_bind, Sem.run_pure, Result.andThen_ok, hr]
  exact h
theorem seg_of {w : World} {g : Nat} {cs : Array Value} {t : TypeId} {fr : Nat × Nat} (h : w.heap[g]? = some (.cells cs t fr)) {off : Nat} {l : List Value} (hl : ∀ (j : Nat) (v : Value), l[j]? = some v → cs[off + j]? = some v) :
    ∀ (j : Nat) (v : Value), l[j]? = some v → w.cell? ⟨g, off + j, none⟩ = some v := fun j v hj => by rw [cell_of h]; exact hl j v hj
theorem heap_setRow {w : World} {g : Nat} {cs old : Array Value} {t : TypeId} {fr : Nat × Nat} (h : w.heap[g]? = some (.cells old t fr)) : (w.setRow g cs).heap[g]? = some (.cells cs t fr) := setRow_heap w g old cs t fr h
theorem Grew.setRow {w w' : World} (h : Grew w w') {g : Nat} (hg : w.heap.size ≤ g) (cs : Array Value) : Grew w (w'.setRow g cs) :=
  ⟨⟨h.1.os, h.1.tape, h.1.output, by simpa using h.2, fun k hk => (setRow_other w' g k cs (by omega)).trans (h.1.block k hk)⟩, by simpa using h.2⟩
theorem wpList_store_last {P : Program} {ops : Array Oper} {rest : List Oper} {o : Oper} {a : Act} {w : World} {Q : Exit → Act → World → Prop} (hgd : o.guard = none) (ty : TypeId) (x y : Operand) (ho : o.op = .store ty x y)
    (cells : Array Value) (hx : a.eval x = .pointer (some ⟨w.heap.size, 0, none⟩)) (hy : a.eval y = .agg cells)
    (old : Array Value) (hi : (P.info? ty).map (·.size) = some cells.size)
    (hold : old.size = cells.size) (h1 : cells.all (·.oneCell') = true)
    (h : wpList P ops Q rest (a.put o.dst undef) (w.alloc (.cells cells ty))) : wpList P ops Q (o :: rest) a (w.alloc (.cells old ty)) :=
  wpList_store_row hgd ty x y ho w.heap.size cells hx hy ty old (heap_alloc_last w _) hi hold h1 (by rw [World.setRow_alloc_new]; exact h)
end Go.Proofs.YtchehejjdinifaaGreatDoor
