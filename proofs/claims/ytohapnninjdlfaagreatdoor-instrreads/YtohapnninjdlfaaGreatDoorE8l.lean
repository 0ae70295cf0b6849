/-
  Great structs loaded and stored whole, or a part of them: laws; no statement is proved here.
-/
import Derived.Test.YtohapnninjdlfaaGreatDoorInG
import Derived.Test.YtohapnninjdlfaaGreatDoorInK
import Derived.Test.YtohapnninjdlfaaGreatDoorRowM
import Derived.Laws.Rows
namespace Go.Proofs.YtohapnninjdlfaaGreatDoor
open Go.RowKit
set_option linter.unusedVariables false
set_option linter.unusedSimpArgs false
set_option linter.constructorNameAsVariable false

theorem SI.low {w0 wb : World} {b M : Nat} {v : Value} {l : List Int} {w : World} {st : Except (Nat × Nat) Nat} {es : Array Value} (h : SI w0 wb b M v l w st es) : w0.heap.size ≤ w.heap.size := h.tn.size
def es4 (es : Array Value) (y : BK) : Array Value := (((es.setIfInBounds 7 (.int .i64 y.type_)).setIfInBounds 8 (.int .i64 y.result.num)).setIfInBounds 9 (.bool y.result.null)).setIfInBounds 10 (.int .i64 y.result.heap)
set_option maxRecDepth 100000 in
set_option maxHeartbeats 2000000 in
theorem fB_any {w0 wb : World} {b M : Nat} {v : Value} {l : List Int} {w : World} {st : Except (Nat × Nat) Nat} {es : Array Value} (h : SI w0 wb b M v l w st es) :
    Calls Tryz.prog 41 #[.pointer (some ⟨b, 0, none⟩), .pointer (some ⟨M, 0, none⟩)] w (Fld w0 wb b M v l es (runI (blockR l) st) fun y w' es' => es' = es4 es y) := by
  have H : Hid (SI w0 wb b M v l w st es) := h
  have C := typedB_any h.di
  clear h
  go_enter Tryz.func41, Tryz.ntmps41
  go_wp2_with fail
  refine C.mono ?_
  rintro en w1 ⟨⟨y0, ⟨y1, y2, y3⟩⟩, st1, rfl, f1, t1⟩
  have S1 : Hid (SI w0 wb b M v l w1 st1 es) := H.out.step f1
  obtain ⟨u7, h7, _⟩ := S1.out.cell 7 (by decide)
  obtain ⟨u8, h8, _⟩ := S1.out.cell 8 (by decide)
  obtain ⟨u9, h9, _⟩ := S1.out.cell 9 (by decide)
  obtain ⟨u10, h10, _⟩ := S1.out.cell 10 (by decide)
  have z7 := free_of S1.out.io 7
  have z8 := free_of S1.out.io 8
  have z9 := free_of S1.out.io 9
  have z10 := free_of S1.out.io 10
  have T1 : Hid (TieI (runI (blockR l) st) ⟨y0, ⟨y1, y2, y3⟩⟩ st1) := t1
  clear C f1 t1
  unfold BK.v
  go_wp2_with fail
  go_end0
  exact ⟨rfl, _, st1, _, (((S1.out.set 7 _).set 8 _).set 9 _).set 10 _, by rw [head_keep (by decide), head_keep (by decide), head_keep (by decide), head_keep (by decide)], T1.out, rfl⟩
set_option maxRecDepth 100000 in
set_option maxHeartbeats 2000000 in
theorem fTy_any {w0 wb : World} {b M : Nat} {v : Value} {l : List Int} {w : World} {st : Except (Nat × Nat) Nat} {es : Array Value} (h : SI w0 wb b M v l w st es) :
    Calls Tryz.prog 46 #[.pointer (some ⟨b, 0, none⟩), .pointer (some ⟨M, 0, none⟩)] w (Fld w0 wb b M v l es (runI (valsR l) st) fun y w' es' => ∃ rv, RowV w0.heap.size w' rv y ∧ es' = es.setIfInBounds 15 rv) := by
  have H : Hid (SI w0 wb b M v l w st es) := h
  have C := typedR_any h.di
  clear h
  go_enter Tryz.func46, Tryz.ntmps46
  go_wp2_with fail
  refine C.mono ?_
  rintro en w1 ⟨rv, y, st1, rfl, r1, f1, t1⟩
  have S1 : Hid (SI w0 wb b M v l w1 st1 es) := H.out.step f1
  obtain ⟨u, hu, _⟩ := S1.out.cell 15 (by decide)
  have z := free_of S1.out.io 15
  have T1 : Hid (TieI (runI (valsR l) st) y st1) := t1
  have R1 : Hid (RowV w0.heap.size w1 rv y) := row_low r1 H.out.low
  obtain ⟨ra, rc, hrv⟩ := row_one r1
  subst hrv
  clear C f1 t1 r1
  go_wp2_with fail
  go_end0
  exact ⟨rfl, y, st1, _, S1.out.set 15 _, head_keep (by decide), T1.out, _, row_set R1.out (NoT.of S1.out.io (by decide)) _, rfl⟩
set_option maxRecDepth 100000 in
set_option maxHeartbeats 2000000 in
theorem fLab_any {w0 wb : World} {b M : Nat} {v : Value} {l : List Int} {w : World} {st : Except (Nat × Nat) Nat} {es : Array Value} (h : SI w0 wb b M v l w st es) :
    Calls Tryz.prog 45 #[.pointer (some ⟨b, 0, none⟩), .pointer (some ⟨M, 0, none⟩)] w (Fld w0 wb b M v l es (runI (listR 65536 (u32R l) l) st) fun y w' es' => ∃ rv, RowU w0.heap.size w' rv y ∧ es' = es.setIfInBounds 14 rv) := by
  have H : Hid (SI w0 wb b M v l w st es) := h
  have C := listU_any h.di
  clear h
  go_enter Tryz.func45, Tryz.ntmps45
  go_wp2_with fail
  refine C.mono ?_
  rintro en w1 ⟨rv, y, st1, rfl, r1, f1, t1⟩
  have S1 : Hid (SI w0 wb b M v l w1 st1 es) := H.out.step f1
  obtain ⟨u, hu, _⟩ := S1.out.cell 14 (by decide)
  have z := free_of S1.out.io 14
  have T1 : Hid (TieI (runI (listR 65536 (u32R l) l) st) y st1) := t1
  have R1 : Hid (RowU w0.heap.size w1 rv y) := row_low r1 H.out.low
  obtain ⟨ra, rc, hrv⟩ := row_one r1
  subst hrv
  clear C f1 t1 r1
  go_wp2_with fail
  go_end0
  exact ⟨rfl, y, st1, _, S1.out.set 14 _, head_keep (by decide), T1.out, _, row_set R1.out (NoT.of S1.out.io (by decide)) _, rfl⟩
set_option maxRecDepth 100000 in
set_option maxHeartbeats 2000000 in
theorem fCat_any {w0 wb : World} {b M : Nat} {v : Value} {l : List Int} {w : World} {st : Except (Nat × Nat) Nat} {es : Array Value} (h : SI w0 wb b M v l w st es) :
    Calls Tryz.prog 42 #[.pointer (some ⟨b, 0, none⟩), .pointer (some ⟨M, 0, none⟩)] w (Fld w0 wb b M v l es (runI (listR 65536 (clauseR l) l) st) fun y w' es' => ∃ rv, RowC w0.heap.size w' rv y ∧ es' = es.setIfInBounds 16 rv) := by
  have H : Hid (SI w0 wb b M v l w st es) := h
  have C := listC_any h.di
  clear h
  go_enter Tryz.func42, Tryz.ntmps42
  go_wp2_with fail
  refine C.mono ?_
  rintro en w1 ⟨rv, y, st1, rfl, r1, f1, t1⟩
  have S1 : Hid (SI w0 wb b M v l w1 st1 es) := H.out.step f1
  obtain ⟨u, hu, _⟩ := S1.out.cell 16 (by decide)
  have z := free_of S1.out.io 16
  have T1 : Hid (TieI (runI (listR 65536 (clauseR l) l) st) y st1) := t1
  have R1 : Hid (RowC w0.heap.size w1 rv y) := row_low r1 H.out.low
  obtain ⟨ra, rc, hrv⟩ := row_one r1
  subst hrv
  clear C f1 t1 r1
  go_wp2_with fail
  go_end0
  exact ⟨rfl, y, st1, _, S1.out.set 16 _, head_keep (by decide), T1.out, _, row_set R1.out (NoT.of S1.out.io (by decide)) _, rfl⟩
set_option maxRecDepth 100000 in
set_option maxHeartbeats 2000000 in
theorem reference_any (nul : Bool) (hp : Int) (w : World) : Calls Tryz.prog 83 #[.bool nul, .int .i64 hp] w fun en w' => en = .returned (.agg #[.int .i64 5, .bool nul, .int .i64 hp]) ∧ Grew w w' := by
  go_enter Tryz.func83, Tryz.ntmps83
  go_wp2_with fail
  refine bodyPost_ret (v := .agg #[.int .i64 5, .bool nul, .int .i64 hp]) (by simp [results, Tryz.results83, go_sem]) rfl ?_
  exact ⟨rfl, (Grew.refl w).alloc _⟩
theorem rowV_one (w : World) (a : VT) : RowV w.heap.size (w.alloc (.cells #[.int .i64 a.num, .bool a.null, .int .i64 a.heap] 28)) (.slice (some ⟨w.heap.size, 0, none⟩) 1 1) [a] := by
  refine ⟨by simp [VT.c], Or.inr ⟨w.heap.size, 1, #[.int .i64 a.num, .bool a.null, .int .i64 a.heap], rfl, Nat.le_refl _, heap_alloc_last _ _, ?_⟩⟩
  refine ⟨Nat.le_refl _, by unfold maxLen; omega, ?_⟩
  simp [VT.c]
theorem rowV_two (w : World) (a c : VT) : RowV w.heap.size (w.alloc (.cells #[.int .i64 a.num, .bool a.null, .int .i64 a.heap, .int .i64 c.num, .bool c.null, .int .i64 c.heap] 28)) (.slice (some ⟨w.heap.size, 0, none⟩) 2 2) [a, c] := by
  refine ⟨by simp [VT.c], Or.inr ⟨w.heap.size, 2, #[.int .i64 a.num, .bool a.null, .int .i64 a.heap, .int .i64 c.num, .bool c.null, .int .i64 c.heap], rfl, Nat.le_refl _, heap_alloc_last _ _, ?_⟩⟩
  refine ⟨Nat.le_refl _, by unfold maxLen; omega, ?_⟩
  simp [VT.c]
set_option maxRecDepth 100000 in
set_option maxHeartbeats 2000000 in
theorem fHe_any {w0 wb : World} {b M : Nat} {v : Value} {l : List Int} {w : World} {st : Except (Nat × Nat) Nat} {es : Array Value} (h : SI w0 wb b M v l w st es) :
    Calls Tryz.prog 52 #[.pointer (some ⟨b, 0, none⟩), .pointer (some ⟨M, 0, none⟩)] w (Fld w0 wb b M v l es (runI (heapR l) st) fun y w' es' => ∃ rv, RowV w0.heap.size w' rv [⟨5, true, y⟩] ∧ es' = es.setIfInBounds 15 rv) := by
  have H : Hid (SI w0 wb b M v l w st es) := h
  have C := typedH_any h.di
  clear h
  go_enter Tryz.func52, Tryz.ntmps52
  go_wp2_with fail
  refine C.mono ?_
  rintro en w1 ⟨y, st1, rfl, f1, t1⟩
  have S1 : Hid (SI w0 wb b M v l w1 st1 es) := H.out.step f1
  have T1 : Hid (TieI (runI (heapR l) st) y st1) := t1
  clear C f1 t1
  go_wp2_with fail
  refine (reference_any true y w1).mono ?_
  rintro en w2 ⟨rfl, g2⟩
  have S2 : Hid (SI w0 wb b M v l w2 st1 es) := S1.out.grew g2
  have S3 : Hid (SI w0 wb b M v l (w2.alloc (.cells #[.int .i64 5, .bool true, .int .i64 y] 28)) st1 es) := S2.out.grew ((Grew.refl _).alloc _)
  have R3 : Hid (RowV w0.heap.size (w2.alloc (.cells #[.int .i64 5, .bool true, .int .i64 y] 28)) (.slice (some ⟨w2.heap.size, 0, none⟩) 1 1) [⟨5, true, y⟩]) := row_low (rowV_one w2 ⟨5, true, y⟩) S2.out.low
  obtain ⟨u, hu, _⟩ := S3.out.cell 15 (by decide)
  have z := free_of S3.out.io 15
  clear g2 S1 S2
  go_wp2_with fail
  go_end0
  exact ⟨rfl, y, st1, _, S3.out.set 15 _, head_keep (by decide), T1.out, _, row_set R3.out (NoT.of S3.out.io (by decide)) _, rfl⟩
set_option maxRecDepth 100000 in
set_option maxHeartbeats 2000000 in
theorem nullByName_any (op : Int) (w : World) : Calls Tryz.prog 86 #[.int .i64 op] w fun en w' => en = .returned (.bool (nbn op)) ∧ Grew w w' := by
  by_cases h1 : op = 64277
  · subst h1
    go_enter Tryz.func86, Tryz.ntmps86
    go_wp2_with fail
    go_ret
    exact ⟨rfl, Grew.refl w⟩
  by_cases h2 : op = 64279
  · subst h2
    go_enter Tryz.func86, Tryz.ntmps86
    go_wp2_with fail
    go_ret
    exact ⟨rfl, Grew.refl w⟩
  have d1 : (op == 64277) = false := by simpa using h1
  have d2 : (op == 64279) = false := by simpa using h2
  have E : Hid (nbn op = false) := by show nbn op = false; unfold nbn; rw [d1, d2]; rfl
  clear h1 h2
  go_enter Tryz.func86, Tryz.ntmps86
  go_wp2_with fail
  go_ret
  rw [E.out]
  exact ⟨rfl, Grew.refl w⟩
set_option maxRecDepth 100000 in
set_option maxHeartbeats 2000000 in
theorem fCa_any {w0 wb : World} {b M : Nat} {v : Value} {l : List Int} {w : World} {st : Except (Nat × Nat) Nat} {es : Array Value} (h : SI w0 wb b M v l w st es) {op : Int} (hop : es[0]? = some (.int .i64 op)) :
    Calls Tryz.prog 53 #[.pointer (some ⟨b, 0, none⟩), .pointer (some ⟨M, 0, none⟩)] w (Fld w0 wb b M v l es (runI (heapR l) st) fun y w' es' => ∃ rv, RowV w0.heap.size w' rv [⟨5, nbn op, y⟩] ∧ es' = es.setIfInBounds 15 rv) := by
  have H : Hid (SI w0 wb b M v l w st es) := h
  have c0 := (cell_of h.io 0).trans hop
  clear h hop
  go_enter Tryz.func53, Tryz.ntmps53
  go_wp2_with fail
  refine (nullByName_any op w).mono ?_
  rintro en w' ⟨rfl, g0⟩
  have S0 : Hid (SI w0 wb b M v l w' st es) := H.out.grew g0
  clear g0
  obtain ⟨nb, hnb⟩ : ∃ nb, nbn op = nb := ⟨_, rfl⟩
  rw [hnb]
  have NB : Hid (nbn op = nb) := hnb
  clear hnb
  go_wp2_with fail
  refine (typedH_any S0.out.di).mono ?_
  rintro en w1 ⟨y, st1, rfl, f1, t1⟩
  have S1 : Hid (SI w0 wb b M v l w1 st1 es) := S0.out.step f1
  have T1 : Hid (TieI (runI (heapR l) st) y st1) := t1
  clear f1 t1 S0
  go_wp2_with fail
  refine (reference_any nb y w1).mono ?_
  rintro en w2 ⟨rfl, g2⟩
  have S2 : Hid (SI w0 wb b M v l w2 st1 es) := S1.out.grew g2
  have S3 : Hid (SI w0 wb b M v l (w2.alloc (.cells #[.int .i64 5, .bool nb, .int .i64 y] 28)) st1 es) := S2.out.grew ((Grew.refl _).alloc _)
  have R3 : Hid (RowV w0.heap.size (w2.alloc (.cells #[.int .i64 5, .bool nb, .int .i64 y] 28)) (.slice (some ⟨w2.heap.size, 0, none⟩) 1 1) [⟨5, nb, y⟩]) := row_low (rowV_one w2 ⟨5, nb, y⟩) S2.out.low
  obtain ⟨u, hu, _⟩ := S3.out.cell 15 (by decide)
  have z := free_of S3.out.io 15
  clear g2 S1 S2
  go_wp2_with fail
  go_end0
  refine ⟨rfl, y, st1, _, S3.out.set 15 _, head_keep (by decide), T1.out, .slice (some ⟨w2.heap.size, 0, none⟩) 1 1, ?_, rfl⟩
  rw [NB.out]
  exact row_set R3.out (NoT.of S3.out.io (by decide)) _
def bit1 (k : Int) : Bool := bits .and .u8 k 1 != 0
def bit2 (k : Int) : Bool := bits .and .u8 k 2 != 0
set_option maxRecDepth 100000 in
set_option maxHeartbeats 2000000 in
theorem fBr_any {w0 wb : World} {b M : Nat} {v : Value} {l : List Int} {w : World} {st : Except (Nat × Nat) Nat} {es : Array Value} (h : SI w0 wb b M v l w st es) :
    Calls Tryz.prog 54 #[.pointer (some ⟨b, 0, none⟩), .pointer (some ⟨M, 0, none⟩)] w (Fld w0 wb b M v l es (runI (brF l) st) fun y w' es' => ∃ rv, RowV w0.heap.size w' rv [⟨5, bit1 y.1, y.2.2.1⟩, ⟨5, bit2 y.1, y.2.2.2⟩] ∧ es' = (es.setIfInBounds 1 (.int .u32 y.2.1)).setIfInBounds 15 rv) := by
  have H : Hid (SI w0 wb b M v l w st es) := h
  have C := ibelow_t h.di 4
  clear h
  go_enter Tryz.func54, Tryz.ntmps54
  go_wp2_with fail
  refine C.mono ?_
  rintro en w1 ⟨k, st1, rfl, hk, f1, t1⟩
  have S1 : Hid (SI w0 wb b M v l w1 st1 es) := H.out.step f1
  have T1 : Hid (TieI (runI (belowR 4 l) st) k st1) := t1
  obtain ⟨n1, hn1⟩ : ∃ n1, (bits .and .u8 k 1 != 0) = n1 := ⟨_, rfl⟩
  obtain ⟨n2, hn2⟩ : ∃ n2, (bits .and .u8 k 2 != 0) = n2 := ⟨_, rfl⟩
  have B1 : Hid (bit1 k = n1) := hn1
  have B2 : Hid (bit2 k = n2) := hn2
  clear C f1 t1 hk
  go_wp2_with fail
  refine (idx_t S1.out.di).mono ?_
  rintro en w2 ⟨x, st2, rfl, hx, f2, t2⟩
  have S2 : Hid (SI w0 wb b M v l w2 st2 es) := S1.out.step f2
  have T2 : Hid (TieI (runI (u32R l) st1) x st2) := t2
  obtain ⟨u1, hu1, _⟩ := S2.out.cell 1 (by decide)
  have z1 := free_of S2.out.io 1
  clear f2 t2 hx S1
  go_wp2_with fail
  have S3 : Hid (SI w0 wb b M v l (w2.setCell ⟨M, 1, none⟩ (.int .u32 x)) st2 (es.setIfInBounds 1 (.int .u32 x))) := S2.out.set 1 _
  refine (typedH_any S3.out.di).mono ?_
  rintro en w4 ⟨a, st4, rfl, f4, t4⟩
  have S4 : Hid (SI w0 wb b M v l w4 st4 (es.setIfInBounds 1 (.int .u32 x))) := S3.out.step f4
  have T4 : Hid (TieI (runI (heapR l) st2) a st4) := t4
  clear f4 t4 S3 S2 hu1 z1
  go_wp2_with fail
  refine (reference_any n1 a w4).mono ?_
  rintro en w5 ⟨rfl, g5⟩
  have S5 : Hid (SI w0 wb b M v l (w5.alloc (.cells #[.int .i64 5, .bool n1, .int .i64 a] 28)) st4 (es.setIfInBounds 1 (.int .u32 x))) := (S4.out.grew g5).grew ((Grew.refl _).alloc _)
  have hA : (w5.alloc (.cells #[.int .i64 5, .bool n1, .int .i64 a] 28)).heap[w5.heap.size]? = some (.cells #[.int .i64 5, .bool n1, .int .i64 a] 28 (0, 0)) := heap_alloc_last _ _
  have A5 : Hid ((w5.alloc (.cells #[.int .i64 5, .bool n1, .int .i64 a] 28)).heap[w5.heap.size]? = some (.cells #[.int .i64 5, .bool n1, .int .i64 a] 28 (0, 0))) := hA
  have hb5 : b ≠ w5.heap.size := by have := (S4.out.grew g5).di.lt; omega
  clear g5 S4 hA
  go_wp2_with fail
  refine (typedH_any S5.out.di).mono ?_
  rintro en w6 ⟨d, st6, rfl, f6, t6⟩
  have S6 : Hid (SI w0 wb b M v l w6 st6 (es.setIfInBounds 1 (.int .u32 x))) := S5.out.step f6
  have T6 : Hid (TieI (runI (heapR l) st4) d st6) := t6
  have hA6 := f6.1.other A5.out (by simp; exact fun hh => hb5 hh.symm)
  clear f6 t6 S5 A5
  generalize hN5 : w5.heap.size = N5 at *
  clear hN5 w5
  go_wp2_with fail
  refine (reference_any n2 d w6).mono ?_
  rintro en w7 ⟨rfl, g7⟩
  have hA7 := (g7.turn []).other hA6 (by simp)
  have S7 : Hid (SI w0 wb b M v l w7 st6 (es.setIfInBounds 1 (.int .u32 x))) := S6.out.grew g7
  have hN7 : N5 < w7.heap.size := lt_of_obj hA7
  have q0 := cell_of hA7 0
  have q1 := cell_of hA7 1
  have q2 := cell_of hA7 2
  simp at q0 q1 q2
  have S8 : Hid (SI w0 wb b M v l ((w7.alloc (.cells #[.int .i64 5, .bool n2, .int .i64 d] 28)).alloc (.cells #[.int .i64 5, .bool n1, .int .i64 a, .int .i64 5, .bool n2, .int .i64 d] 28)) st6 (es.setIfInBounds 1 (.int .u32 x))) := S7.out.grew (((Grew.refl _).alloc _).alloc _)
  have R8 : Hid (RowV w0.heap.size ((w7.alloc (.cells #[.int .i64 5, .bool n2, .int .i64 d] 28)).alloc (.cells #[.int .i64 5, .bool n1, .int .i64 a, .int .i64 5, .bool n2, .int .i64 d] 28)) (.slice (some ⟨w7.heap.size + 1, 0, none⟩) 2 2) [⟨5, n1, a⟩, ⟨5, n2, d⟩]) := by
    have r := rowV_two (w7.alloc (.cells #[.int .i64 5, .bool n2, .int .i64 d] 28)) ⟨5, n1, a⟩ ⟨5, n2, d⟩
    rw [alloc_size] at r
    exact row_low r (Nat.le_succ_of_le S7.out.low)
  obtain ⟨u, hu, _⟩ := S8.out.cell 15 (by decide)
  have z := free_of S8.out.io 15
  clear g7 S6 hA6 hA7 S7
  go_wp2_with fail
  go_end0
  have B1' := B1.out
  have B2' := B2.out
  refine ⟨rfl, (k, x, a, d), st6, _, S8.out.set 15 _, (head_keep (by decide)).trans (head_keep (by decide)), ?_, _, row_set ?_ (NoT.of S8.out.io (by decide)) _, rfl⟩
  · refine TieI.seq T1.out ?_
    refine TieI.seq T2.out ?_
    refine TieI.seq T4.out ?_
    rw [runI_map]
    exact T6.out.map _
  · show RowV _ _ _ [⟨5, bit1 k, a⟩, ⟨5, bit2 k, d⟩]
    rw [B1', B2']
    exact R8.out
theorem and63 {n : Int} (h0 : 0 ≤ n) (h1 : n ≤ 127) : bits .and .u32 n 63 = (if 64 ≤ n then n - 64 else n) ∧ ((bits .and .u32 n 64 != 0) = decide (64 ≤ n)) := by
  have key : ∀ k : _root_.Fin 128, bits .and .u32 (k.val : Int) 63 = (if (64 : Int) ≤ (k.val : Int) then (k.val : Int) - 64 else (k.val : Int)) ∧ ((bits .and .u32 (k.val : Int) 64 != 0) = decide ((64 : Int) ≤ (k.val : Int))) := by decide +kernel
  have := key ⟨n.toNat, by omega⟩
  simpa [Int.toNat_of_nonneg h0] using this
theorem set_same {es : Array Value} {j : Nat} {x : Value} (h : es[j]? = some x) : es.setIfInBounds j x = es := by
  apply Array.ext_getElem?
  intro i
  rw [Array.getElem?_setIfInBounds]
  split
  · rename_i e
    subst e
    obtain ⟨hj, hx⟩ := Array.getElem?_eq_some_iff.mp h
    rw [if_pos hj, h]
  · rfl
def es3 (es : Array Value) (y : ME) : Array Value := ((es.setIfInBounds 4 (.int .u32 y.align)).setIfInBounds 5 (.int .u32 y.mem)).setIfInBounds 6 (.int .u64 y.off)
theorem es3_no {es : Array Value} (h5 : es[5]? = some (.int .u32 0)) (a o : Int) : (es.setIfInBounds 4 (.int .u32 a)).setIfInBounds 6 (.int .u64 o) = es3 es ⟨a, 0, o⟩ := by
  unfold es3
  rw [set_same (j := 5) (x := .int .u32 0) (by rw [Array.getElem?_setIfInBounds_ne (by decide)]; exact h5)]
theorem memR_then (l : List Int) (st : Except (Nat × Nat) Nat) : runI (memR l) st = runI (fun p => thenR (u32R l p) ((fun (p : Nat) (n : Int) q => if 127 < n then (.error (p, 4) : RS ME) else if 64 ≤ n then thenR (u32R l q) (fun m r => mapR (fun o => ⟨n - 64, m, o⟩) (numR 64 false l r)) else mapR (fun o => ⟨n, 0, o⟩) (numR 64 false l q)) p)) st := by cases st <;> rfl
set_option maxRecDepth 100000 in
set_option maxHeartbeats 2000000 in
theorem fMem_any {w0 wb : World} {b M : Nat} {v : Value} {l : List Int} {w : World} {st : Except (Nat × Nat) Nat} {es : Array Value} (h : SI w0 wb b M v l w st es) (h5 : es[5]? = some (.int .u32 0)) :
    Calls Tryz.prog 47 #[.pointer (some ⟨b, 0, none⟩), .pointer (some ⟨M, 0, none⟩)] w (Fld w0 wb b M v l es (runI (memR l) st) fun y w' es' => es' = es3 es y) := by
  have H : Hid (SI w0 wb b M v l w st es) := h
  have H5 : Hid (es[5]? = some (.int .u32 0)) := h5
  obtain ⟨e0, ho⟩ := h.di.st.plc
  have c1 := cell_of ho 1
  simp at c1
  have C := idx_t h.di
  clear h h5 ho
  go_enter Tryz.func47, Tryz.ntmps47
  go_wp2_with fail
  refine C.mono ?_
  rintro en w1 ⟨n, st1, rfl, hn, f1, t1⟩
  have S1 : Hid (SI w0 wb b M v l w1 st1 es) := H.out.step f1
  have T1 : Hid (TieI (runI (u32R l) st) n st1) := t1
  have N0 : Hid (0 ≤ n) := hn.1
  obtain ⟨A, hA⟩ : ∃ A, bits .and .u32 n 63 = A := ⟨_, rfl⟩
  obtain ⟨B, hB⟩ : ∃ B, (bits .and .u32 n 64 != 0) = B := ⟨_, rfl⟩
  have HA : Hid (bits .and .u32 n 63 = A) := hA
  have HB : Hid ((bits .and .u32 n 64 != 0) = B) := hB
  clear C f1 t1 hn
  by_cases hbig : (127 : Int) < n
  · have d : decide ((127 : Int) < n) = true := by simpa using hbig
    have BG : Hid (127 < n) := hbig
    clear hbig
    go_wp2_with fail
    refine (ifail_any S1.out.di (plc st) 4 (by decide)).mono ?_
    rintro en w2 ⟨rfl, f2⟩
    have S2 : Hid (SI w0 wb b M v l w2 (failI st1 (plc st) 4) es) := S1.out.step f2
    clear f2 S1
    obtain ⟨u4, hu4, _⟩ := S2.out.cell 4 (by decide)
    have z4 := free_of S2.out.io 4
    have S3 : Hid (SI w0 wb b M v l (w2.setCell ⟨M, 4, none⟩ (.int .u32 A)) (failI st1 (plc st) 4) (es.setIfInBounds 4 (.int .u32 A))) := S2.out.set 4 _
    obtain ⟨o5, ho5, _⟩ := S3.out.cell 5 (by decide)
    cases B with
    | true =>
      go_wp2_with fail
      refine (idx_t S3.out.di).mono ?_
      rintro en w4 ⟨m, st4, rfl, hm, f4, t4⟩
      have S4 : Hid (SI w0 wb b M v l w4 st4 (es.setIfInBounds 4 (.int .u32 A))) := S3.out.step f4
      have T4 : Hid (TieI (runI (u32R l) (failI st1 (plc st) 4)) m st4) := t4
      obtain ⟨u5, hu5, _⟩ := S4.out.cell 5 (by decide)
      have z5 := free_of S4.out.io 5
      clear f4 t4 hm S3 S2
      go_wp2_with fail
      have S5 : Hid (SI w0 wb b M v l (w4.setCell ⟨M, 5, none⟩ (.int .u32 m)) st4 ((es.setIfInBounds 4 (.int .u32 A)).setIfInBounds 5 (.int .u32 m))) := S4.out.set 5 _
      refine (numWI S5.out.di).mono ?_
      intro en w6 ha
      obtain ⟨o, st6, rfl, f6, t6⟩ := ha.tie
      unfold encW
      have S6 : Hid (SI w0 wb b M v l w6 st6 ((es.setIfInBounds 4 (.int .u32 A)).setIfInBounds 5 (.int .u32 m))) := S5.out.step f6
      have T6 : Hid (TieI (runI (numR 64 false l) st4) o st6) := t6
      obtain ⟨u6, hu6, _⟩ := S6.out.cell 6 (by decide)
      have z6 := free_of S6.out.io 6
      clear ha f6 t6 S5 S4
      go_wp2_with fail
      go_end0
      refine ⟨rfl, ⟨A, m, o⟩, st6, _, S6.out.set 6 _, by rw [head_keep (by decide), head_keep (by decide), head_keep (by decide)], ?_, rfl⟩
      rw [memR_then]
      refine TieI.seqP T1.out ?_
      simp only [if_pos BG.out]
      have e4 := T4.out.keep
      have t6 := T6.out
      rw [e4] at t6
      rw [t6.keep]
      exact TieI.fail _ _ _ _
    | false =>
      go_wp2_with fail
      refine (numWI S3.out.di).mono ?_
      intro en w6 ha
      obtain ⟨o, st6, rfl, f6, t6⟩ := ha.tie
      unfold encW
      have S6 : Hid (SI w0 wb b M v l w6 st6 (es.setIfInBounds 4 (.int .u32 A))) := S3.out.step f6
      have T6 : Hid (TieI (runI (numR 64 false l) (failI st1 (plc st) 4)) o st6) := t6
      obtain ⟨u6, hu6, _⟩ := S6.out.cell 6 (by decide)
      have z6 := free_of S6.out.io 6
      clear ha f6 t6 S3 S2
      go_wp2_with fail
      go_end0
      refine ⟨rfl, ⟨A, 0, o⟩, st6, _, S6.out.set 6 _, by rw [head_keep (by decide), head_keep (by decide)], ?_, es3_no H5.out _ _⟩
      rw [memR_then]
      refine TieI.seqP T1.out ?_
      simp only [if_pos BG.out]
      rw [T6.out.keep]
      exact TieI.fail _ _ _ _
  · have d : decide ((127 : Int) < n) = false := by simp; omega
    have BG : Hid (n ≤ 127) := (by omega : n ≤ 127)
    clear hbig
    obtain ⟨w2, hw2⟩ : ∃ w2, w2 = w1 := ⟨_, rfl⟩
    have S2 : Hid (SI w0 wb b M v l w1 st1 es) := S1
    subst hw2
    clear S1
    obtain ⟨u4, hu4, _⟩ := S2.out.cell 4 (by decide)
    have z4 := free_of S2.out.io 4
    have S3 : Hid (SI w0 wb b M v l (w2.setCell ⟨M, 4, none⟩ (.int .u32 A)) st1 (es.setIfInBounds 4 (.int .u32 A))) := S2.out.set 4 _
    obtain ⟨o5, ho5, _⟩ := S3.out.cell 5 (by decide)
    cases B with
    | true =>
      go_wp2_with fail
      refine (idx_t S3.out.di).mono ?_
      rintro en w4 ⟨m, st4, rfl, hm, f4, t4⟩
      have S4 : Hid (SI w0 wb b M v l w4 st4 (es.setIfInBounds 4 (.int .u32 A))) := S3.out.step f4
      have T4 : Hid (TieI (runI (u32R l) st1) m st4) := t4
      obtain ⟨u5, hu5, _⟩ := S4.out.cell 5 (by decide)
      have z5 := free_of S4.out.io 5
      clear f4 t4 hm S3 S2
      go_wp2_with fail
      have S5 : Hid (SI w0 wb b M v l (w4.setCell ⟨M, 5, none⟩ (.int .u32 m)) st4 ((es.setIfInBounds 4 (.int .u32 A)).setIfInBounds 5 (.int .u32 m))) := S4.out.set 5 _
      refine (numWI S5.out.di).mono ?_
      intro en w6 ha
      obtain ⟨o, st6, rfl, f6, t6⟩ := ha.tie
      unfold encW
      have S6 : Hid (SI w0 wb b M v l w6 st6 ((es.setIfInBounds 4 (.int .u32 A)).setIfInBounds 5 (.int .u32 m))) := S5.out.step f6
      have T6 : Hid (TieI (runI (numR 64 false l) st4) o st6) := t6
      obtain ⟨u6, hu6, _⟩ := S6.out.cell 6 (by decide)
      have z6 := free_of S6.out.io 6
      clear ha f6 t6 S5 S4
      go_wp2_with fail
      go_end0
      refine ⟨rfl, ⟨A, m, o⟩, st6, _, S6.out.set 6 _, by rw [head_keep (by decide), head_keep (by decide), head_keep (by decide)], ?_, rfl⟩
      rw [memR_then]
      refine TieI.seqP T1.out ?_
      have hb := BG.out
      obtain ⟨a1, a2⟩ := and63 N0.out hb
      have hA := HA.out
      have hBB := HB.out
      rw [a1] at hA
      rw [a2] at hBB
      have h64 : 64 ≤ n := by simpa using hBB
      simp only [if_neg (show ¬ 127 < n by omega), if_pos h64]
      rw [if_pos h64] at hA
      subst hA
      refine TieI.seq T4.out ?_
      rw [runI_map]
      exact T6.out.map _
    | false =>
      go_wp2_with fail
      refine (numWI S3.out.di).mono ?_
      intro en w6 ha
      obtain ⟨o, st6, rfl, f6, t6⟩ := ha.tie
      unfold encW
      have S6 : Hid (SI w0 wb b M v l w6 st6 (es.setIfInBounds 4 (.int .u32 A))) := S3.out.step f6
      have T6 : Hid (TieI (runI (numR 64 false l) st1) o st6) := t6
      obtain ⟨u6, hu6, _⟩ := S6.out.cell 6 (by decide)
      have z6 := free_of S6.out.io 6
      clear ha f6 t6 S3 S2
      go_wp2_with fail
      go_end0
      refine ⟨rfl, ⟨A, 0, o⟩, st6, _, S6.out.set 6 _, by rw [head_keep (by decide), head_keep (by decide)], ?_, es3_no H5.out _ _⟩
      rw [memR_then]
      refine TieI.seqP T1.out ?_
      have hb := BG.out
      obtain ⟨a1, a2⟩ := and63 N0.out hb
      have hA := HA.out
      have hBB := HB.out
      rw [a1] at hA
      rw [a2] at hBB
      have h64 : ¬ 64 ≤ n := by simpa using hBB
      simp only [if_neg (show ¬ 127 < n by omega), if_neg h64]
      rw [if_neg h64] at hA
      subst hA
      rw [runI_map]
      exact T6.out.map _
end Go.Proofs.YtohapnninjdlfaaGreatDoor

namespace Go.Proofs.YtohapnninjdlfaaGreatDoor
open Go.RowKit
set_option linter.unusedVariables false
set_option linter.unusedSimpArgs false
set_option linter.constructorNameAsVariable false

/- The cells of an instruction. -/
def insA (i : IN) (lab ty ca : Value) : Array Value := #[.int .i64 i.op, .int .u32 i.x, .int .u32 i.y, .int .u64 i.n, .int .u32 i.mem.align, .int .u32 i.mem.mem, .int .u64 i.mem.off, .int .i64 i.blk.type_, .int .i64 i.blk.result.num, .bool i.blk.result.null, .int .i64 i.blk.result.heap, .slice none 0 0, .slice none 0 0, .bool false, lab, ty, ca]
def NILS : Value := .slice none 0 0
/- What has been read, and what is still to be read. -/
def Got (B : Nat) (l : List Int) (R : RS IN) (op : Int) (fs : List Int) (first : Bool) (st : Except (Nat × Nat) Nat) (es : Array Value) (w : World) : Prop :=
  es[0]? = some (.int .i64 op) ∧ (first = true → es = insA (IN0 op) NILS NILS NILS) ∧ match st with
    | .ok q => ∃ i lab ty ca, es = insA i lab ty ca ∧ i.op = op ∧ RowU B w lab i.labels ∧ RowV B w ty i.types ∧ RowC B w ca i.catches ∧ R = foldF fs i l q
    | .error e => R = .error e
theorem got_step {α : Type} {Rf : Nat → RS α} (up : IN → α → IN) {P : α → World → Array Value → Prop} {f : Int} {fs : List Int} {w0 : World} {b M : Nat} {v : Value} {l : List Int} {w w' : World} {st : Except (Nat × Nat) Nat} {es : Array Value} {R : RS IN} {op : Int} {first : Bool} {en : Ending}
    (hf : ∀ i q, fldR f i l q = mapR (up i) (Rf q)) (h : SI w0 w b M v l w st es) (G : Got w0.heap.size l R op (f :: fs) first st es w) (F : Fld w0 w b M v l es (runI Rf st) P en w')
    (hP : ∀ i lab ty ca y es' q q', es = insA i lab ty ca → i.op = op → Rf q = .ok (y, q') → RowU w0.heap.size w' lab i.labels → RowV w0.heap.size w' ty i.types → RowC w0.heap.size w' ca i.catches → P y w' es' →
      ∃ lab' ty' ca', es' = insA (up i y) lab' ty' ca' ∧ (up i y).op = op ∧ RowU w0.heap.size w' lab' (up i y).labels ∧ RowV w0.heap.size w' ty' (up i y).types ∧ RowC w0.heap.size w' ca' (up i y).catches) :
    en = .returned (.tuple #[]) ∧ ∃ st' es', SI w0 w b M v l w' st' es' ∧ Got w0.heap.size l R op fs false st' es' w' := by
  obtain ⟨rfl, y, st', es', S', h0, T, hPy⟩ := F
  refine ⟨rfl, st', es', S', h0.trans G.1, (fun hh => by cases hh), ?_⟩
  obtain ⟨_, _, g⟩ := G
  cases st' with
  | ok q' =>
    obtain ⟨q, rfl, hq⟩ := T.was
    obtain ⟨i, lab, ty, ca, e1, e2, r1, r2, r3, e3⟩ := g
    have hS : ∀ {e : TypeId}, 47 ≠ e → 36 ≠ e → ∀ x ∈ [b, M], NoT w x e := by
      intro e he1 he2 x hx
      simp at hx
      rcases hx with rfl | rfl
      · obtain ⟨a1, e1, ho⟩ := h.di.obj
        exact NoT.of ho he1
      · exact NoT.of h.io he2
    obtain ⟨lab', ty', ca', e4, e5, q1, q2, q3⟩ := hP i lab ty ca y es' q q' e1 e2 hq (row_turn r1 S'.tm (hS (by decide) (by decide))) (row_turn r2 S'.tm (hS (by decide) (by decide))) (row_turn r3 S'.tm (hS (by decide) (by decide))) hPy
    refine ⟨up i y, lab', ty', ca', e4, e5, q1, q2, q3, ?_⟩
    rw [e3, foldF, hf, hq]
    rfl
  | error e =>
    cases st with
    | error e0 =>
      have : (.error e0 : RS α) = .error e := T
      injection this with this
      subst this
      exact g
    | ok q =>
      obtain ⟨i, lab, ty, ca, e1, e2, r1, r2, r3, e3⟩ := g
      have hq : Rf q = .error e := T
      show R = .error e
      rw [e3, foldF, hf, hq]
      rfl
theorem bit12 {c : Int} (h0 : 0 ≤ c) (h1 : c < 4) : bit1 c = b1P c ∧ bit2 c = b2P c := by
  have key : ∀ k : _root_.Fin 4, bit1 (k.val : Int) = b1P (k.val : Int) ∧ bit2 (k.val : Int) = b2P (k.val : Int) := by decide +kernel
  have := key ⟨c.toNat, by omega⟩
  simpa [Int.toNat_of_nonneg h0] using this
theorem brF_bd {l : List Int} (hB : Byt l) {q q' : Nat} {y : Int × Int × Int × Int} (h : brF l q = .ok (y, q')) : 0 ≤ y.1 ∧ y.1 < 4 := by
  unfold brF at h
  cases hx : belowR 4 l q with
  | error e => rw [hx] at h; cases h
  | ok x =>
    obtain ⟨c, r⟩ := x
    have hc : 0 ≤ c ∧ c < 4 := by
      unfold belowR atR at hx
      split at hx
      · simp only at hx
        split at hx
        · cases hx
        · simp only [Except.ok.injEq, Prod.mk.injEq] at hx
          obtain ⟨rfl, _⟩ := hx
          have := hB q
          omega
      · cases hx
    rw [hx] at h
    simp only [thenR] at h
    cases hu : u32R l r with
    | error e => rw [hu] at h; cases h
    | ok z =>
      obtain ⟨x1, r1⟩ := z
      rw [hu] at h
      simp only at h
      cases h2 : heapR l r1 with
      | error e => rw [h2] at h; cases h
      | ok z2 =>
        obtain ⟨x2, r2⟩ := z2
        rw [h2] at h
        simp only at h
        cases h3 : heapR l r2 with
        | error e => rw [h3] at h; cases h
        | ok z3 =>
          obtain ⟨x3, r3⟩ := z3
          rw [h3] at h
          simp only [mapR, Except.ok.injEq, Prod.mk.injEq] at h
          obtain ⟨rfl, _⟩ := h
          exact hc
theorem mapR_mapR {α β γ : Type} (f : α → β) (g : β → γ) (r : RS α) : mapR g (mapR f r) = mapR (fun a => g (f a)) r := by
  cases r with
  | ok x => rfl
  | error e => rfl
def FSt (fx : FuncId) (k : Nat) : Prop := ∀ (w0 : World) (b M : Nat) (v : Value) (l : List Int) (w : World) (st : Except (Nat × Nat) Nat) (es : Array Value) (R : RS IN) (op : Int) (fs : List Int) (first : Bool), SI w0 w b M v l w st es → Got w0.heap.size l R op ((k : Int) :: fs) first st es w → (k = 6 → first = true) →
  Calls Tryz.prog fx #[.pointer (some ⟨b, 0, none⟩), .pointer (some ⟨M, 0, none⟩)] w fun en w' => en = .returned (.tuple #[]) ∧ ∃ st' es', SI w0 w b M v l w' st' es' ∧ Got w0.heap.size l R op fs false st' es' w'
theorem fst0 : FSt 41 0 := by
  intro w0 b M v l w st es R op fs first H G h6
  refine (fB_any H).mono ?_
  intro en w' hF
  refine got_step (Rf := blockR l) (fun i y => { i with blk := y }) ?_ H G hF ?_
  · intro i q
    simp [fldR, mapR_mapR, labelsR, catchesR]
  · rintro i lab ty ca y es' q q' rfl hop hq r1 r2 r3 hes
    exact ⟨lab, ty, ca, hes, hop, r1, r2, r3⟩
theorem fst1 : FSt 42 1 := by
  intro w0 b M v l w st es R op fs first H G h6
  refine (fCat_any H).mono ?_
  intro en w' hF
  refine got_step (Rf := listR 65536 (clauseR l) l) (fun i y => { i with catches := y }) ?_ H G hF ?_
  · intro i q
    simp [fldR, mapR_mapR, labelsR, catchesR]
  · rintro i lab ty ca y es' q q' rfl hop hq r1 r2 r3 ⟨rv, hr, hes⟩
    exact ⟨lab, ty, rv, hes, hop, r1, r2, hr⟩
theorem fst2 : FSt 43 2 := by
  intro w0 b M v l w st es R op fs first H G h6
  refine (fX_any H).mono ?_
  intro en w' hF
  refine got_step (Rf := u32R l) (fun i y => { i with x := y }) ?_ H G hF ?_
  · intro i q
    simp [fldR, mapR_mapR, labelsR, catchesR]
  · rintro i lab ty ca y es' q q' rfl hop hq r1 r2 r3 hes
    exact ⟨lab, ty, ca, hes, hop, r1, r2, r3⟩
theorem fst3 : FSt 44 3 := by
  intro w0 b M v l w st es R op fs first H G h6
  refine (fY_any H).mono ?_
  intro en w' hF
  refine got_step (Rf := u32R l) (fun i y => { i with y := y }) ?_ H G hF ?_
  · intro i q
    simp [fldR, mapR_mapR, labelsR, catchesR]
  · rintro i lab ty ca y es' q q' rfl hop hq r1 r2 r3 hes
    exact ⟨lab, ty, ca, hes, hop, r1, r2, r3⟩
theorem fst4 : FSt 45 4 := by
  intro w0 b M v l w st es R op fs first H G h6
  refine (fLab_any H).mono ?_
  intro en w' hF
  refine got_step (Rf := listR 65536 (u32R l) l) (fun i y => { i with labels := y }) ?_ H G hF ?_
  · intro i q
    simp [fldR, mapR_mapR, labelsR, catchesR]
  · rintro i lab ty ca y es' q q' rfl hop hq r1 r2 r3 ⟨rv, hr, hes⟩
    exact ⟨rv, ty, ca, hes, hop, hr, r2, r3⟩
theorem fst5 : FSt 46 5 := by
  intro w0 b M v l w st es R op fs first H G h6
  refine (fTy_any H).mono ?_
  intro en w' hF
  refine got_step (Rf := valsR l) (fun i y => { i with types := y }) ?_ H G hF ?_
  · intro i q
    simp [fldR, mapR_mapR, labelsR, catchesR]
  · rintro i lab ty ca y es' q q' rfl hop hq r1 r2 r3 ⟨rv, hr, hes⟩
    exact ⟨lab, rv, ca, hes, hop, r1, hr, r3⟩
theorem fst6 : FSt 47 6 := by
  intro w0 b M v l w st es R op fs first H G h6
  have h5 : es[5]? = some (.int .u32 0) := by rw [G.2.1 (h6 rfl)]; rfl
  refine (fMem_any H h5).mono ?_
  intro en w' hF
  refine got_step (Rf := memR l) (fun i y => { i with mem := y }) ?_ H G hF ?_
  · intro i q
    simp [fldR, mapR_mapR, labelsR, catchesR]
  · rintro i lab ty ca y es' q q' rfl hop hq r1 r2 r3 hes
    exact ⟨lab, ty, ca, hes, hop, r1, r2, r3⟩
theorem fst7 : FSt 48 7 := by
  intro w0 b M v l w st es R op fs first H G h6
  refine (fI32_any H).mono ?_
  intro en w' hF
  refine got_step (Rf := fun p => mapR (fun n => n % 4294967296) (numR 32 true l p)) (fun i y => { i with n := y }) ?_ H G hF ?_
  · intro i q
    simp [fldR, mapR_mapR, labelsR, catchesR]
  · rintro i lab ty ca y es' q q' rfl hop hq r1 r2 r3 hes
    exact ⟨lab, ty, ca, hes, hop, r1, r2, r3⟩
theorem fst8 : FSt 49 8 := by
  intro w0 b M v l w st es R op fs first H G h6
  refine (fI64_any H).mono ?_
  intro en w' hF
  refine got_step (Rf := fun p => mapR (fun n => n) (numR 64 true l p)) (fun i y => { i with n := y }) ?_ H G hF ?_
  · intro i q
    simp [fldR, mapR_mapR, labelsR, catchesR]
  · rintro i lab ty ca y es' q q' rfl hop hq r1 r2 r3 hes
    exact ⟨lab, ty, ca, hes, hop, r1, r2, r3⟩
theorem fst9 : FSt 50 9 := by
  intro w0 b M v l w st es R op fs first H G h6
  refine (fF32_any H).mono ?_
  intro en w' hF
  refine got_step (Rf := fun p => mapR (fun n => n) (fixR 4 l p)) (fun i y => { i with n := y }) ?_ H G hF ?_
  · intro i q
    simp [fldR, mapR_mapR, labelsR, catchesR]
  · rintro i lab ty ca y es' q q' rfl hop hq r1 r2 r3 hes
    exact ⟨lab, ty, ca, hes, hop, r1, r2, r3⟩
theorem fst10 : FSt 51 10 := by
  intro w0 b M v l w st es R op fs first H G h6
  refine (fF64_any H).mono ?_
  intro en w' hF
  refine got_step (Rf := fun p => mapR (fun n => n) (fixR 8 l p)) (fun i y => { i with n := y }) ?_ H G hF ?_
  · intro i q
    simp [fldR, mapR_mapR, labelsR, catchesR]
  · rintro i lab ty ca y es' q q' rfl hop hq r1 r2 r3 hes
    exact ⟨lab, ty, ca, hes, hop, r1, r2, r3⟩
theorem fst11 : FSt 52 11 := by
  intro w0 b M v l w st es R op fs first H G h6
  refine (fHe_any H).mono ?_
  intro en w' hF
  refine got_step (Rf := heapR l) (fun i y => { i with types := [⟨5, true, y⟩] }) ?_ H G hF ?_
  · intro i q
    simp [fldR, mapR_mapR, labelsR, catchesR]
  · rintro i lab ty ca y es' q q' rfl hop hq r1 r2 r3 ⟨rv, hr, hes⟩
    exact ⟨lab, rv, ca, hes, hop, r1, hr, r3⟩
theorem fst12 : FSt 53 12 := by
  intro w0 b M v l w st es R op fs first H G h6
  refine (fCa_any H G.1).mono ?_
  intro en w' hF
  refine got_step (Rf := heapR l) (fun i y => { i with types := [⟨5, nbn i.op, y⟩] }) ?_ H G hF ?_
  · intro i q
    simp [fldR, mapR_mapR, labelsR, catchesR]
  · rintro i lab ty ca y es' q q' rfl hop hq r1 r2 r3 ⟨rv, hr, hes⟩
    rw [← hop] at hr
    exact ⟨lab, rv, ca, hes, hop, r1, hr, r3⟩
theorem fst13 : FSt 54 13 := by
  intro w0 b M v l w st es R op fs first H G h6
  refine (fBr_any H).mono ?_
  intro en w' hF
  refine got_step (Rf := brF l) (fun i y => { i with x := y.2.1, types := [⟨5, b1P y.1, y.2.2.1⟩, ⟨5, b2P y.1, y.2.2.2⟩] }) ?_ H G hF ?_
  · intro i q
    simp [fldR, mapR_mapR, labelsR, catchesR]
  · rintro i lab ty ca y es' q q' rfl hop hq r1 r2 r3 ⟨rv, hr, hes⟩
    obtain ⟨c0, c1⟩ := brF_bd H.di.byt hq
    obtain ⟨t1, t2⟩ := bit12 c0 c1
    rw [t1, t2] at hr
    exact ⟨lab, rv, ca, hes, hop, r1, hr, r3⟩
theorem fst14 : FSt 55 14 := by
  intro w0 b M v l w st es R op fs first H G h6
  refine (fCount_any H).mono ?_
  intro en w' hF
  refine got_step (Rf := fun p => mapR (fun n => n) (u32R l p)) (fun i y => { i with n := y }) ?_ H G hF ?_
  · intro i q
    simp [fldR, mapR_mapR, labelsR, catchesR]
  · rintro i lab ty ca y es' q q' rfl hop hq r1 r2 r3 hes
    exact ⟨lab, ty, ca, hes, hop, r1, r2, r3⟩
def FRS : Array Value := #[.func (.func 41) #[] #[], .func (.func 42) #[] #[], .func (.func 43) #[] #[], .func (.func 44) #[] #[], .func (.func 45) #[] #[], .func (.func 46) #[] #[], .func (.func 47) #[] #[], .func (.func 48) #[] #[], .func (.func 49) #[] #[], .func (.func 50) #[] #[], .func (.func 51) #[] #[], .func (.func 52) #[] #[], .func (.func 53) #[] #[], .func (.func 54) #[] #[], .func (.func 55) #[] #[]]
theorem fstep {k : Nat} (hk : k < 15) : ∃ fx, FRS[k]? = some (.func (.func fx) #[] #[]) ∧ FSt fx k ∧ ∀ (args : Array Value) (w : World), (callFunc fx args).run Tryz.prog w = .ok (.enter fx args) w := by
  have : k = 0 ∨ k = 1 ∨ k = 2 ∨ k = 3 ∨ k = 4 ∨ k = 5 ∨ k = 6 ∨ k = 7 ∨ k = 8 ∨ k = 9 ∨ k = 10 ∨ k = 11 ∨ k = 12 ∨ k = 13 ∨ k = 14 := by omega
  rcases this with rfl | rfl | rfl | rfl | rfl | rfl | rfl | rfl | rfl | rfl | rfl | rfl | rfl | rfl | rfl
  · exact ⟨_, rfl, fst0, fun args w => by kernel_rfl⟩
  · exact ⟨_, rfl, fst1, fun args w => by kernel_rfl⟩
  · exact ⟨_, rfl, fst2, fun args w => by kernel_rfl⟩
  · exact ⟨_, rfl, fst3, fun args w => by kernel_rfl⟩
  · exact ⟨_, rfl, fst4, fun args w => by kernel_rfl⟩
  · exact ⟨_, rfl, fst5, fun args w => by kernel_rfl⟩
  · exact ⟨_, rfl, fst6, fun args w => by kernel_rfl⟩
  · exact ⟨_, rfl, fst7, fun args w => by kernel_rfl⟩
  · exact ⟨_, rfl, fst8, fun args w => by kernel_rfl⟩
  · exact ⟨_, rfl, fst9, fun args w => by kernel_rfl⟩
  · exact ⟨_, rfl, fst10, fun args w => by kernel_rfl⟩
  · exact ⟨_, rfl, fst11, fun args w => by kernel_rfl⟩
  · exact ⟨_, rfl, fst12, fun args w => by kernel_rfl⟩
  · exact ⟨_, rfl, fst13, fun args w => by kernel_rfl⟩
  · exact ⟨_, rfl, fst14, fun args w => by kernel_rfl⟩
end Go.Proofs.YtohapnninjdlfaaGreatDoor

namespace Go.Proofs.YtohapnninjdlfaaGreatDoor
open Go.RowKit
set_option linter.unusedVariables false
set_option linter.unusedSimpArgs false

theorem at_store {P : Program} {ops : Array Oper} {rest : List Oper} {o : Oper} {a : Act} {w : World} {Q : Exit → Act → World → Prop} (ty : TypeId) {x y : Operand} (ho : o.op = .store ty x y) (h : wpList P ops Q (o :: rest) a w) : wpList P ops Q (o :: rest) a w := h
theorem at_load {P : Program} {ops : Array Oper} {rest : List Oper} {o : Oper} {a : Act} {w : World} {Q : Exit → Act → World → Prop} (ty : TypeId) {x : Operand} (ho : o.op = .load ty x) (h : wpList P ops Q (o :: rest) a w) : wpList P ops Q (o :: rest) a w := h
theorem run_loadVar_seg {P : Program} (w : World) (g off : Nat) (ty : TypeId) (l : List Value) (d : TypeDesc) (hc : ∀ (j : Nat) (v : Value), l[j]? = some v → w.cell? ⟨g, off + j, none⟩ = some v)
    (hu : P.underlying ty = some d) (hd : (match d with | .struct _ | .array _ _ => true | _ => false) = true) (hi : (P.info? ty).map (·.size) = some l.length) :
    (loadVar ty ⟨g, off, none⟩).run P w = .ok (.agg l.toArray) w := by
  have hl : (loadCells ⟨g, off, none⟩ l.length).run P w = .ok l.toArray w :=
    run_loadCells_list (P := P) w ⟨g, off, none⟩ l (fun j v hv => by
      have hadd : (⟨g, off, none⟩ : Addr).add j = ⟨g, off + j, none⟩ := by simp [Addr.add]
      rw [hadd]
      exact hc j v hv)
  cases hq : P.info? ty with
  | none => simp [hq] at hi
  | some i =>
    have hs : i.size = l.length := by simpa [hq] using hi
    have hagg : (isAgg ty).run P w = .ok true w := by
      unfold isAgg
      rw [Sem.run_bind, run_underlying hu w]
      cases d <;> simp_all
    simp [loadVar, Sem.run_bind, hagg, sizeOf, typeInfo, hq, hs, hl]
theorem wpList_load_seg {P : Program} {ops : Array Oper} {rest : List Oper} {o : Oper} {a : Act} {w : World} {Q : Exit → Act → World → Prop} (hgd : o.guard = none) (ty : TypeId) (x : Operand) (ho : o.op = .load ty x)
    (g off : Nat) (hx : a.eval x = .pointer (some ⟨g, off, none⟩)) (l : List Value) (d : TypeDesc) (hc : ∀ (j : Nat) (v : Value), l[j]? = some v → w.cell? ⟨g, off + j, none⟩ = some v)
    (hu : P.underlying ty = some d) (hd : (match d with | .struct _ | .array _ _ => true | _ => false) = true) (hi : (P.info? ty).map (·.size) = some l.length)
    (h : wpList P ops Q rest (a.put o.dst (.agg l.toArray)) w) : wpList P ops Q (o :: rest) a w :=
  wpList_plain hgd fun _ hK => by
    unfold Oper.wp execOp
    simp only [ho, hx, Instr.loadAt, Instr.sureAddr, Sem.run_bind, Sem.run_pure, Result.andThen_ok, run_loadVar_seg w g off ty l d hc hu hd hi]
    exact hK _ _ h
theorem wpList_load_run {P : Program} {ops : Array Oper} {rest : List Oper} {o : Oper} {a : Act} {w : World} {Q : Exit → Act → World → Prop} (hw : Region.wanted o (yielded ops a.tmps) = true) (ty : TypeId) (x : Operand) (ho : o.op = .load ty x)
    (g off : Nat) (hx : a.eval x = .pointer (some ⟨g, off, none⟩)) (v : Value) (hr : (loadVar ty ⟨g, off, none⟩).run P w = .ok v w) (h : wpList P ops Q rest (a.put o.dst v) w) : wpList P ops Q (o :: rest) a w := by
  simp only [wpList, hw, if_true]
  refine Or.inl ?_
  unfold Oper.wp execOp
  simp only [ho, hx, Instr.loadAt, Instr.sureAddr, Sem.run_bind, Sem.run_pure, Result.andThen_ok, hr]
  exact h
theorem seg_of {w : World} {g : Nat} {cs : Array Value} {t : TypeId} {fr : Nat × Nat} (h : w.heap[g]? = some (.cells cs t fr)) {off : Nat} {l : List Value} (hl : ∀ (j : Nat) (v : Value), l[j]? = some v → cs[off + j]? = some v) :
    ∀ (j : Nat) (v : Value), l[j]? = some v → w.cell? ⟨g, off + j, none⟩ = some v := fun j v hj => by rw [cell_of h]; exact hl j v hj
theorem heap_setRow {w : World} {g : Nat} {cs old : Array Value} {t : TypeId} {fr : Nat × Nat} (h : w.heap[g]? = some (.cells old t fr)) : (w.setRow g cs).heap[g]? = some (.cells cs t fr) := setRow_heap w g old cs t fr h
theorem Grew.setRow {w w' : World} (h : Grew w w') {g : Nat} (hg : w.heap.size ≤ g) (cs : Array Value) : Grew w (w'.setRow g cs) :=
  ⟨⟨h.1.os, h.1.tape, h.1.output, by simpa using h.2, fun k hk => (setRow_other w' g k cs (by omega)).trans (h.1.block k hk)⟩, by simpa using h.2⟩
theorem wpList_store_last {P : Program} {ops : Array Oper} {rest : List Oper} {o : Oper} {a : Act} {w : World} {Q : Exit → Act → World → Prop} (hgd : o.guard = none) (ty : TypeId) (x y : Operand) (ho : o.op = .store ty x y)
    (cells : Array Value) (hx : a.eval x = .pointer (some ⟨w.heap.size, 0, none⟩)) (hy : a.eval y = .agg cells)
    (old : Array Value) (hi : (P.info? ty).map (·.size) = some cells.size)
    (hold : old.size = cells.size) (h1 : cells.all (·.oneCell') = true)
    (h : wpList P ops Q rest (a.put o.dst undef) (w.alloc (.cells cells ty))) : wpList P ops Q (o :: rest) a (w.alloc (.cells old ty)) :=
  wpList_store_row hgd ty x y ho w.heap.size cells hx hy ty old (heap_alloc_last w _) hi hold h1 (by rw [World.setRow_alloc_new]; exact h)
end Go.Proofs.YtohapnninjdlfaaGreatDoor
