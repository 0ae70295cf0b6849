/-
  The document's reading of instructions: what stands behind an opcode; no statement is proved here.
-/
import Derived.Test.YtohapnninjdlfaaGreatDoorD9h
namespace Go.Proofs.YtohapnninjdlfaaGreatDoor
open Go.RowKit
set_option linter.unusedVariables false
set_option linter.unusedSimpArgs false
set_option linter.constructorNameAsVariable false

set_option maxRecDepth 100000 in
set_option maxHeartbeats 4000000 in
theorem rest2_any {w : World} {b : Nat} {v : Value} {l : List Int} {st0 : Except (Nat × Nat) Nat} (h : D9 w b v l st0) (op : Int) (h0 : 0 ≤ op) (h1 : op ≤ 65535) (hk : formP op = 2) :
    Calls Tryz.prog 10 #[.pointer (some ⟨b, 0, none⟩), .int .i64 op] w fun en w' => ∃ es st', en = .returned (.agg es) ∧ es.size = 17 ∧ (∀ (j : Nat) (u : Value), es[j]? = some u → u.oneCell' = true) ∧ Fin9 b v l w w' st' ∧ InsA w.heap.size (runI (restF op l) st0) es w' st' := by
  have H : Hid (D9 w b v l st0) := h
  have hb : b < w.heap.size := h.lt
  obtain ⟨R, hR⟩ : ∃ R, runI (restF op l) st0 = R := ⟨_, rfl⟩
  rw [hR]
  have HR : Hid (runI (restF op l) st0 = R) := hR
  obtain ⟨GG, N0, hM⟩ := two_alloc w #[.int .i64 0, .int .u32 0, .int .u32 0, .int .u64 0, .int .u32 0, .int .u32 0, .int .u64 0, .int .i64 0, .int .i64 0, .bool false, .int .i64 0, .slice none 0 0, .slice none 0 0, .bool false, .slice none 0 0, .slice none 0 0, .slice none 0 0] #[.int .i64 op, .int .u32 0, .int .u32 0, .int .u64 0, .int .u32 0, .int .u32 0, .int .u64 0, .int .i64 0, .int .i64 0, .bool false, .int .i64 0, .slice none 0 0, .slice none 0 0, .bool false, .slice none 0 0, .slice none 0 0, .slice none 0 0] 36
  have S0 : Hid (S9I w w b (w.heap.size + 1) v l _ st0 (insA (IN0 op) NILS NILS NILS)) := ⟨⟨_, h⟩, GG.out.turn _, h.grew GG.out, hM, rfl, by omega, es0_one op, GG.out.turn _⟩
  have G0 : Hid (Got w.heap.size l R op [0] true st0 (insA (IN0 op) NILS NILS NILS) ((w.alloc (.cells #[.int .i64 0, .int .u32 0, .int .u32 0, .int .u64 0, .int .u32 0, .int .u32 0, .int .u64 0, .int .i64 0, .int .i64 0, .bool false, .int .i64 0, .slice none 0 0, .slice none 0 0, .bool false, .slice none 0 0, .slice none 0 0, .slice none 0 0] 36)).alloc (.cells #[.int .i64 op, .int .u32 0, .int .u32 0, .int .u64 0, .int .u32 0, .int .u32 0, .int .u64 0, .int .i64 0, .int .i64 0, .bool false, .int .i64 0, .slice none 0 0, .slice none 0 0, .bool false, .slice none 0 0, .slice none 0 0, .slice none 0 0] 36))) := by
    have := got_start (B := w.heap.size) (l := l) (op := op) (st := st0) (w := (w.alloc (.cells #[.int .i64 0, .int .u32 0, .int .u32 0, .int .u64 0, .int .u32 0, .int .u32 0, .int .u64 0, .int .i64 0, .int .i64 0, .bool false, .int .i64 0, .slice none 0 0, .slice none 0 0, .bool false, .slice none 0 0, .slice none 0 0, .slice none 0 0] 36)).alloc (.cells #[.int .i64 op, .int .u32 0, .int .u32 0, .int .u64 0, .int .u32 0, .int .u32 0, .int .u64 0, .int .i64 0, .int .i64 0, .bool false, .int .i64 0, .slice none 0 0, .slice none 0 0, .bool false, .slice none 0 0, .slice none 0 0, .slice none 0 0] 36)) (r := [0]) (by rw [hk]; rfl)
    rw [hR] at this
    exact this
  have HWD : Hid (BA (formD op) = BA [98, 108, 111, 99, 107]) := by show BA (formD op) = _; rw [word_is, hk]; rfl
  clear h hR hM GG
  go_enter Tryz.func10, Tryz.ntmps10
  go_wp2_with (first
    | with_reducible refine stop_store 36 rfl ?_
    | fail)
  unfold Stop
  refine wpList_store_last rfl 36 (.tmp 5) (.tmp 13) rfl #[.int .i64 op, .int .u32 0, .int .u32 0, .int .u64 0, .int .u32 0, .int .u32 0, .int .u64 0, .int .i64 0, .int .i64 0, .bool false, .int .i64 0, .slice none 0 0, .slice none 0 0, .bool false, .slice none 0 0, .slice none 0 0, .slice none 0 0] (by go_simp) (by go_simp) _ (by kernel_rfl) rfl (by simp [Value.oneCell']) ?_
  obtain ⟨M, hMM⟩ : ∃ M, w.heap.size + 1 = M := ⟨_, rfl⟩
  rw [hMM] at S0
  obtain ⟨es0, hes0⟩ : ∃ es0, insA (IN0 op) NILS NILS NILS = es0 := ⟨_, rfl⟩
  rw [hes0] at S0 G0
  generalize (w.alloc (.cells #[.int .i64 0, .int .u32 0, .int .u32 0, .int .u64 0, .int .u32 0, .int .u32 0, .int .u64 0, .int .i64 0, .int .i64 0, .bool false, .int .i64 0, .slice none 0 0, .slice none 0 0, .bool false, .slice none 0 0, .slice none 0 0, .slice none 0 0] 36)).alloc (.cells #[.int .i64 op, .int .u32 0, .int .u32 0, .int .u64 0, .int .u32 0, .int .u32 0, .int .u64 0, .int .i64 0, .int .i64 0, .bool false, .int .i64 0, .slice none 0 0, .slice none 0 0, .bool false, .slice none 0 0, .slice none 0 0, .slice none 0 0] 36) = W0' at *
  clear hes0
  go_wp2_with fail
  refine (refForm_any op (by omega) (by omega) W0').mono ?_
  rintro en W0 ⟨rfl, g0⟩
  have S0 : Hid (S9I w w b M v l W0 st0 es0) := S0.out.grew g0
  have N0 : Hid (W0.heap[w.heap.size]? = some (.cells #[.int .i64 0, .int .u32 0, .int .u32 0, .int .u64 0, .int .u32 0, .int .u32 0, .int .u64 0, .int .i64 0, .int .i64 0, .bool false, .int .i64 0, .slice none 0 0, .slice none 0 0, .bool false, .slice none 0 0, .slice none 0 0, .slice none 0 0] 36 (0, 0))) := (g0.turn []).other N0.out (by simp)
  have G0 : Hid (Got w.heap.size l R op [0] true st0 es0 W0) := by
    obtain ⟨a1, a2, a3⟩ := G0.out
    refine ⟨a1, a2, ?_⟩
    cases st0 with
    | error e => exact a3
    | ok q =>
      obtain ⟨i, lab, ty, ca, e1, e2, r1, r2, r3, e3⟩ := a3
      exact ⟨i, lab, ty, ca, e1, e2, row_turn r1 (g0.turn []) (by simp), row_turn r2 (g0.turn []) (by simp), row_turn r3 (g0.turn []) (by simp), e3⟩
  clear g0
  rw [HWD.out]
  obtain ⟨sx, hsx⟩ : ∃ sx, BA [98, 108, 111, 99, 107] = sx := ⟨_, rfl⟩
  rw [hsx]
  have q0 : (sx.toList == [98, 108, 111, 99, 107]) = true := by rw [← hsx, ba_list]; decide
  clear hsx
  obtain ⟨st0', hst⟩ : ∃ s, s = st0 := ⟨_, rfl⟩
  clear hst st0'
  go_wp2_with fail
  refine (d9block_any S0.out.di).mono ?_
  rintro en w1 ⟨⟨y0, ⟨y1, y2, y3⟩⟩, sx1, rfl, f1, t1⟩
  have SA : Hid (S9I w W0 b M v l w1 sx1 es0) := S0.out.rebase.step f1
  obtain ⟨u7, hu7, _⟩ := SA.out.cell 7 (by decide)
  have z7 := free_of SA.out.io 7
  obtain ⟨u8, hu8, _⟩ := SA.out.cell 8 (by decide)
  have z8 := free_of SA.out.io 8
  obtain ⟨u9, hu9, _⟩ := SA.out.cell 9 (by decide)
  have z9 := free_of SA.out.io 9
  obtain ⟨u10, hu10, _⟩ := SA.out.cell 10 (by decide)
  have z10 := free_of SA.out.io 10
  have TA : Hid (TieI (runI (blockR l) st0) ⟨y0, ⟨y1, y2, y3⟩⟩ sx1) := t1
  clear f1 t1
  unfold BK.v
  go_wp2_with (first
    | with_reducible refine stop_load 36 rfl ?_
    | fail)
  have FL : Fld9 w W0 b M v l es0 (runI (blockR l) st0) (fun y w' es' => es' = es4 es0 y) (.returned (.tuple #[])) ((((w1.setCell ⟨M, 7, none⟩ (.int .i64 y0)).setCell ⟨M, 8, none⟩ (.int .i64 y1)).setCell ⟨M, 9, none⟩ (.bool y2)).setCell ⟨M, 10, none⟩ (.int .i64 y3)) := ⟨rfl, ⟨y0, ⟨y1, y2, y3⟩⟩, sx1, _, (((SA.out.set 7 _).set 8 _).set 9 _).set 10 _, by rw [head_keep (by decide), head_keep (by decide), head_keep (by decide), head_keep (by decide)], TA.out, rfl⟩
  have GN := got_step9 (Rf := blockR l) (f := 0) (fun i y => { i with blk := y }) (by intro i q; simp [fldR, mapR_mapR, labelsR, catchesR]) S0.out.rebase G0.out FL ?hP1
  case hP1 =>
    · rintro i lab ty ca y es' q q' rfl hop hq r1 r2 r3 hes
      exact ⟨lab, ty, ca, hes, hop, r1, r2, r3⟩
  have hW' : ∃ W', W' = (((w1.setCell ⟨M, 7, none⟩ (.int .i64 y0)).setCell ⟨M, 8, none⟩ (.int .i64 y1)).setCell ⟨M, 9, none⟩ (.bool y2)).setCell ⟨M, 10, none⟩ (.int .i64 y3) := ⟨_, rfl⟩
  generalize (((w1.setCell ⟨M, 7, none⟩ (.int .i64 y0)).setCell ⟨M, 8, none⟩ (.int .i64 y1)).setCell ⟨M, 9, none⟩ (.bool y2)).setCell ⟨M, 10, none⟩ (.int .i64 y3) = W1 at *
  obtain ⟨_, st1, es1, s1, g1⟩ := GN
  have S1 : Hid (S9I w W0 b M v l W1 st1 es1) := s1
  have G1 : Hid (Got w.heap.size l R op [] false st1 es1 W1) := g1
  have N1 : Hid (W1.heap[w.heap.size]? = some (.cells #[.int .i64 0, .int .u32 0, .int .u32 0, .int .u64 0, .int .u32 0, .int .u32 0, .int .u64 0, .int .i64 0, .int .i64 0, .bool false, .int .i64 0, .slice none 0 0, .slice none 0 0, .bool false, .slice none 0 0, .slice none 0 0, .slice none 0 0] 36 (0, 0))) := s1.tm.other N0.out (by simp; omega)
  clear FL s1 g1 hW' SA TA
  have GE := got_end G1.out
  unfold Stop
  refine wpList_load_row rfl 36 (.tmp 5) rfl M (by go_simp) 36 es1 (0, 0) _ S1.out.io Tryz.underlying36 rfl (by rw [S1.out.sz]; kernel_rfl) ?_
  go_wp2_with (first
    | with_reducible refine stop_store 36 rfl ?_
    | fail)
  unfold Stop
  refine wpList_store_row rfl 36 (.tmp 4) (.tmp 164) rfl w.heap.size es1 (by go_simp) (by go_simp) 36 _ N1.out (by rw [S1.out.sz]; kernel_rfl) (by rw [S1.out.sz]; rfl) (by rw [Array.all_eq_true]; intro i hi; exact S1.out.one i _ (by simp)) ?_
  go_wp2_with fail
  refine bodyPost_ret (v := .agg es1) ?_ rfl ?_
  · exact results_cell_row Tryz.results10 _ _ w.heap.size 36 _ (0, 0) _ rfl (heap_setRow N1.out) Tryz.underlying36 rfl (by rw [S1.out.sz]; kernel_rfl)
  have tr := S1.out.tn.row (Nat.le_refl _) es1
  refine ⟨es1, st1, rfl, S1.out.sz, S1.out.one, ⟨tr, H.out.of tr (S1.out.di.st.same (setRow_other _ _ _ _ (by omega)))⟩, ?_⟩
  exact GE.turn (Turn.rowSelf _ _ _) (by intro x hx; simp at hx; subst hx; exact NoT.of N1.out (by decide)) (by intro x hx; simp at hx; subst hx; exact NoT.of N1.out (by decide)) (by intro x hx; simp at hx; subst hx; exact NoT.of N1.out (by decide))
set_option maxRecDepth 100000 in
set_option maxHeartbeats 4000000 in
theorem rest3_any {w : World} {b : Nat} {v : Value} {l : List Int} {st0 : Except (Nat × Nat) Nat} (h : D9 w b v l st0) (op : Int) (h0 : 0 ≤ op) (h1 : op ≤ 65535) (hk : formP op = 3) :
    Calls Tryz.prog 10 #[.pointer (some ⟨b, 0, none⟩), .int .i64 op] w fun en w' => ∃ es st', en = .returned (.agg es) ∧ es.size = 17 ∧ (∀ (j : Nat) (u : Value), es[j]? = some u → u.oneCell' = true) ∧ Fin9 b v l w w' st' ∧ InsA w.heap.size (runI (restF op l) st0) es w' st' := by
  have H : Hid (D9 w b v l st0) := h
  have hb : b < w.heap.size := h.lt
  obtain ⟨R, hR⟩ : ∃ R, runI (restF op l) st0 = R := ⟨_, rfl⟩
  rw [hR]
  have HR : Hid (runI (restF op l) st0 = R) := hR
  obtain ⟨GG, N0, hM⟩ := two_alloc w #[.int .i64 0, .int .u32 0, .int .u32 0, .int .u64 0, .int .u32 0, .int .u32 0, .int .u64 0, .int .i64 0, .int .i64 0, .bool false, .int .i64 0, .slice none 0 0, .slice none 0 0, .bool false, .slice none 0 0, .slice none 0 0, .slice none 0 0] #[.int .i64 op, .int .u32 0, .int .u32 0, .int .u64 0, .int .u32 0, .int .u32 0, .int .u64 0, .int .i64 0, .int .i64 0, .bool false, .int .i64 0, .slice none 0 0, .slice none 0 0, .bool false, .slice none 0 0, .slice none 0 0, .slice none 0 0] 36
  have S0 : Hid (S9I w w b (w.heap.size + 1) v l _ st0 (insA (IN0 op) NILS NILS NILS)) := ⟨⟨_, h⟩, GG.out.turn _, h.grew GG.out, hM, rfl, by omega, es0_one op, GG.out.turn _⟩
  have G0 : Hid (Got w.heap.size l R op [0, 1] true st0 (insA (IN0 op) NILS NILS NILS) ((w.alloc (.cells #[.int .i64 0, .int .u32 0, .int .u32 0, .int .u64 0, .int .u32 0, .int .u32 0, .int .u64 0, .int .i64 0, .int .i64 0, .bool false, .int .i64 0, .slice none 0 0, .slice none 0 0, .bool false, .slice none 0 0, .slice none 0 0, .slice none 0 0] 36)).alloc (.cells #[.int .i64 op, .int .u32 0, .int .u32 0, .int .u64 0, .int .u32 0, .int .u32 0, .int .u64 0, .int .i64 0, .int .i64 0, .bool false, .int .i64 0, .slice none 0 0, .slice none 0 0, .bool false, .slice none 0 0, .slice none 0 0, .slice none 0 0] 36))) := by
    have := got_start (B := w.heap.size) (l := l) (op := op) (st := st0) (w := (w.alloc (.cells #[.int .i64 0, .int .u32 0, .int .u32 0, .int .u64 0, .int .u32 0, .int .u32 0, .int .u64 0, .int .i64 0, .int .i64 0, .bool false, .int .i64 0, .slice none 0 0, .slice none 0 0, .bool false, .slice none 0 0, .slice none 0 0, .slice none 0 0] 36)).alloc (.cells #[.int .i64 op, .int .u32 0, .int .u32 0, .int .u64 0, .int .u32 0, .int .u32 0, .int .u64 0, .int .i64 0, .int .i64 0, .bool false, .int .i64 0, .slice none 0 0, .slice none 0 0, .bool false, .slice none 0 0, .slice none 0 0, .slice none 0 0] 36)) (r := [0, 1]) (by rw [hk]; rfl)
    rw [hR] at this
    exact this
  have HWD : Hid (BA (formD op) = BA [116, 114, 121]) := by show BA (formD op) = _; rw [word_is, hk]; rfl
  clear h hR hM GG
  go_enter Tryz.func10, Tryz.ntmps10
  go_wp2_with (first
    | with_reducible refine stop_store 36 rfl ?_
    | fail)
  unfold Stop
  refine wpList_store_last rfl 36 (.tmp 5) (.tmp 13) rfl #[.int .i64 op, .int .u32 0, .int .u32 0, .int .u64 0, .int .u32 0, .int .u32 0, .int .u64 0, .int .i64 0, .int .i64 0, .bool false, .int .i64 0, .slice none 0 0, .slice none 0 0, .bool false, .slice none 0 0, .slice none 0 0, .slice none 0 0] (by go_simp) (by go_simp) _ (by kernel_rfl) rfl (by simp [Value.oneCell']) ?_
  obtain ⟨M, hMM⟩ : ∃ M, w.heap.size + 1 = M := ⟨_, rfl⟩
  rw [hMM] at S0
  obtain ⟨es0, hes0⟩ : ∃ es0, insA (IN0 op) NILS NILS NILS = es0 := ⟨_, rfl⟩
  rw [hes0] at S0 G0
  generalize (w.alloc (.cells #[.int .i64 0, .int .u32 0, .int .u32 0, .int .u64 0, .int .u32 0, .int .u32 0, .int .u64 0, .int .i64 0, .int .i64 0, .bool false, .int .i64 0, .slice none 0 0, .slice none 0 0, .bool false, .slice none 0 0, .slice none 0 0, .slice none 0 0] 36)).alloc (.cells #[.int .i64 op, .int .u32 0, .int .u32 0, .int .u64 0, .int .u32 0, .int .u32 0, .int .u64 0, .int .i64 0, .int .i64 0, .bool false, .int .i64 0, .slice none 0 0, .slice none 0 0, .bool false, .slice none 0 0, .slice none 0 0, .slice none 0 0] 36) = W0' at *
  clear hes0
  go_wp2_with fail
  refine (refForm_any op (by omega) (by omega) W0').mono ?_
  rintro en W0 ⟨rfl, g0⟩
  have S0 : Hid (S9I w w b M v l W0 st0 es0) := S0.out.grew g0
  have N0 : Hid (W0.heap[w.heap.size]? = some (.cells #[.int .i64 0, .int .u32 0, .int .u32 0, .int .u64 0, .int .u32 0, .int .u32 0, .int .u64 0, .int .i64 0, .int .i64 0, .bool false, .int .i64 0, .slice none 0 0, .slice none 0 0, .bool false, .slice none 0 0, .slice none 0 0, .slice none 0 0] 36 (0, 0))) := (g0.turn []).other N0.out (by simp)
  have G0 : Hid (Got w.heap.size l R op [0, 1] true st0 es0 W0) := by
    obtain ⟨a1, a2, a3⟩ := G0.out
    refine ⟨a1, a2, ?_⟩
    cases st0 with
    | error e => exact a3
    | ok q =>
      obtain ⟨i, lab, ty, ca, e1, e2, r1, r2, r3, e3⟩ := a3
      exact ⟨i, lab, ty, ca, e1, e2, row_turn r1 (g0.turn []) (by simp), row_turn r2 (g0.turn []) (by simp), row_turn r3 (g0.turn []) (by simp), e3⟩
  clear g0
  rw [HWD.out]
  obtain ⟨sx, hsx⟩ : ∃ sx, BA [116, 114, 121] = sx := ⟨_, rfl⟩
  rw [hsx]
  have q0 : (sx.toList == [98, 108, 111, 99, 107]) = false := by rw [← hsx, ba_list]; decide
  have q1 : (sx.toList == [116, 114, 121]) = true := by rw [← hsx, ba_list]; decide
  clear hsx
  obtain ⟨st0', hst⟩ : ∃ s, s = st0 := ⟨_, rfl⟩
  clear hst st0'
  go_wp2_with fail
  refine (d9block_any S0.out.di).mono ?_
  rintro en w1 ⟨⟨y0, ⟨y1, y2, y3⟩⟩, sx1, rfl, f1, t1⟩
  have SA : Hid (S9I w W0 b M v l w1 sx1 es0) := S0.out.rebase.step f1
  obtain ⟨u7, hu7, _⟩ := SA.out.cell 7 (by decide)
  have z7 := free_of SA.out.io 7
  obtain ⟨u8, hu8, _⟩ := SA.out.cell 8 (by decide)
  have z8 := free_of SA.out.io 8
  obtain ⟨u9, hu9, _⟩ := SA.out.cell 9 (by decide)
  have z9 := free_of SA.out.io 9
  obtain ⟨u10, hu10, _⟩ := SA.out.cell 10 (by decide)
  have z10 := free_of SA.out.io 10
  have TA : Hid (TieI (runI (blockR l) st0) ⟨y0, ⟨y1, y2, y3⟩⟩ sx1) := t1
  clear f1 t1
  unfold BK.v
  go_wp2_with (first
    | with_reducible refine stop_load 36 rfl ?_
    | fail)
  have FL : Fld9 w W0 b M v l es0 (runI (blockR l) st0) (fun y w' es' => es' = es4 es0 y) (.returned (.tuple #[])) ((((w1.setCell ⟨M, 7, none⟩ (.int .i64 y0)).setCell ⟨M, 8, none⟩ (.int .i64 y1)).setCell ⟨M, 9, none⟩ (.bool y2)).setCell ⟨M, 10, none⟩ (.int .i64 y3)) := ⟨rfl, ⟨y0, ⟨y1, y2, y3⟩⟩, sx1, _, (((SA.out.set 7 _).set 8 _).set 9 _).set 10 _, by rw [head_keep (by decide), head_keep (by decide), head_keep (by decide), head_keep (by decide)], TA.out, rfl⟩
  have GN := got_step9 (Rf := blockR l) (f := 0) (fun i y => { i with blk := y }) (by intro i q; simp [fldR, mapR_mapR, labelsR, catchesR]) S0.out.rebase G0.out FL ?hP1
  case hP1 =>
    · rintro i lab ty ca y es' q q' rfl hop hq r1 r2 r3 hes
      exact ⟨lab, ty, ca, hes, hop, r1, r2, r3⟩
  have hW' : ∃ W', W' = (((w1.setCell ⟨M, 7, none⟩ (.int .i64 y0)).setCell ⟨M, 8, none⟩ (.int .i64 y1)).setCell ⟨M, 9, none⟩ (.bool y2)).setCell ⟨M, 10, none⟩ (.int .i64 y3) := ⟨_, rfl⟩
  generalize (((w1.setCell ⟨M, 7, none⟩ (.int .i64 y0)).setCell ⟨M, 8, none⟩ (.int .i64 y1)).setCell ⟨M, 9, none⟩ (.bool y2)).setCell ⟨M, 10, none⟩ (.int .i64 y3) = W1 at *
  obtain ⟨_, st1, es1, s1, g1⟩ := GN
  have S1 : Hid (S9I w W0 b M v l W1 st1 es1) := s1
  have G1 : Hid (Got w.heap.size l R op [1] false st1 es1 W1) := g1
  have N1 : Hid (W1.heap[w.heap.size]? = some (.cells #[.int .i64 0, .int .u32 0, .int .u32 0, .int .u64 0, .int .u32 0, .int .u32 0, .int .u64 0, .int .i64 0, .int .i64 0, .bool false, .int .i64 0, .slice none 0 0, .slice none 0 0, .bool false, .slice none 0 0, .slice none 0 0, .slice none 0 0] 36 (0, 0))) := s1.tm.other N0.out (by simp; omega)
  clear FL s1 g1 hW' SA TA
  refine (d9clauses_any S1.out.di).mono ?_
  rintro en w2 ⟨rv, y, sx2, rfl, r2, f2, t2⟩
  have SA : Hid (S9I w W1 b M v l w2 sx2 es1) := S1.out.rebase.step f2
  obtain ⟨u16, hu16, _⟩ := SA.out.cell 16 (by decide)
  have z16 := free_of SA.out.io 16
  have TA : Hid (TieI (runI (listR 65536 (clauseR l) l) st1) y sx2) := t2
  have RA : Hid (RowC w.heap.size w2 rv y) := row_low r2 S1.out.low
  obtain ⟨ra, rc, hrv⟩ := row_one r2
  subst hrv
  clear f2 t2 r2
  go_wp2_with (first
    | with_reducible refine stop_load 36 rfl ?_
    | fail)
  have FL : Fld9 w W1 b M v l es1 (runI (listR 65536 (clauseR l) l) st1) (fun y w' es' => ∃ rv, RowC w.heap.size w' rv y ∧ es' = es1.setIfInBounds 16 rv) (.returned (.tuple #[])) (w2.setCell ⟨M, 16, none⟩ (.slice ra y.length rc)) := ⟨rfl, y, sx2, _, SA.out.set 16 _, head_keep (by decide), TA.out, _, row_set RA.out (NoT.of SA.out.io (by decide)) _, rfl⟩
  have GN := got_step9 (Rf := listR 65536 (clauseR l) l) (f := 1) (fun i y => { i with catches := y }) (by intro i q; simp [fldR, mapR_mapR, labelsR, catchesR]) S1.out.rebase G1.out FL ?hP2
  case hP2 =>
    · rintro i lab ty ca y es' q q' rfl hop hq r1 r2 r3 ⟨rv, hr, hes⟩
      exact ⟨lab, ty, rv, hes, hop, r1, r2, hr⟩
  have hW' : ∃ W', W' = w2.setCell ⟨M, 16, none⟩ (.slice ra y.length rc) := ⟨_, rfl⟩
  generalize w2.setCell ⟨M, 16, none⟩ (.slice ra y.length rc) = W2 at *
  obtain ⟨_, st2, es2, s2, g2⟩ := GN
  have S2 : Hid (S9I w W1 b M v l W2 st2 es2) := s2
  have G2 : Hid (Got w.heap.size l R op [] false st2 es2 W2) := g2
  have N2 : Hid (W2.heap[w.heap.size]? = some (.cells #[.int .i64 0, .int .u32 0, .int .u32 0, .int .u64 0, .int .u32 0, .int .u32 0, .int .u64 0, .int .i64 0, .int .i64 0, .bool false, .int .i64 0, .slice none 0 0, .slice none 0 0, .bool false, .slice none 0 0, .slice none 0 0, .slice none 0 0] 36 (0, 0))) := s2.tm.other N1.out (by simp; omega)
  clear FL s2 g2 hW' SA TA
  clear RA
  have GE := got_end G2.out
  unfold Stop
  refine wpList_load_row rfl 36 (.tmp 5) rfl M (by go_simp) 36 es2 (0, 0) _ S2.out.io Tryz.underlying36 rfl (by rw [S2.out.sz]; kernel_rfl) ?_
  go_wp2_with (first
    | with_reducible refine stop_store 36 rfl ?_
    | fail)
  unfold Stop
  refine wpList_store_row rfl 36 (.tmp 4) (.tmp 164) rfl w.heap.size es2 (by go_simp) (by go_simp) 36 _ N2.out (by rw [S2.out.sz]; kernel_rfl) (by rw [S2.out.sz]; rfl) (by rw [Array.all_eq_true]; intro i hi; exact S2.out.one i _ (by simp)) ?_
  go_wp2_with fail
  refine bodyPost_ret (v := .agg es2) ?_ rfl ?_
  · exact results_cell_row Tryz.results10 _ _ w.heap.size 36 _ (0, 0) _ rfl (heap_setRow N2.out) Tryz.underlying36 rfl (by rw [S2.out.sz]; kernel_rfl)
  have tr := S2.out.tn.row (Nat.le_refl _) es2
  refine ⟨es2, st2, rfl, S2.out.sz, S2.out.one, ⟨tr, H.out.of tr (S2.out.di.st.same (setRow_other _ _ _ _ (by omega)))⟩, ?_⟩
  exact GE.turn (Turn.rowSelf _ _ _) (by intro x hx; simp at hx; subst hx; exact NoT.of N2.out (by decide)) (by intro x hx; simp at hx; subst hx; exact NoT.of N2.out (by decide)) (by intro x hx; simp at hx; subst hx; exact NoT.of N2.out (by decide))
set_option maxRecDepth 100000 in
set_option maxHeartbeats 4000000 in
theorem rest8_any {w : World} {b : Nat} {v : Value} {l : List Int} {st0 : Except (Nat × Nat) Nat} (h : D9 w b v l st0) (op : Int) (h0 : 0 ≤ op) (h1 : op ≤ 65535) (hk : formP op = 8) :
    Calls Tryz.prog 10 #[.pointer (some ⟨b, 0, none⟩), .int .i64 op] w fun en w' => ∃ es st', en = .returned (.agg es) ∧ es.size = 17 ∧ (∀ (j : Nat) (u : Value), es[j]? = some u → u.oneCell' = true) ∧ Fin9 b v l w w' st' ∧ InsA w.heap.size (runI (restF op l) st0) es w' st' := by
  have H : Hid (D9 w b v l st0) := h
  have hb : b < w.heap.size := h.lt
  obtain ⟨R, hR⟩ : ∃ R, runI (restF op l) st0 = R := ⟨_, rfl⟩
  rw [hR]
  have HR : Hid (runI (restF op l) st0 = R) := hR
  obtain ⟨GG, N0, hM⟩ := two_alloc w #[.int .i64 0, .int .u32 0, .int .u32 0, .int .u64 0, .int .u32 0, .int .u32 0, .int .u64 0, .int .i64 0, .int .i64 0, .bool false, .int .i64 0, .slice none 0 0, .slice none 0 0, .bool false, .slice none 0 0, .slice none 0 0, .slice none 0 0] #[.int .i64 op, .int .u32 0, .int .u32 0, .int .u64 0, .int .u32 0, .int .u32 0, .int .u64 0, .int .i64 0, .int .i64 0, .bool false, .int .i64 0, .slice none 0 0, .slice none 0 0, .bool false, .slice none 0 0, .slice none 0 0, .slice none 0 0] 36
  have S0 : Hid (S9I w w b (w.heap.size + 1) v l _ st0 (insA (IN0 op) NILS NILS NILS)) := ⟨⟨_, h⟩, GG.out.turn _, h.grew GG.out, hM, rfl, by omega, es0_one op, GG.out.turn _⟩
  have G0 : Hid (Got w.heap.size l R op [6] true st0 (insA (IN0 op) NILS NILS NILS) ((w.alloc (.cells #[.int .i64 0, .int .u32 0, .int .u32 0, .int .u64 0, .int .u32 0, .int .u32 0, .int .u64 0, .int .i64 0, .int .i64 0, .bool false, .int .i64 0, .slice none 0 0, .slice none 0 0, .bool false, .slice none 0 0, .slice none 0 0, .slice none 0 0] 36)).alloc (.cells #[.int .i64 op, .int .u32 0, .int .u32 0, .int .u64 0, .int .u32 0, .int .u32 0, .int .u64 0, .int .i64 0, .int .i64 0, .bool false, .int .i64 0, .slice none 0 0, .slice none 0 0, .bool false, .slice none 0 0, .slice none 0 0, .slice none 0 0] 36))) := by
    have := got_start (B := w.heap.size) (l := l) (op := op) (st := st0) (w := (w.alloc (.cells #[.int .i64 0, .int .u32 0, .int .u32 0, .int .u64 0, .int .u32 0, .int .u32 0, .int .u64 0, .int .i64 0, .int .i64 0, .bool false, .int .i64 0, .slice none 0 0, .slice none 0 0, .bool false, .slice none 0 0, .slice none 0 0, .slice none 0 0] 36)).alloc (.cells #[.int .i64 op, .int .u32 0, .int .u32 0, .int .u64 0, .int .u32 0, .int .u32 0, .int .u64 0, .int .i64 0, .int .i64 0, .bool false, .int .i64 0, .slice none 0 0, .slice none 0 0, .bool false, .slice none 0 0, .slice none 0 0, .slice none 0 0] 36)) (r := [6]) (by rw [hk]; rfl)
    rw [hR] at this
    exact this
  have HWD : Hid (BA (formD op) = BA [109, 101, 109]) := by show BA (formD op) = _; rw [word_is, hk]; rfl
  clear h hR hM GG
  go_enter Tryz.func10, Tryz.ntmps10
  go_wp2_with (first
    | with_reducible refine stop_store 36 rfl ?_
    | fail)
  unfold Stop
  refine wpList_store_last rfl 36 (.tmp 5) (.tmp 13) rfl #[.int .i64 op, .int .u32 0, .int .u32 0, .int .u64 0, .int .u32 0, .int .u32 0, .int .u64 0, .int .i64 0, .int .i64 0, .bool false, .int .i64 0, .slice none 0 0, .slice none 0 0, .bool false, .slice none 0 0, .slice none 0 0, .slice none 0 0] (by go_simp) (by go_simp) _ (by kernel_rfl) rfl (by simp [Value.oneCell']) ?_
  obtain ⟨M, hMM⟩ : ∃ M, w.heap.size + 1 = M := ⟨_, rfl⟩
  rw [hMM] at S0
  obtain ⟨es0, hes0⟩ : ∃ es0, insA (IN0 op) NILS NILS NILS = es0 := ⟨_, rfl⟩
  rw [hes0] at S0 G0
  generalize (w.alloc (.cells #[.int .i64 0, .int .u32 0, .int .u32 0, .int .u64 0, .int .u32 0, .int .u32 0, .int .u64 0, .int .i64 0, .int .i64 0, .bool false, .int .i64 0, .slice none 0 0, .slice none 0 0, .bool false, .slice none 0 0, .slice none 0 0, .slice none 0 0] 36)).alloc (.cells #[.int .i64 op, .int .u32 0, .int .u32 0, .int .u64 0, .int .u32 0, .int .u32 0, .int .u64 0, .int .i64 0, .int .i64 0, .bool false, .int .i64 0, .slice none 0 0, .slice none 0 0, .bool false, .slice none 0 0, .slice none 0 0, .slice none 0 0] 36) = W0' at *
  clear hes0
  go_wp2_with fail
  refine (refForm_any op (by omega) (by omega) W0').mono ?_
  rintro en W0 ⟨rfl, g0⟩
  have S0 : Hid (S9I w w b M v l W0 st0 es0) := S0.out.grew g0
  have N0 : Hid (W0.heap[w.heap.size]? = some (.cells #[.int .i64 0, .int .u32 0, .int .u32 0, .int .u64 0, .int .u32 0, .int .u32 0, .int .u64 0, .int .i64 0, .int .i64 0, .bool false, .int .i64 0, .slice none 0 0, .slice none 0 0, .bool false, .slice none 0 0, .slice none 0 0, .slice none 0 0] 36 (0, 0))) := (g0.turn []).other N0.out (by simp)
  have G0 : Hid (Got w.heap.size l R op [6] true st0 es0 W0) := by
    obtain ⟨a1, a2, a3⟩ := G0.out
    refine ⟨a1, a2, ?_⟩
    cases st0 with
    | error e => exact a3
    | ok q =>
      obtain ⟨i, lab, ty, ca, e1, e2, r1, r2, r3, e3⟩ := a3
      exact ⟨i, lab, ty, ca, e1, e2, row_turn r1 (g0.turn []) (by simp), row_turn r2 (g0.turn []) (by simp), row_turn r3 (g0.turn []) (by simp), e3⟩
  clear g0
  rw [HWD.out]
  obtain ⟨sx, hsx⟩ : ∃ sx, BA [109, 101, 109] = sx := ⟨_, rfl⟩
  rw [hsx]
  have q0 : (sx.toList == [98, 108, 111, 99, 107]) = false := by rw [← hsx, ba_list]; decide
  have q1 : (sx.toList == [116, 114, 121]) = false := by rw [← hsx, ba_list]; decide
  have q2 : (sx.toList == [120]) = false := by rw [← hsx, ba_list]; decide
  have q3 : (sx.toList == [120, 121]) = false := by rw [← hsx, ba_list]; decide
  have q4 : (sx.toList == [116, 97, 98, 108, 101]) = false := by rw [← hsx, ba_list]; decide
  have q5 : (sx.toList == [115, 101, 108, 101, 99, 116]) = false := by rw [← hsx, ba_list]; decide
  have q6 : (sx.toList == [109, 101, 109]) = true := by rw [← hsx, ba_list]; decide
  clear hsx
  obtain ⟨st0', hst⟩ : ∃ s, s = st0 := ⟨_, rfl⟩
  clear hst st0'
  go_wp2_with fail
  refine (d9mem_any S0.out.di).mono ?_
  rintro en w1 ⟨⟨y0, y1, y2⟩, sx1, rfl, f1, t1⟩
  have SA : Hid (S9I w W0 b M v l w1 sx1 es0) := S0.out.rebase.step f1
  obtain ⟨u4, hu4, _⟩ := SA.out.cell 4 (by decide)
  have z4 := free_of SA.out.io 4
  obtain ⟨u5, hu5, _⟩ := SA.out.cell 5 (by decide)
  have z5 := free_of SA.out.io 5
  obtain ⟨u6, hu6, _⟩ := SA.out.cell 6 (by decide)
  have z6 := free_of SA.out.io 6
  have TA : Hid (TieI (runI (memR l) st0) ⟨y0, y1, y2⟩ sx1) := t1
  clear f1 t1
  unfold ME.v
  go_wp2_with (first
    | with_reducible refine stop_load 36 rfl ?_
    | fail)
  have FL : Fld9 w W0 b M v l es0 (runI (memR l) st0) (fun y w' es' => es' = es3 es0 y) (.returned (.tuple #[])) (((w1.setCell ⟨M, 4, none⟩ (.int .u32 y0)).setCell ⟨M, 5, none⟩ (.int .u32 y1)).setCell ⟨M, 6, none⟩ (.int .u64 y2)) := ⟨rfl, ⟨y0, y1, y2⟩, sx1, _, ((SA.out.set 4 _).set 5 _).set 6 _, by rw [head_keep (by decide), head_keep (by decide), head_keep (by decide)], TA.out, rfl⟩
  have GN := got_step9 (Rf := memR l) (f := 6) (fun i y => { i with mem := y }) (by intro i q; simp [fldR, mapR_mapR, labelsR, catchesR]) S0.out.rebase G0.out FL ?hP1
  case hP1 =>
    · rintro i lab ty ca y es' q q' rfl hop hq r1 r2 r3 hes
      exact ⟨lab, ty, ca, hes, hop, r1, r2, r3⟩
  have hW' : ∃ W', W' = ((w1.setCell ⟨M, 4, none⟩ (.int .u32 y0)).setCell ⟨M, 5, none⟩ (.int .u32 y1)).setCell ⟨M, 6, none⟩ (.int .u64 y2) := ⟨_, rfl⟩
  generalize ((w1.setCell ⟨M, 4, none⟩ (.int .u32 y0)).setCell ⟨M, 5, none⟩ (.int .u32 y1)).setCell ⟨M, 6, none⟩ (.int .u64 y2) = W1 at *
  obtain ⟨_, st1, es1, s1, g1⟩ := GN
  have S1 : Hid (S9I w W0 b M v l W1 st1 es1) := s1
  have G1 : Hid (Got w.heap.size l R op [] false st1 es1 W1) := g1
  have N1 : Hid (W1.heap[w.heap.size]? = some (.cells #[.int .i64 0, .int .u32 0, .int .u32 0, .int .u64 0, .int .u32 0, .int .u32 0, .int .u64 0, .int .i64 0, .int .i64 0, .bool false, .int .i64 0, .slice none 0 0, .slice none 0 0, .bool false, .slice none 0 0, .slice none 0 0, .slice none 0 0] 36 (0, 0))) := s1.tm.other N0.out (by simp; omega)
  clear FL s1 g1 hW' SA TA
  have GE := got_end G1.out
  unfold Stop
  refine wpList_load_row rfl 36 (.tmp 5) rfl M (by go_simp) 36 es1 (0, 0) _ S1.out.io Tryz.underlying36 rfl (by rw [S1.out.sz]; kernel_rfl) ?_
  go_wp2_with (first
    | with_reducible refine stop_store 36 rfl ?_
    | fail)
  unfold Stop
  refine wpList_store_row rfl 36 (.tmp 4) (.tmp 164) rfl w.heap.size es1 (by go_simp) (by go_simp) 36 _ N1.out (by rw [S1.out.sz]; kernel_rfl) (by rw [S1.out.sz]; rfl) (by rw [Array.all_eq_true]; intro i hi; exact S1.out.one i _ (by simp)) ?_
  go_wp2_with fail
  refine bodyPost_ret (v := .agg es1) ?_ rfl ?_
  · exact results_cell_row Tryz.results10 _ _ w.heap.size 36 _ (0, 0) _ rfl (heap_setRow N1.out) Tryz.underlying36 rfl (by rw [S1.out.sz]; kernel_rfl)
  have tr := S1.out.tn.row (Nat.le_refl _) es1
  refine ⟨es1, st1, rfl, S1.out.sz, S1.out.one, ⟨tr, H.out.of tr (S1.out.di.st.same (setRow_other _ _ _ _ (by omega)))⟩, ?_⟩
  exact GE.turn (Turn.rowSelf _ _ _) (by intro x hx; simp at hx; subst hx; exact NoT.of N1.out (by decide)) (by intro x hx; simp at hx; subst hx; exact NoT.of N1.out (by decide)) (by intro x hx; simp at hx; subst hx; exact NoT.of N1.out (by decide))
end Go.Proofs.YtohapnninjdlfaaGreatDoor
