/-
  The document's reading of instructions: what stands behind an opcode; no statement is proved here.
-/
import Derived.Test.YtohapnninjdlfaaGreatDoorD9h
namespace Go.Proofs.YtohapnninjdlfaaGreatDoor
open Go.RowKit
set_option linter.unusedVariables false
set_option linter.unusedSimpArgs false
set_option linter.constructorNameAsVariable false

set_option maxRecDepth 100000 in
set_option maxHeartbeats 4000000 in
theorem rest0_any {w : World} {b : Nat} {v : Value} {l : List Int} {st0 : Except (Nat × Nat) Nat} (h : D9 w b v l st0) (op : Int) (h0 : 0 ≤ op) (h1 : op ≤ 65535) (hk : formP op = 0) :
    Calls Tryz.prog 10 #[.pointer (some ⟨b, 0, none⟩), .int .i64 op] w fun en w' => ∃ es st', en = .returned (.agg es) ∧ es.size = 17 ∧ (∀ (j : Nat) (u : Value), es[j]? = some u → u.oneCell' = true) ∧ Fin9 b v l w w' st' ∧ InsA w.heap.size (runI (restF op l) st0) es w' st' := by
  have H : Hid (D9 w b v l st0) := h
  have hb : b < w.heap.size := h.lt
  obtain ⟨R, hR⟩ : ∃ R, runI (restF op l) st0 = R := ⟨_, rfl⟩
  rw [hR]
  have HR : Hid (runI (restF op l) st0 = R) := hR
  obtain ⟨GG, N0, hM⟩ := two_alloc w #[.int .i64 0, .int .u32 0, .int .u32 0, .int .u64 0, .int .u32 0, .int .u32 0, .int .u64 0, .int .i64 0, .int .i64 0, .bool false, .int .i64 0, .slice none 0 0, .slice none 0 0, .bool false, .slice none 0 0, .slice none 0 0, .slice none 0 0] #[.int .i64 op, .int .u32 0, .int .u32 0, .int .u64 0, .int .u32 0, .int .u32 0, .int .u64 0, .int .i64 0, .int .i64 0, .bool false, .int .i64 0, .slice none 0 0, .slice none 0 0, .bool false, .slice none 0 0, .slice none 0 0, .slice none 0 0] 36
  have S0 : Hid (S9I w w b (w.heap.size + 1) v l _ st0 (insA (IN0 op) NILS NILS NILS)) := ⟨⟨_, h⟩, GG.out.turn _, h.grew GG.out, hM, rfl, by omega, es0_one op, GG.out.turn _⟩
  have G0 : Hid (Got w.heap.size l R op [] true st0 (insA (IN0 op) NILS NILS NILS) ((w.alloc (.cells #[.int .i64 0, .int .u32 0, .int .u32 0, .int .u64 0, .int .u32 0, .int .u32 0, .int .u64 0, .int .i64 0, .int .i64 0, .bool false, .int .i64 0, .slice none 0 0, .slice none 0 0, .bool false, .slice none 0 0, .slice none 0 0, .slice none 0 0] 36)).alloc (.cells #[.int .i64 op, .int .u32 0, .int .u32 0, .int .u64 0, .int .u32 0, .int .u32 0, .int .u64 0, .int .i64 0, .int .i64 0, .bool false, .int .i64 0, .slice none 0 0, .slice none 0 0, .bool false, .slice none 0 0, .slice none 0 0, .slice none 0 0] 36))) := by
    have := got_start (B := w.heap.size) (l := l) (op := op) (st := st0) (w := (w.alloc (.cells #[.int .i64 0, .int .u32 0, .int .u32 0, .int .u64 0, .int .u32 0, .int .u32 0, .int .u64 0, .int .i64 0, .int .i64 0, .bool false, .int .i64 0, .slice none 0 0, .slice none 0 0, .bool false, .slice none 0 0, .slice none 0 0, .slice none 0 0] 36)).alloc (.cells #[.int .i64 op, .int .u32 0, .int .u32 0, .int .u64 0, .int .u32 0, .int .u32 0, .int .u64 0, .int .i64 0, .int .i64 0, .bool false, .int .i64 0, .slice none 0 0, .slice none 0 0, .bool false, .slice none 0 0, .slice none 0 0, .slice none 0 0] 36)) (r := []) (by rw [hk]; rfl)
    rw [hR] at this
    exact this
  have HWD : Hid (BA (formD op) = BA []) := by show BA (formD op) = _; rw [word_is, hk]; rfl
  clear h hR hM GG
  go_enter Tryz.func10, Tryz.ntmps10
  go_wp2_with (first
    | with_reducible refine stop_store 36 rfl ?_
    | fail)
  unfold Stop
  refine wpList_store_last rfl 36 (.tmp 5) (.tmp 13) rfl #[.int .i64 op, .int .u32 0, .int .u32 0, .int .u64 0, .int .u32 0, .int .u32 0, .int .u64 0, .int .i64 0, .int .i64 0, .bool false, .int .i64 0, .slice none 0 0, .slice none 0 0, .bool false, .slice none 0 0, .slice none 0 0, .slice none 0 0] (by go_simp) (by go_simp) _ (by kernel_rfl) rfl (by simp [Value.oneCell']) ?_
  obtain ⟨M, hMM⟩ : ∃ M, w.heap.size + 1 = M := ⟨_, rfl⟩
  rw [hMM] at S0
  obtain ⟨es0, hes0⟩ : ∃ es0, insA (IN0 op) NILS NILS NILS = es0 := ⟨_, rfl⟩
  rw [hes0] at S0 G0
  generalize (w.alloc (.cells #[.int .i64 0, .int .u32 0, .int .u32 0, .int .u64 0, .int .u32 0, .int .u32 0, .int .u64 0, .int .i64 0, .int .i64 0, .bool false, .int .i64 0, .slice none 0 0, .slice none 0 0, .bool false, .slice none 0 0, .slice none 0 0, .slice none 0 0] 36)).alloc (.cells #[.int .i64 op, .int .u32 0, .int .u32 0, .int .u64 0, .int .u32 0, .int .u32 0, .int .u64 0, .int .i64 0, .int .i64 0, .bool false, .int .i64 0, .slice none 0 0, .slice none 0 0, .bool false, .slice none 0 0, .slice none 0 0, .slice none 0 0] 36) = W0' at *
  clear hes0
  go_wp2_with fail
  refine (refForm_any op (by omega) (by omega) W0').mono ?_
  rintro en W0 ⟨rfl, g0⟩
  have S0 : Hid (S9I w w b M v l W0 st0 es0) := S0.out.grew g0
  have N0 : Hid (W0.heap[w.heap.size]? = some (.cells #[.int .i64 0, .int .u32 0, .int .u32 0, .int .u64 0, .int .u32 0, .int .u32 0, .int .u64 0, .int .i64 0, .int .i64 0, .bool false, .int .i64 0, .slice none 0 0, .slice none 0 0, .bool false, .slice none 0 0, .slice none 0 0, .slice none 0 0] 36 (0, 0))) := (g0.turn []).other N0.out (by simp)
  have G0 : Hid (Got w.heap.size l R op [] true st0 es0 W0) := by
    obtain ⟨a1, a2, a3⟩ := G0.out
    refine ⟨a1, a2, ?_⟩
    cases st0 with
    | error e => exact a3
    | ok q =>
      obtain ⟨i, lab, ty, ca, e1, e2, r1, r2, r3, e3⟩ := a3
      exact ⟨i, lab, ty, ca, e1, e2, row_turn r1 (g0.turn []) (by simp), row_turn r2 (g0.turn []) (by simp), row_turn r3 (g0.turn []) (by simp), e3⟩
  clear g0
  rw [HWD.out]
  obtain ⟨sx, hsx⟩ : ∃ sx, BA [] = sx := ⟨_, rfl⟩
  rw [hsx]
  have q0 : (sx.toList == [98, 108, 111, 99, 107]) = false := by rw [← hsx, ba_list]; decide
  have q1 : (sx.toList == [116, 114, 121]) = false := by rw [← hsx, ba_list]; decide
  have q2 : (sx.toList == [120]) = false := by rw [← hsx, ba_list]; decide
  have q3 : (sx.toList == [120, 121]) = false := by rw [← hsx, ba_list]; decide
  have q4 : (sx.toList == [116, 97, 98, 108, 101]) = false := by rw [← hsx, ba_list]; decide
  have q5 : (sx.toList == [115, 101, 108, 101, 99, 116]) = false := by rw [← hsx, ba_list]; decide
  have q6 : (sx.toList == [109, 101, 109]) = false := by rw [← hsx, ba_list]; decide
  have q7 : (sx.toList == [105, 51, 50]) = false := by rw [← hsx, ba_list]; decide
  have q8 : (sx.toList == [105, 54, 52]) = false := by rw [← hsx, ba_list]; decide
  have q9 : (sx.toList == [102, 51, 50]) = false := by rw [← hsx, ba_list]; decide
  have q10 : (sx.toList == [102, 54, 52]) = false := by rw [← hsx, ba_list]; decide
  have q11 : (sx.toList == [104, 101, 97, 112]) = false := by rw [← hsx, ba_list]; decide
  have q12 : (sx.toList == [99, 97, 115, 116]) = false := by rw [← hsx, ba_list]; decide
  have q13 : (sx.toList == [98, 114, 95, 99, 97, 115, 116]) = false := by rw [← hsx, ba_list]; decide
  have q14 : (sx.toList == [120, 110]) = false := by rw [← hsx, ba_list]; decide
  clear hsx
  obtain ⟨st0', hst⟩ : ∃ s, s = st0 := ⟨_, rfl⟩
  clear hst st0'
  go_wp2_with (first
    | with_reducible refine stop_load 36 rfl ?_
    | fail)
  have GE := got_end G0.out
  unfold Stop
  refine wpList_load_row rfl 36 (.tmp 5) rfl M (by go_simp) 36 es0 (0, 0) _ S0.out.io Tryz.underlying36 rfl (by rw [S0.out.sz]; kernel_rfl) ?_
  go_wp2_with (first
    | with_reducible refine stop_store 36 rfl ?_
    | fail)
  unfold Stop
  refine wpList_store_row rfl 36 (.tmp 4) (.tmp 164) rfl w.heap.size es0 (by go_simp) (by go_simp) 36 _ N0.out (by rw [S0.out.sz]; kernel_rfl) (by rw [S0.out.sz]; rfl) (by rw [Array.all_eq_true]; intro i hi; exact S0.out.one i _ (by simp)) ?_
  go_wp2_with fail
  refine bodyPost_ret (v := .agg es0) ?_ rfl ?_
  · exact results_cell_row Tryz.results10 _ _ w.heap.size 36 _ (0, 0) _ rfl (heap_setRow N0.out) Tryz.underlying36 rfl (by rw [S0.out.sz]; kernel_rfl)
  have tr := S0.out.tn.row (Nat.le_refl _) es0
  refine ⟨es0, st0, rfl, S0.out.sz, S0.out.one, ⟨tr, H.out.of tr (S0.out.di.st.same (setRow_other _ _ _ _ (by omega)))⟩, ?_⟩
  exact GE.turn (Turn.rowSelf _ _ _) (by intro x hx; simp at hx; subst hx; exact NoT.of N0.out (by decide)) (by intro x hx; simp at hx; subst hx; exact NoT.of N0.out (by decide)) (by intro x hx; simp at hx; subst hx; exact NoT.of N0.out (by decide))
set_option maxRecDepth 100000 in
set_option maxHeartbeats 4000000 in
theorem rest1_any {w : World} {b : Nat} {v : Value} {l : List Int} {st0 : Except (Nat × Nat) Nat} (h : D9 w b v l st0) (op : Int) (h0 : 0 ≤ op) (h1 : op ≤ 65535) (hk : formP op = 1) :
    Calls Tryz.prog 10 #[.pointer (some ⟨b, 0, none⟩), .int .i64 op] w fun en w' => ∃ es st', en = .returned (.agg es) ∧ es.size = 17 ∧ (∀ (j : Nat) (u : Value), es[j]? = some u → u.oneCell' = true) ∧ Fin9 b v l w w' st' ∧ InsA w.heap.size (runI (restF op l) st0) es w' st' := by
  have H : Hid (D9 w b v l st0) := h
  have hb : b < w.heap.size := h.lt
  obtain ⟨R, hR⟩ : ∃ R, runI (restF op l) st0 = R := ⟨_, rfl⟩
  rw [hR]
  have HR : Hid (runI (restF op l) st0 = R) := hR
  obtain ⟨GG, N0, hM⟩ := two_alloc w #[.int .i64 0, .int .u32 0, .int .u32 0, .int .u64 0, .int .u32 0, .int .u32 0, .int .u64 0, .int .i64 0, .int .i64 0, .bool false, .int .i64 0, .slice none 0 0, .slice none 0 0, .bool false, .slice none 0 0, .slice none 0 0, .slice none 0 0] #[.int .i64 op, .int .u32 0, .int .u32 0, .int .u64 0, .int .u32 0, .int .u32 0, .int .u64 0, .int .i64 0, .int .i64 0, .bool false, .int .i64 0, .slice none 0 0, .slice none 0 0, .bool false, .slice none 0 0, .slice none 0 0, .slice none 0 0] 36
  have S0 : Hid (S9I w w b (w.heap.size + 1) v l _ st0 (insA (IN0 op) NILS NILS NILS)) := ⟨⟨_, h⟩, GG.out.turn _, h.grew GG.out, hM, rfl, by omega, es0_one op, GG.out.turn _⟩
  have G0 : Hid (Got w.heap.size l R op [] true st0 (insA (IN0 op) NILS NILS NILS) ((w.alloc (.cells #[.int .i64 0, .int .u32 0, .int .u32 0, .int .u64 0, .int .u32 0, .int .u32 0, .int .u64 0, .int .i64 0, .int .i64 0, .bool false, .int .i64 0, .slice none 0 0, .slice none 0 0, .bool false, .slice none 0 0, .slice none 0 0, .slice none 0 0] 36)).alloc (.cells #[.int .i64 op, .int .u32 0, .int .u32 0, .int .u64 0, .int .u32 0, .int .u32 0, .int .u64 0, .int .i64 0, .int .i64 0, .bool false, .int .i64 0, .slice none 0 0, .slice none 0 0, .bool false, .slice none 0 0, .slice none 0 0, .slice none 0 0] 36))) := by
    have := got_start (B := w.heap.size) (l := l) (op := op) (st := st0) (w := (w.alloc (.cells #[.int .i64 0, .int .u32 0, .int .u32 0, .int .u64 0, .int .u32 0, .int .u32 0, .int .u64 0, .int .i64 0, .int .i64 0, .bool false, .int .i64 0, .slice none 0 0, .slice none 0 0, .bool false, .slice none 0 0, .slice none 0 0, .slice none 0 0] 36)).alloc (.cells #[.int .i64 op, .int .u32 0, .int .u32 0, .int .u64 0, .int .u32 0, .int .u32 0, .int .u64 0, .int .i64 0, .int .i64 0, .bool false, .int .i64 0, .slice none 0 0, .slice none 0 0, .bool false, .slice none 0 0, .slice none 0 0, .slice none 0 0] 36)) (r := []) (by rw [hk]; rfl)
    rw [hR] at this
    exact this
  have HWD : Hid (BA (formD op) = BA [45]) := by show BA (formD op) = _; rw [word_is, hk]; rfl
  clear h hR hM GG
  go_enter Tryz.func10, Tryz.ntmps10
  go_wp2_with (first
    | with_reducible refine stop_store 36 rfl ?_
    | fail)
  unfold Stop
  refine wpList_store_last rfl 36 (.tmp 5) (.tmp 13) rfl #[.int .i64 op, .int .u32 0, .int .u32 0, .int .u64 0, .int .u32 0, .int .u32 0, .int .u64 0, .int .i64 0, .int .i64 0, .bool false, .int .i64 0, .slice none 0 0, .slice none 0 0, .bool false, .slice none 0 0, .slice none 0 0, .slice none 0 0] (by go_simp) (by go_simp) _ (by kernel_rfl) rfl (by simp [Value.oneCell']) ?_
  obtain ⟨M, hMM⟩ : ∃ M, w.heap.size + 1 = M := ⟨_, rfl⟩
  rw [hMM] at S0
  obtain ⟨es0, hes0⟩ : ∃ es0, insA (IN0 op) NILS NILS NILS = es0 := ⟨_, rfl⟩
  rw [hes0] at S0 G0
  generalize (w.alloc (.cells #[.int .i64 0, .int .u32 0, .int .u32 0, .int .u64 0, .int .u32 0, .int .u32 0, .int .u64 0, .int .i64 0, .int .i64 0, .bool false, .int .i64 0, .slice none 0 0, .slice none 0 0, .bool false, .slice none 0 0, .slice none 0 0, .slice none 0 0] 36)).alloc (.cells #[.int .i64 op, .int .u32 0, .int .u32 0, .int .u64 0, .int .u32 0, .int .u32 0, .int .u64 0, .int .i64 0, .int .i64 0, .bool false, .int .i64 0, .slice none 0 0, .slice none 0 0, .bool false, .slice none 0 0, .slice none 0 0, .slice none 0 0] 36) = W0' at *
  clear hes0
  go_wp2_with fail
  refine (refForm_any op (by omega) (by omega) W0').mono ?_
  rintro en W0 ⟨rfl, g0⟩
  have S0 : Hid (S9I w w b M v l W0 st0 es0) := S0.out.grew g0
  have N0 : Hid (W0.heap[w.heap.size]? = some (.cells #[.int .i64 0, .int .u32 0, .int .u32 0, .int .u64 0, .int .u32 0, .int .u32 0, .int .u64 0, .int .i64 0, .int .i64 0, .bool false, .int .i64 0, .slice none 0 0, .slice none 0 0, .bool false, .slice none 0 0, .slice none 0 0, .slice none 0 0] 36 (0, 0))) := (g0.turn []).other N0.out (by simp)
  have G0 : Hid (Got w.heap.size l R op [] true st0 es0 W0) := by
    obtain ⟨a1, a2, a3⟩ := G0.out
    refine ⟨a1, a2, ?_⟩
    cases st0 with
    | error e => exact a3
    | ok q =>
      obtain ⟨i, lab, ty, ca, e1, e2, r1, r2, r3, e3⟩ := a3
      exact ⟨i, lab, ty, ca, e1, e2, row_turn r1 (g0.turn []) (by simp), row_turn r2 (g0.turn []) (by simp), row_turn r3 (g0.turn []) (by simp), e3⟩
  clear g0
  rw [HWD.out]
  obtain ⟨sx, hsx⟩ : ∃ sx, BA [45] = sx := ⟨_, rfl⟩
  rw [hsx]
  have q0 : (sx.toList == [98, 108, 111, 99, 107]) = false := by rw [← hsx, ba_list]; decide
  have q1 : (sx.toList == [116, 114, 121]) = false := by rw [← hsx, ba_list]; decide
  have q2 : (sx.toList == [120]) = false := by rw [← hsx, ba_list]; decide
  have q3 : (sx.toList == [120, 121]) = false := by rw [← hsx, ba_list]; decide
  have q4 : (sx.toList == [116, 97, 98, 108, 101]) = false := by rw [← hsx, ba_list]; decide
  have q5 : (sx.toList == [115, 101, 108, 101, 99, 116]) = false := by rw [← hsx, ba_list]; decide
  have q6 : (sx.toList == [109, 101, 109]) = false := by rw [← hsx, ba_list]; decide
  have q7 : (sx.toList == [105, 51, 50]) = false := by rw [← hsx, ba_list]; decide
  have q8 : (sx.toList == [105, 54, 52]) = false := by rw [← hsx, ba_list]; decide
  have q9 : (sx.toList == [102, 51, 50]) = false := by rw [← hsx, ba_list]; decide
  have q10 : (sx.toList == [102, 54, 52]) = false := by rw [← hsx, ba_list]; decide
  have q11 : (sx.toList == [104, 101, 97, 112]) = false := by rw [← hsx, ba_list]; decide
  have q12 : (sx.toList == [99, 97, 115, 116]) = false := by rw [← hsx, ba_list]; decide
  have q13 : (sx.toList == [98, 114, 95, 99, 97, 115, 116]) = false := by rw [← hsx, ba_list]; decide
  have q14 : (sx.toList == [120, 110]) = false := by rw [← hsx, ba_list]; decide
  clear hsx
  obtain ⟨st0', hst⟩ : ∃ s, s = st0 := ⟨_, rfl⟩
  clear hst st0'
  go_wp2_with (first
    | with_reducible refine stop_load 36 rfl ?_
    | fail)
  have GE := got_end G0.out
  unfold Stop
  refine wpList_load_row rfl 36 (.tmp 5) rfl M (by go_simp) 36 es0 (0, 0) _ S0.out.io Tryz.underlying36 rfl (by rw [S0.out.sz]; kernel_rfl) ?_
  go_wp2_with (first
    | with_reducible refine stop_store 36 rfl ?_
    | fail)
  unfold Stop
  refine wpList_store_row rfl 36 (.tmp 4) (.tmp 164) rfl w.heap.size es0 (by go_simp) (by go_simp) 36 _ N0.out (by rw [S0.out.sz]; kernel_rfl) (by rw [S0.out.sz]; rfl) (by rw [Array.all_eq_true]; intro i hi; exact S0.out.one i _ (by simp)) ?_
  go_wp2_with fail
  refine bodyPost_ret (v := .agg es0) ?_ rfl ?_
  · exact results_cell_row Tryz.results10 _ _ w.heap.size 36 _ (0, 0) _ rfl (heap_setRow N0.out) Tryz.underlying36 rfl (by rw [S0.out.sz]; kernel_rfl)
  have tr := S0.out.tn.row (Nat.le_refl _) es0
  refine ⟨es0, st0, rfl, S0.out.sz, S0.out.one, ⟨tr, H.out.of tr (S0.out.di.st.same (setRow_other _ _ _ _ (by omega)))⟩, ?_⟩
  exact GE.turn (Turn.rowSelf _ _ _) (by intro x hx; simp at hx; subst hx; exact NoT.of N0.out (by decide)) (by intro x hx; simp at hx; subst hx; exact NoT.of N0.out (by decide)) (by intro x hx; simp at hx; subst hx; exact NoT.of N0.out (by decide))
set_option maxRecDepth 100000 in
set_option maxHeartbeats 4000000 in
theorem rest4_any {w : World} {b : Nat} {v : Value} {l : List Int} {st0 : Except (Nat × Nat) Nat} (h : D9 w b v l st0) (op : Int) (h0 : 0 ≤ op) (h1 : op ≤ 65535) (hk : formP op = 4) :
    Calls Tryz.prog 10 #[.pointer (some ⟨b, 0, none⟩), .int .i64 op] w fun en w' => ∃ es st', en = .returned (.agg es) ∧ es.size = 17 ∧ (∀ (j : Nat) (u : Value), es[j]? = some u → u.oneCell' = true) ∧ Fin9 b v l w w' st' ∧ InsA w.heap.size (runI (restF op l) st0) es w' st' := by
  have H : Hid (D9 w b v l st0) := h
  have hb : b < w.heap.size := h.lt
  obtain ⟨R, hR⟩ : ∃ R, runI (restF op l) st0 = R := ⟨_, rfl⟩
  rw [hR]
  have HR : Hid (runI (restF op l) st0 = R) := hR
  obtain ⟨GG, N0, hM⟩ := two_alloc w #[.int .i64 0, .int .u32 0, .int .u32 0, .int .u64 0, .int .u32 0, .int .u32 0, .int .u64 0, .int .i64 0, .int .i64 0, .bool false, .int .i64 0, .slice none 0 0, .slice none 0 0, .bool false, .slice none 0 0, .slice none 0 0, .slice none 0 0] #[.int .i64 op, .int .u32 0, .int .u32 0, .int .u64 0, .int .u32 0, .int .u32 0, .int .u64 0, .int .i64 0, .int .i64 0, .bool false, .int .i64 0, .slice none 0 0, .slice none 0 0, .bool false, .slice none 0 0, .slice none 0 0, .slice none 0 0] 36
  have S0 : Hid (S9I w w b (w.heap.size + 1) v l _ st0 (insA (IN0 op) NILS NILS NILS)) := ⟨⟨_, h⟩, GG.out.turn _, h.grew GG.out, hM, rfl, by omega, es0_one op, GG.out.turn _⟩
  have G0 : Hid (Got w.heap.size l R op [2] true st0 (insA (IN0 op) NILS NILS NILS) ((w.alloc (.cells #[.int .i64 0, .int .u32 0, .int .u32 0, .int .u64 0, .int .u32 0, .int .u32 0, .int .u64 0, .int .i64 0, .int .i64 0, .bool false, .int .i64 0, .slice none 0 0, .slice none 0 0, .bool false, .slice none 0 0, .slice none 0 0, .slice none 0 0] 36)).alloc (.cells #[.int .i64 op, .int .u32 0, .int .u32 0, .int .u64 0, .int .u32 0, .int .u32 0, .int .u64 0, .int .i64 0, .int .i64 0, .bool false, .int .i64 0, .slice none 0 0, .slice none 0 0, .bool false, .slice none 0 0, .slice none 0 0, .slice none 0 0] 36))) := by
    have := got_start (B := w.heap.size) (l := l) (op := op) (st := st0) (w := (w.alloc (.cells #[.int .i64 0, .int .u32 0, .int .u32 0, .int .u64 0, .int .u32 0, .int .u32 0, .int .u64 0, .int .i64 0, .int .i64 0, .bool false, .int .i64 0, .slice none 0 0, .slice none 0 0, .bool false, .slice none 0 0, .slice none 0 0, .slice none 0 0] 36)).alloc (.cells #[.int .i64 op, .int .u32 0, .int .u32 0, .int .u64 0, .int .u32 0, .int .u32 0, .int .u64 0, .int .i64 0, .int .i64 0, .bool false, .int .i64 0, .slice none 0 0, .slice none 0 0, .bool false, .slice none 0 0, .slice none 0 0, .slice none 0 0] 36)) (r := [2]) (by rw [hk]; rfl)
    rw [hR] at this
    exact this
  have HWD : Hid (BA (formD op) = BA [120]) := by show BA (formD op) = _; rw [word_is, hk]; rfl
  clear h hR hM GG
  go_enter Tryz.func10, Tryz.ntmps10
  go_wp2_with (first
    | with_reducible refine stop_store 36 rfl ?_
    | fail)
  unfold Stop
  refine wpList_store_last rfl 36 (.tmp 5) (.tmp 13) rfl #[.int .i64 op, .int .u32 0, .int .u32 0, .int .u64 0, .int .u32 0, .int .u32 0, .int .u64 0, .int .i64 0, .int .i64 0, .bool false, .int .i64 0, .slice none 0 0, .slice none 0 0, .bool false, .slice none 0 0, .slice none 0 0, .slice none 0 0] (by go_simp) (by go_simp) _ (by kernel_rfl) rfl (by simp [Value.oneCell']) ?_
  obtain ⟨M, hMM⟩ : ∃ M, w.heap.size + 1 = M := ⟨_, rfl⟩
  rw [hMM] at S0
  obtain ⟨es0, hes0⟩ : ∃ es0, insA (IN0 op) NILS NILS NILS = es0 := ⟨_, rfl⟩
  rw [hes0] at S0 G0
  generalize (w.alloc (.cells #[.int .i64 0, .int .u32 0, .int .u32 0, .int .u64 0, .int .u32 0, .int .u32 0, .int .u64 0, .int .i64 0, .int .i64 0, .bool false, .int .i64 0, .slice none 0 0, .slice none 0 0, .bool false, .slice none 0 0, .slice none 0 0, .slice none 0 0] 36)).alloc (.cells #[.int .i64 op, .int .u32 0, .int .u32 0, .int .u64 0, .int .u32 0, .int .u32 0, .int .u64 0, .int .i64 0, .int .i64 0, .bool false, .int .i64 0, .slice none 0 0, .slice none 0 0, .bool false, .slice none 0 0, .slice none 0 0, .slice none 0 0] 36) = W0' at *
  clear hes0
  go_wp2_with fail
  refine (refForm_any op (by omega) (by omega) W0').mono ?_
  rintro en W0 ⟨rfl, g0⟩
  have S0 : Hid (S9I w w b M v l W0 st0 es0) := S0.out.grew g0
  have N0 : Hid (W0.heap[w.heap.size]? = some (.cells #[.int .i64 0, .int .u32 0, .int .u32 0, .int .u64 0, .int .u32 0, .int .u32 0, .int .u64 0, .int .i64 0, .int .i64 0, .bool false, .int .i64 0, .slice none 0 0, .slice none 0 0, .bool false, .slice none 0 0, .slice none 0 0, .slice none 0 0] 36 (0, 0))) := (g0.turn []).other N0.out (by simp)
  have G0 : Hid (Got w.heap.size l R op [2] true st0 es0 W0) := by
    obtain ⟨a1, a2, a3⟩ := G0.out
    refine ⟨a1, a2, ?_⟩
    cases st0 with
    | error e => exact a3
    | ok q =>
      obtain ⟨i, lab, ty, ca, e1, e2, r1, r2, r3, e3⟩ := a3
      exact ⟨i, lab, ty, ca, e1, e2, row_turn r1 (g0.turn []) (by simp), row_turn r2 (g0.turn []) (by simp), row_turn r3 (g0.turn []) (by simp), e3⟩
  clear g0
  rw [HWD.out]
  obtain ⟨sx, hsx⟩ : ∃ sx, BA [120] = sx := ⟨_, rfl⟩
  rw [hsx]
  have q0 : (sx.toList == [98, 108, 111, 99, 107]) = false := by rw [← hsx, ba_list]; decide
  have q1 : (sx.toList == [116, 114, 121]) = false := by rw [← hsx, ba_list]; decide
  have q2 : (sx.toList == [120]) = true := by rw [← hsx, ba_list]; decide
  clear hsx
  obtain ⟨st0', hst⟩ : ∃ s, s = st0 := ⟨_, rfl⟩
  clear hst st0'
  go_wp2_with fail
  refine (d9u32_any S0.out.di).mono ?_
  rintro en w1 ⟨y, sx1, rfl, f1, t1⟩
  have SA : Hid (S9I w W0 b M v l w1 sx1 es0) := S0.out.rebase.step f1
  obtain ⟨u1, hu1, _⟩ := SA.out.cell 1 (by decide)
  have z1 := free_of SA.out.io 1
  have TA : Hid (TieI (runI (u32R l) st0) y sx1) := t1
  clear f1 t1
  go_wp2_with (first
    | with_reducible refine stop_load 36 rfl ?_
    | fail)
  have FL : Fld9 w W0 b M v l es0 (runI (u32R l) st0) (fun y w' es' => es' = es0.setIfInBounds 1 (.int .u32 y)) (.returned (.tuple #[])) (w1.setCell ⟨M, 1, none⟩ (.int .u32 y)) := ⟨rfl, y, sx1, _, SA.out.set 1 _, head_keep (by decide), TA.out, rfl⟩
  have GN := got_step9 (Rf := u32R l) (f := 2) (fun i y => { i with x := y }) (by intro i q; simp [fldR, mapR_mapR, labelsR, catchesR]) S0.out.rebase G0.out FL ?hP1
  case hP1 =>
    · rintro i lab ty ca y es' q q' rfl hop hq r1 r2 r3 hes
      exact ⟨lab, ty, ca, hes, hop, r1, r2, r3⟩
  have hW' : ∃ W', W' = w1.setCell ⟨M, 1, none⟩ (.int .u32 y) := ⟨_, rfl⟩
  generalize w1.setCell ⟨M, 1, none⟩ (.int .u32 y) = W1 at *
  obtain ⟨_, st1, es1, s1, g1⟩ := GN
  have S1 : Hid (S9I w W0 b M v l W1 st1 es1) := s1
  have G1 : Hid (Got w.heap.size l R op [] false st1 es1 W1) := g1
  have N1 : Hid (W1.heap[w.heap.size]? = some (.cells #[.int .i64 0, .int .u32 0, .int .u32 0, .int .u64 0, .int .u32 0, .int .u32 0, .int .u64 0, .int .i64 0, .int .i64 0, .bool false, .int .i64 0, .slice none 0 0, .slice none 0 0, .bool false, .slice none 0 0, .slice none 0 0, .slice none 0 0] 36 (0, 0))) := s1.tm.other N0.out (by simp; omega)
  clear FL s1 g1 hW' SA TA
  have GE := got_end G1.out
  unfold Stop
  refine wpList_load_row rfl 36 (.tmp 5) rfl M (by go_simp) 36 es1 (0, 0) _ S1.out.io Tryz.underlying36 rfl (by rw [S1.out.sz]; kernel_rfl) ?_
  go_wp2_with (first
    | with_reducible refine stop_store 36 rfl ?_
    | fail)
  unfold Stop
  refine wpList_store_row rfl 36 (.tmp 4) (.tmp 164) rfl w.heap.size es1 (by go_simp) (by go_simp) 36 _ N1.out (by rw [S1.out.sz]; kernel_rfl) (by rw [S1.out.sz]; rfl) (by rw [Array.all_eq_true]; intro i hi; exact S1.out.one i _ (by simp)) ?_
  go_wp2_with fail
  refine bodyPost_ret (v := .agg es1) ?_ rfl ?_
  · exact results_cell_row Tryz.results10 _ _ w.heap.size 36 _ (0, 0) _ rfl (heap_setRow N1.out) Tryz.underlying36 rfl (by rw [S1.out.sz]; kernel_rfl)
  have tr := S1.out.tn.row (Nat.le_refl _) es1
  refine ⟨es1, st1, rfl, S1.out.sz, S1.out.one, ⟨tr, H.out.of tr (S1.out.di.st.same (setRow_other _ _ _ _ (by omega)))⟩, ?_⟩
  exact GE.turn (Turn.rowSelf _ _ _) (by intro x hx; simp at hx; subst hx; exact NoT.of N1.out (by decide)) (by intro x hx; simp at hx; subst hx; exact NoT.of N1.out (by decide)) (by intro x hx; simp at hx; subst hx; exact NoT.of N1.out (by decide))
set_option maxRecDepth 100000 in
set_option maxHeartbeats 4000000 in
theorem rest5_any {w : World} {b : Nat} {v : Value} {l : List Int} {st0 : Except (Nat × Nat) Nat} (h : D9 w b v l st0) (op : Int) (h0 : 0 ≤ op) (h1 : op ≤ 65535) (hk : formP op = 5) :
    Calls Tryz.prog 10 #[.pointer (some ⟨b, 0, none⟩), .int .i64 op] w fun en w' => ∃ es st', en = .returned (.agg es) ∧ es.size = 17 ∧ (∀ (j : Nat) (u : Value), es[j]? = some u → u.oneCell' = true) ∧ Fin9 b v l w w' st' ∧ InsA w.heap.size (runI (restF op l) st0) es w' st' := by
  have H : Hid (D9 w b v l st0) := h
  have hb : b < w.heap.size := h.lt
  obtain ⟨R, hR⟩ : ∃ R, runI (restF op l) st0 = R := ⟨_, rfl⟩
  rw [hR]
  have HR : Hid (runI (restF op l) st0 = R) := hR
  obtain ⟨GG, N0, hM⟩ := two_alloc w #[.int .i64 0, .int .u32 0, .int .u32 0, .int .u64 0, .int .u32 0, .int .u32 0, .int .u64 0, .int .i64 0, .int .i64 0, .bool false, .int .i64 0, .slice none 0 0, .slice none 0 0, .bool false, .slice none 0 0, .slice none 0 0, .slice none 0 0] #[.int .i64 op, .int .u32 0, .int .u32 0, .int .u64 0, .int .u32 0, .int .u32 0, .int .u64 0, .int .i64 0, .int .i64 0, .bool false, .int .i64 0, .slice none 0 0, .slice none 0 0, .bool false, .slice none 0 0, .slice none 0 0, .slice none 0 0] 36
  have S0 : Hid (S9I w w b (w.heap.size + 1) v l _ st0 (insA (IN0 op) NILS NILS NILS)) := ⟨⟨_, h⟩, GG.out.turn _, h.grew GG.out, hM, rfl, by omega, es0_one op, GG.out.turn _⟩
  have G0 : Hid (Got w.heap.size l R op [2, 3] true st0 (insA (IN0 op) NILS NILS NILS) ((w.alloc (.cells #[.int .i64 0, .int .u32 0, .int .u32 0, .int .u64 0, .int .u32 0, .int .u32 0, .int .u64 0, .int .i64 0, .int .i64 0, .bool false, .int .i64 0, .slice none 0 0, .slice none 0 0, .bool false, .slice none 0 0, .slice none 0 0, .slice none 0 0] 36)).alloc (.cells #[.int .i64 op, .int .u32 0, .int .u32 0, .int .u64 0, .int .u32 0, .int .u32 0, .int .u64 0, .int .i64 0, .int .i64 0, .bool false, .int .i64 0, .slice none 0 0, .slice none 0 0, .bool false, .slice none 0 0, .slice none 0 0, .slice none 0 0] 36))) := by
    have := got_start (B := w.heap.size) (l := l) (op := op) (st := st0) (w := (w.alloc (.cells #[.int .i64 0, .int .u32 0, .int .u32 0, .int .u64 0, .int .u32 0, .int .u32 0, .int .u64 0, .int .i64 0, .int .i64 0, .bool false, .int .i64 0, .slice none 0 0, .slice none 0 0, .bool false, .slice none 0 0, .slice none 0 0, .slice none 0 0] 36)).alloc (.cells #[.int .i64 op, .int .u32 0, .int .u32 0, .int .u64 0, .int .u32 0, .int .u32 0, .int .u64 0, .int .i64 0, .int .i64 0, .bool false, .int .i64 0, .slice none 0 0, .slice none 0 0, .bool false, .slice none 0 0, .slice none 0 0, .slice none 0 0] 36)) (r := [2, 3]) (by rw [hk]; rfl)
    rw [hR] at this
    exact this
  have HWD : Hid (BA (formD op) = BA [120, 121]) := by show BA (formD op) = _; rw [word_is, hk]; rfl
  clear h hR hM GG
  go_enter Tryz.func10, Tryz.ntmps10
  go_wp2_with (first
    | with_reducible refine stop_store 36 rfl ?_
    | fail)
  unfold Stop
  refine wpList_store_last rfl 36 (.tmp 5) (.tmp 13) rfl #[.int .i64 op, .int .u32 0, .int .u32 0, .int .u64 0, .int .u32 0, .int .u32 0, .int .u64 0, .int .i64 0, .int .i64 0, .bool false, .int .i64 0, .slice none 0 0, .slice none 0 0, .bool false, .slice none 0 0, .slice none 0 0, .slice none 0 0] (by go_simp) (by go_simp) _ (by kernel_rfl) rfl (by simp [Value.oneCell']) ?_
  obtain ⟨M, hMM⟩ : ∃ M, w.heap.size + 1 = M := ⟨_, rfl⟩
  rw [hMM] at S0
  obtain ⟨es0, hes0⟩ : ∃ es0, insA (IN0 op) NILS NILS NILS = es0 := ⟨_, rfl⟩
  rw [hes0] at S0 G0
  generalize (w.alloc (.cells #[.int .i64 0, .int .u32 0, .int .u32 0, .int .u64 0, .int .u32 0, .int .u32 0, .int .u64 0, .int .i64 0, .int .i64 0, .bool false, .int .i64 0, .slice none 0 0, .slice none 0 0, .bool false, .slice none 0 0, .slice none 0 0, .slice none 0 0] 36)).alloc (.cells #[.int .i64 op, .int .u32 0, .int .u32 0, .int .u64 0, .int .u32 0, .int .u32 0, .int .u64 0, .int .i64 0, .int .i64 0, .bool false, .int .i64 0, .slice none 0 0, .slice none 0 0, .bool false, .slice none 0 0, .slice none 0 0, .slice none 0 0] 36) = W0' at *
  clear hes0
  go_wp2_with fail
  refine (refForm_any op (by omega) (by omega) W0').mono ?_
  rintro en W0 ⟨rfl, g0⟩
  have S0 : Hid (S9I w w b M v l W0 st0 es0) := S0.out.grew g0
  have N0 : Hid (W0.heap[w.heap.size]? = some (.cells #[.int .i64 0, .int .u32 0, .int .u32 0, .int .u64 0, .int .u32 0, .int .u32 0, .int .u64 0, .int .i64 0, .int .i64 0, .bool false, .int .i64 0, .slice none 0 0, .slice none 0 0, .bool false, .slice none 0 0, .slice none 0 0, .slice none 0 0] 36 (0, 0))) := (g0.turn []).other N0.out (by simp)
  have G0 : Hid (Got w.heap.size l R op [2, 3] true st0 es0 W0) := by
    obtain ⟨a1, a2, a3⟩ := G0.out
    refine ⟨a1, a2, ?_⟩
    cases st0 with
    | error e => exact a3
    | ok q =>
      obtain ⟨i, lab, ty, ca, e1, e2, r1, r2, r3, e3⟩ := a3
      exact ⟨i, lab, ty, ca, e1, e2, row_turn r1 (g0.turn []) (by simp), row_turn r2 (g0.turn []) (by simp), row_turn r3 (g0.turn []) (by simp), e3⟩
  clear g0
  rw [HWD.out]
  obtain ⟨sx, hsx⟩ : ∃ sx, BA [120, 121] = sx := ⟨_, rfl⟩
  rw [hsx]
  have q0 : (sx.toList == [98, 108, 111, 99, 107]) = false := by rw [← hsx, ba_list]; decide
  have q1 : (sx.toList == [116, 114, 121]) = false := by rw [← hsx, ba_list]; decide
  have q2 : (sx.toList == [120]) = false := by rw [← hsx, ba_list]; decide
  have q3 : (sx.toList == [120, 121]) = true := by rw [← hsx, ba_list]; decide
  clear hsx
  obtain ⟨st0', hst⟩ : ∃ s, s = st0 := ⟨_, rfl⟩
  clear hst st0'
  go_wp2_with fail
  refine (d9u32_any S0.out.di).mono ?_
  rintro en w1 ⟨y, sx1, rfl, f1, t1⟩
  have SA : Hid (S9I w W0 b M v l w1 sx1 es0) := S0.out.rebase.step f1
  obtain ⟨u1, hu1, _⟩ := SA.out.cell 1 (by decide)
  have z1 := free_of SA.out.io 1
  have TA : Hid (TieI (runI (u32R l) st0) y sx1) := t1
  clear f1 t1
  go_wp2_with (first
    | with_reducible refine stop_load 36 rfl ?_
    | fail)
  have FL : Fld9 w W0 b M v l es0 (runI (u32R l) st0) (fun y w' es' => es' = es0.setIfInBounds 1 (.int .u32 y)) (.returned (.tuple #[])) (w1.setCell ⟨M, 1, none⟩ (.int .u32 y)) := ⟨rfl, y, sx1, _, SA.out.set 1 _, head_keep (by decide), TA.out, rfl⟩
  have GN := got_step9 (Rf := u32R l) (f := 2) (fun i y => { i with x := y }) (by intro i q; simp [fldR, mapR_mapR, labelsR, catchesR]) S0.out.rebase G0.out FL ?hP1
  case hP1 =>
    · rintro i lab ty ca y es' q q' rfl hop hq r1 r2 r3 hes
      exact ⟨lab, ty, ca, hes, hop, r1, r2, r3⟩
  have hW' : ∃ W', W' = w1.setCell ⟨M, 1, none⟩ (.int .u32 y) := ⟨_, rfl⟩
  generalize w1.setCell ⟨M, 1, none⟩ (.int .u32 y) = W1 at *
  obtain ⟨_, st1, es1, s1, g1⟩ := GN
  have S1 : Hid (S9I w W0 b M v l W1 st1 es1) := s1
  have G1 : Hid (Got w.heap.size l R op [3] false st1 es1 W1) := g1
  have N1 : Hid (W1.heap[w.heap.size]? = some (.cells #[.int .i64 0, .int .u32 0, .int .u32 0, .int .u64 0, .int .u32 0, .int .u32 0, .int .u64 0, .int .i64 0, .int .i64 0, .bool false, .int .i64 0, .slice none 0 0, .slice none 0 0, .bool false, .slice none 0 0, .slice none 0 0, .slice none 0 0] 36 (0, 0))) := s1.tm.other N0.out (by simp; omega)
  clear FL s1 g1 hW' SA TA
  refine (d9u32_any S1.out.di).mono ?_
  rintro en w2 ⟨y, sx2, rfl, f2, t2⟩
  have SA : Hid (S9I w W1 b M v l w2 sx2 es1) := S1.out.rebase.step f2
  obtain ⟨u2, hu2, _⟩ := SA.out.cell 2 (by decide)
  have z2 := free_of SA.out.io 2
  have TA : Hid (TieI (runI (u32R l) st1) y sx2) := t2
  clear f2 t2
  go_wp2_with (first
    | with_reducible refine stop_load 36 rfl ?_
    | fail)
  have FL : Fld9 w W1 b M v l es1 (runI (u32R l) st1) (fun y w' es' => es' = es1.setIfInBounds 2 (.int .u32 y)) (.returned (.tuple #[])) (w2.setCell ⟨M, 2, none⟩ (.int .u32 y)) := ⟨rfl, y, sx2, _, SA.out.set 2 _, head_keep (by decide), TA.out, rfl⟩
  have GN := got_step9 (Rf := u32R l) (f := 3) (fun i y => { i with y := y }) (by intro i q; simp [fldR, mapR_mapR, labelsR, catchesR]) S1.out.rebase G1.out FL ?hP2
  case hP2 =>
    · rintro i lab ty ca y es' q q' rfl hop hq r1 r2 r3 hes
      exact ⟨lab, ty, ca, hes, hop, r1, r2, r3⟩
  have hW' : ∃ W', W' = w2.setCell ⟨M, 2, none⟩ (.int .u32 y) := ⟨_, rfl⟩
  generalize w2.setCell ⟨M, 2, none⟩ (.int .u32 y) = W2 at *
  obtain ⟨_, st2, es2, s2, g2⟩ := GN
  have S2 : Hid (S9I w W1 b M v l W2 st2 es2) := s2
  have G2 : Hid (Got w.heap.size l R op [] false st2 es2 W2) := g2
  have N2 : Hid (W2.heap[w.heap.size]? = some (.cells #[.int .i64 0, .int .u32 0, .int .u32 0, .int .u64 0, .int .u32 0, .int .u32 0, .int .u64 0, .int .i64 0, .int .i64 0, .bool false, .int .i64 0, .slice none 0 0, .slice none 0 0, .bool false, .slice none 0 0, .slice none 0 0, .slice none 0 0] 36 (0, 0))) := s2.tm.other N1.out (by simp; omega)
  clear FL s2 g2 hW' SA TA
  have GE := got_end G2.out
  unfold Stop
  refine wpList_load_row rfl 36 (.tmp 5) rfl M (by go_simp) 36 es2 (0, 0) _ S2.out.io Tryz.underlying36 rfl (by rw [S2.out.sz]; kernel_rfl) ?_
  go_wp2_with (first
    | with_reducible refine stop_store 36 rfl ?_
    | fail)
  unfold Stop
  refine wpList_store_row rfl 36 (.tmp 4) (.tmp 164) rfl w.heap.size es2 (by go_simp) (by go_simp) 36 _ N2.out (by rw [S2.out.sz]; kernel_rfl) (by rw [S2.out.sz]; rfl) (by rw [Array.all_eq_true]; intro i hi; exact S2.out.one i _ (by simp)) ?_
  go_wp2_with fail
  refine bodyPost_ret (v := .agg es2) ?_ rfl ?_
  · exact results_cell_row Tryz.results10 _ _ w.heap.size 36 _ (0, 0) _ rfl (heap_setRow N2.out) Tryz.underlying36 rfl (by rw [S2.out.sz]; kernel_rfl)
  have tr := S2.out.tn.row (Nat.le_refl _) es2
  refine ⟨es2, st2, rfl, S2.out.sz, S2.out.one, ⟨tr, H.out.of tr (S2.out.di.st.same (setRow_other _ _ _ _ (by omega)))⟩, ?_⟩
  exact GE.turn (Turn.rowSelf _ _ _) (by intro x hx; simp at hx; subst hx; exact NoT.of N2.out (by decide)) (by intro x hx; simp at hx; subst hx; exact NoT.of N2.out (by decide)) (by intro x hx; simp at hx; subst hx; exact NoT.of N2.out (by decide))
set_option maxRecDepth 100000 in
set_option maxHeartbeats 4000000 in
theorem rest16_any {w : World} {b : Nat} {v : Value} {l : List Int} {st0 : Except (Nat × Nat) Nat} (h : D9 w b v l st0) (op : Int) (h0 : 0 ≤ op) (h1 : op ≤ 65535) (hk : formP op = 16) :
    Calls Tryz.prog 10 #[.pointer (some ⟨b, 0, none⟩), .int .i64 op] w fun en w' => ∃ es st', en = .returned (.agg es) ∧ es.size = 17 ∧ (∀ (j : Nat) (u : Value), es[j]? = some u → u.oneCell' = true) ∧ Fin9 b v l w w' st' ∧ InsA w.heap.size (runI (restF op l) st0) es w' st' := by
  have H : Hid (D9 w b v l st0) := h
  have hb : b < w.heap.size := h.lt
  obtain ⟨R, hR⟩ : ∃ R, runI (restF op l) st0 = R := ⟨_, rfl⟩
  rw [hR]
  have HR : Hid (runI (restF op l) st0 = R) := hR
  obtain ⟨GG, N0, hM⟩ := two_alloc w #[.int .i64 0, .int .u32 0, .int .u32 0, .int .u64 0, .int .u32 0, .int .u32 0, .int .u64 0, .int .i64 0, .int .i64 0, .bool false, .int .i64 0, .slice none 0 0, .slice none 0 0, .bool false, .slice none 0 0, .slice none 0 0, .slice none 0 0] #[.int .i64 op, .int .u32 0, .int .u32 0, .int .u64 0, .int .u32 0, .int .u32 0, .int .u64 0, .int .i64 0, .int .i64 0, .bool false, .int .i64 0, .slice none 0 0, .slice none 0 0, .bool false, .slice none 0 0, .slice none 0 0, .slice none 0 0] 36
  have S0 : Hid (S9I w w b (w.heap.size + 1) v l _ st0 (insA (IN0 op) NILS NILS NILS)) := ⟨⟨_, h⟩, GG.out.turn _, h.grew GG.out, hM, rfl, by omega, es0_one op, GG.out.turn _⟩
  have G0 : Hid (Got w.heap.size l R op [2, 14] true st0 (insA (IN0 op) NILS NILS NILS) ((w.alloc (.cells #[.int .i64 0, .int .u32 0, .int .u32 0, .int .u64 0, .int .u32 0, .int .u32 0, .int .u64 0, .int .i64 0, .int .i64 0, .bool false, .int .i64 0, .slice none 0 0, .slice none 0 0, .bool false, .slice none 0 0, .slice none 0 0, .slice none 0 0] 36)).alloc (.cells #[.int .i64 op, .int .u32 0, .int .u32 0, .int .u64 0, .int .u32 0, .int .u32 0, .int .u64 0, .int .i64 0, .int .i64 0, .bool false, .int .i64 0, .slice none 0 0, .slice none 0 0, .bool false, .slice none 0 0, .slice none 0 0, .slice none 0 0] 36))) := by
    have := got_start (B := w.heap.size) (l := l) (op := op) (st := st0) (w := (w.alloc (.cells #[.int .i64 0, .int .u32 0, .int .u32 0, .int .u64 0, .int .u32 0, .int .u32 0, .int .u64 0, .int .i64 0, .int .i64 0, .bool false, .int .i64 0, .slice none 0 0, .slice none 0 0, .bool false, .slice none 0 0, .slice none 0 0, .slice none 0 0] 36)).alloc (.cells #[.int .i64 op, .int .u32 0, .int .u32 0, .int .u64 0, .int .u32 0, .int .u32 0, .int .u64 0, .int .i64 0, .int .i64 0, .bool false, .int .i64 0, .slice none 0 0, .slice none 0 0, .bool false, .slice none 0 0, .slice none 0 0, .slice none 0 0] 36)) (r := [2, 14]) (by rw [hk]; rfl)
    rw [hR] at this
    exact this
  have HWD : Hid (BA (formD op) = BA [120, 110]) := by show BA (formD op) = _; rw [word_is, hk]; rfl
  clear h hR hM GG
  go_enter Tryz.func10, Tryz.ntmps10
  go_wp2_with (first
    | with_reducible refine stop_store 36 rfl ?_
    | fail)
  unfold Stop
  refine wpList_store_last rfl 36 (.tmp 5) (.tmp 13) rfl #[.int .i64 op, .int .u32 0, .int .u32 0, .int .u64 0, .int .u32 0, .int .u32 0, .int .u64 0, .int .i64 0, .int .i64 0, .bool false, .int .i64 0, .slice none 0 0, .slice none 0 0, .bool false, .slice none 0 0, .slice none 0 0, .slice none 0 0] (by go_simp) (by go_simp) _ (by kernel_rfl) rfl (by simp [Value.oneCell']) ?_
  obtain ⟨M, hMM⟩ : ∃ M, w.heap.size + 1 = M := ⟨_, rfl⟩
  rw [hMM] at S0
  obtain ⟨es0, hes0⟩ : ∃ es0, insA (IN0 op) NILS NILS NILS = es0 := ⟨_, rfl⟩
  rw [hes0] at S0 G0
  generalize (w.alloc (.cells #[.int .i64 0, .int .u32 0, .int .u32 0, .int .u64 0, .int .u32 0, .int .u32 0, .int .u64 0, .int .i64 0, .int .i64 0, .bool false, .int .i64 0, .slice none 0 0, .slice none 0 0, .bool false, .slice none 0 0, .slice none 0 0, .slice none 0 0] 36)).alloc (.cells #[.int .i64 op, .int .u32 0, .int .u32 0, .int .u64 0, .int .u32 0, .int .u32 0, .int .u64 0, .int .i64 0, .int .i64 0, .bool false, .int .i64 0, .slice none 0 0, .slice none 0 0, .bool false, .slice none 0 0, .slice none 0 0, .slice none 0 0] 36) = W0' at *
  clear hes0
  go_wp2_with fail
  refine (refForm_any op (by omega) (by omega) W0').mono ?_
  rintro en W0 ⟨rfl, g0⟩
  have S0 : Hid (S9I w w b M v l W0 st0 es0) := S0.out.grew g0
  have N0 : Hid (W0.heap[w.heap.size]? = some (.cells #[.int .i64 0, .int .u32 0, .int .u32 0, .int .u64 0, .int .u32 0, .int .u32 0, .int .u64 0, .int .i64 0, .int .i64 0, .bool false, .int .i64 0, .slice none 0 0, .slice none 0 0, .bool false, .slice none 0 0, .slice none 0 0, .slice none 0 0] 36 (0, 0))) := (g0.turn []).other N0.out (by simp)
  have G0 : Hid (Got w.heap.size l R op [2, 14] true st0 es0 W0) := by
    obtain ⟨a1, a2, a3⟩ := G0.out
    refine ⟨a1, a2, ?_⟩
    cases st0 with
    | error e => exact a3
    | ok q =>
      obtain ⟨i, lab, ty, ca, e1, e2, r1, r2, r3, e3⟩ := a3
      exact ⟨i, lab, ty, ca, e1, e2, row_turn r1 (g0.turn []) (by simp), row_turn r2 (g0.turn []) (by simp), row_turn r3 (g0.turn []) (by simp), e3⟩
  clear g0
  rw [HWD.out]
  obtain ⟨sx, hsx⟩ : ∃ sx, BA [120, 110] = sx := ⟨_, rfl⟩
  rw [hsx]
  have q0 : (sx.toList == [98, 108, 111, 99, 107]) = false := by rw [← hsx, ba_list]; decide
  have q1 : (sx.toList == [116, 114, 121]) = false := by rw [← hsx, ba_list]; decide
  have q2 : (sx.toList == [120]) = false := by rw [← hsx, ba_list]; decide
  have q3 : (sx.toList == [120, 121]) = false := by rw [← hsx, ba_list]; decide
  have q4 : (sx.toList == [116, 97, 98, 108, 101]) = false := by rw [← hsx, ba_list]; decide
  have q5 : (sx.toList == [115, 101, 108, 101, 99, 116]) = false := by rw [← hsx, ba_list]; decide
  have q6 : (sx.toList == [109, 101, 109]) = false := by rw [← hsx, ba_list]; decide
  have q7 : (sx.toList == [105, 51, 50]) = false := by rw [← hsx, ba_list]; decide
  have q8 : (sx.toList == [105, 54, 52]) = false := by rw [← hsx, ba_list]; decide
  have q9 : (sx.toList == [102, 51, 50]) = false := by rw [← hsx, ba_list]; decide
  have q10 : (sx.toList == [102, 54, 52]) = false := by rw [← hsx, ba_list]; decide
  have q11 : (sx.toList == [104, 101, 97, 112]) = false := by rw [← hsx, ba_list]; decide
  have q12 : (sx.toList == [99, 97, 115, 116]) = false := by rw [← hsx, ba_list]; decide
  have q13 : (sx.toList == [98, 114, 95, 99, 97, 115, 116]) = false := by rw [← hsx, ba_list]; decide
  have q14 : (sx.toList == [120, 110]) = true := by rw [← hsx, ba_list]; decide
  clear hsx
  obtain ⟨st0', hst⟩ : ∃ s, s = st0 := ⟨_, rfl⟩
  clear hst st0'
  go_wp2_with fail
  refine (d9u32_any S0.out.di).mono ?_
  rintro en w1 ⟨y, sx1, rfl, f1, t1⟩
  have SA : Hid (S9I w W0 b M v l w1 sx1 es0) := S0.out.rebase.step f1
  obtain ⟨u1, hu1, _⟩ := SA.out.cell 1 (by decide)
  have z1 := free_of SA.out.io 1
  have TA : Hid (TieI (runI (u32R l) st0) y sx1) := t1
  clear f1 t1
  go_wp2_with (first
    | with_reducible refine stop_load 36 rfl ?_
    | fail)
  have FL : Fld9 w W0 b M v l es0 (runI (u32R l) st0) (fun y w' es' => es' = es0.setIfInBounds 1 (.int .u32 y)) (.returned (.tuple #[])) (w1.setCell ⟨M, 1, none⟩ (.int .u32 y)) := ⟨rfl, y, sx1, _, SA.out.set 1 _, head_keep (by decide), TA.out, rfl⟩
  have GN := got_step9 (Rf := u32R l) (f := 2) (fun i y => { i with x := y }) (by intro i q; simp [fldR, mapR_mapR, labelsR, catchesR]) S0.out.rebase G0.out FL ?hP1
  case hP1 =>
    · rintro i lab ty ca y es' q q' rfl hop hq r1 r2 r3 hes
      exact ⟨lab, ty, ca, hes, hop, r1, r2, r3⟩
  have hW' : ∃ W', W' = w1.setCell ⟨M, 1, none⟩ (.int .u32 y) := ⟨_, rfl⟩
  generalize w1.setCell ⟨M, 1, none⟩ (.int .u32 y) = W1 at *
  obtain ⟨_, st1, es1, s1, g1⟩ := GN
  have S1 : Hid (S9I w W0 b M v l W1 st1 es1) := s1
  have G1 : Hid (Got w.heap.size l R op [14] false st1 es1 W1) := g1
  have N1 : Hid (W1.heap[w.heap.size]? = some (.cells #[.int .i64 0, .int .u32 0, .int .u32 0, .int .u64 0, .int .u32 0, .int .u32 0, .int .u64 0, .int .i64 0, .int .i64 0, .bool false, .int .i64 0, .slice none 0 0, .slice none 0 0, .bool false, .slice none 0 0, .slice none 0 0, .slice none 0 0] 36 (0, 0))) := s1.tm.other N0.out (by simp; omega)
  clear FL s1 g1 hW' SA TA
  refine (d9u32_t S1.out.di).mono ?_
  rintro en w2 ⟨y, sx2, rfl, hy2, f2, t2⟩
  have SA : Hid (S9I w W1 b M v l w2 sx2 es1) := S1.out.rebase.step f2
  obtain ⟨u3, hu3, _⟩ := SA.out.cell 3 (by decide)
  have z3 := free_of SA.out.io 3
  have TA : Hid (TieI (runI (u32R l) st1) y sx2) := t2
  obtain ⟨Y, hY⟩ : ∃ Y, IntKind.u64.wrap y = Y := ⟨_, rfl⟩
  have TB : Hid (TieI (runI (fun p => mapR (fun n => n) (u32R l p)) st1) Y sx2) := by
    rw [runI_map]
    cases sx2 with
    | ok q =>
      have hb := hy2 q rfl
      have : Y = y := by rw [← hY, IntKind.wrap_u64]; omega
      rw [this]
      exact t2.map _
    | error e =>
      have := t2.map (fun n => n)
      exact this
  clear f2 t2 hy2
  go_wp2_with (first
    | with_reducible refine stop_load 36 rfl ?_
    | fail)
  have FL : Fld9 w W1 b M v l es1 (runI (fun p => mapR (fun n => n) (u32R l p)) st1) (fun y w' es' => es' = es1.setIfInBounds 3 (.int .u64 y)) (.returned (.tuple #[])) (w2.setCell ⟨M, 3, none⟩ (.int .u64 Y)) := ⟨rfl, Y, sx2, _, SA.out.set 3 _, head_keep (by decide), TB.out, rfl⟩
  have GN := got_step9 (Rf := fun p => mapR (fun n => n) (u32R l p)) (f := 14) (fun i y => { i with n := y }) (by intro i q; simp [fldR, mapR_mapR, labelsR, catchesR]) S1.out.rebase G1.out FL ?hP2
  case hP2 =>
    · rintro i lab ty ca y es' q q' rfl hop hq r1 r2 r3 hes
      exact ⟨lab, ty, ca, hes, hop, r1, r2, r3⟩
  have hW' : ∃ W', W' = w2.setCell ⟨M, 3, none⟩ (.int .u64 Y) := ⟨_, rfl⟩
  generalize w2.setCell ⟨M, 3, none⟩ (.int .u64 Y) = W2 at *
  obtain ⟨_, st2, es2, s2, g2⟩ := GN
  have S2 : Hid (S9I w W1 b M v l W2 st2 es2) := s2
  have G2 : Hid (Got w.heap.size l R op [] false st2 es2 W2) := g2
  have N2 : Hid (W2.heap[w.heap.size]? = some (.cells #[.int .i64 0, .int .u32 0, .int .u32 0, .int .u64 0, .int .u32 0, .int .u32 0, .int .u64 0, .int .i64 0, .int .i64 0, .bool false, .int .i64 0, .slice none 0 0, .slice none 0 0, .bool false, .slice none 0 0, .slice none 0 0, .slice none 0 0] 36 (0, 0))) := s2.tm.other N1.out (by simp; omega)
  clear FL s2 g2 hW' SA TA
  clear TB hY
  have GE := got_end G2.out
  unfold Stop
  refine wpList_load_row rfl 36 (.tmp 5) rfl M (by go_simp) 36 es2 (0, 0) _ S2.out.io Tryz.underlying36 rfl (by rw [S2.out.sz]; kernel_rfl) ?_
  go_wp2_with (first
    | with_reducible refine stop_store 36 rfl ?_
    | fail)
  unfold Stop
  refine wpList_store_row rfl 36 (.tmp 4) (.tmp 164) rfl w.heap.size es2 (by go_simp) (by go_simp) 36 _ N2.out (by rw [S2.out.sz]; kernel_rfl) (by rw [S2.out.sz]; rfl) (by rw [Array.all_eq_true]; intro i hi; exact S2.out.one i _ (by simp)) ?_
  go_wp2_with fail
  refine bodyPost_ret (v := .agg es2) ?_ rfl ?_
  · exact results_cell_row Tryz.results10 _ _ w.heap.size 36 _ (0, 0) _ rfl (heap_setRow N2.out) Tryz.underlying36 rfl (by rw [S2.out.sz]; kernel_rfl)
  have tr := S2.out.tn.row (Nat.le_refl _) es2
  refine ⟨es2, st2, rfl, S2.out.sz, S2.out.one, ⟨tr, H.out.of tr (S2.out.di.st.same (setRow_other _ _ _ _ (by omega)))⟩, ?_⟩
  exact GE.turn (Turn.rowSelf _ _ _) (by intro x hx; simp at hx; subst hx; exact NoT.of N2.out (by decide)) (by intro x hx; simp at hx; subst hx; exact NoT.of N2.out (by decide)) (by intro x hx; simp at hx; subst hx; exact NoT.of N2.out (by decide))
end Go.Proofs.YtohapnninjdlfaaGreatDoor
