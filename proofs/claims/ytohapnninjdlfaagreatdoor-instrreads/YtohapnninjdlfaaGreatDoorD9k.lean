/-
  The document's reading of instructions: what stands behind an opcode; no statement is proved here.
-/
import Derived.Test.YtohapnninjdlfaaGreatDoorD9h
namespace Go.Proofs.YtohapnninjdlfaaGreatDoor
open Go.RowKit
set_option linter.unusedVariables false
set_option linter.unusedSimpArgs false
set_option linter.constructorNameAsVariable false

set_option maxRecDepth 100000 in
set_option maxHeartbeats 4000000 in
theorem rest9_any {w : World} {b : Nat} {v : Value} {l : List Int} {st0 : Except (Nat × Nat) Nat} (h : D9 w b v l st0) (op : Int) (h0 : 0 ≤ op) (h1 : op ≤ 65535) (hk : formP op = 9) :
    Calls Tryz.prog 10 #[.pointer (some ⟨b, 0, none⟩), .int .i64 op] w fun en w' => ∃ es st', en = .returned (.agg es) ∧ es.size = 17 ∧ (∀ (j : Nat) (u : Value), es[j]? = some u → u.oneCell' = true) ∧ Fin9 b v l w w' st' ∧ InsA w.heap.size (runI (restF op l) st0) es w' st' := by
  have H : Hid (D9 w b v l st0) := h
  have hb : b < w.heap.size := h.lt
  obtain ⟨R, hR⟩ : ∃ R, runI (restF op l) st0 = R := ⟨_, rfl⟩
  rw [hR]
  have HR : Hid (runI (restF op l) st0 = R) := hR
  obtain ⟨GG, N0, hM⟩ := two_alloc w #[.int .i64 0, .int .u32 0, .int .u32 0, .int .u64 0, .int .u32 0, .int .u32 0, .int .u64 0, .int .i64 0, .int .i64 0, .bool false, .int .i64 0, .slice none 0 0, .slice none 0 0, .bool false, .slice none 0 0, .slice none 0 0, .slice none 0 0] #[.int .i64 op, .int .u32 0, .int .u32 0, .int .u64 0, .int .u32 0, .int .u32 0, .int .u64 0, .int .i64 0, .int .i64 0, .bool false, .int .i64 0, .slice none 0 0, .slice none 0 0, .bool false, .slice none 0 0, .slice none 0 0, .slice none 0 0] 36
  have S0 : Hid (S9I w w b (w.heap.size + 1) v l _ st0 (insA (IN0 op) NILS NILS NILS)) := ⟨⟨_, h⟩, GG.out.turn _, h.grew GG.out, hM, rfl, by omega, es0_one op, GG.out.turn _⟩
  have G0 : Hid (Got w.heap.size l R op [7] true st0 (insA (IN0 op) NILS NILS NILS) ((w.alloc (.cells #[.int .i64 0, .int .u32 0, .int .u32 0, .int .u64 0, .int .u32 0, .int .u32 0, .int .u64 0, .int .i64 0, .int .i64 0, .bool false, .int .i64 0, .slice none 0 0, .slice none 0 0, .bool false, .slice none 0 0, .slice none 0 0, .slice none 0 0] 36)).alloc (.cells #[.int .i64 op, .int .u32 0, .int .u32 0, .int .u64 0, .int .u32 0, .int .u32 0, .int .u64 0, .int .i64 0, .int .i64 0, .bool false, .int .i64 0, .slice none 0 0, .slice none 0 0, .bool false, .slice none 0 0, .slice none 0 0, .slice none 0 0] 36))) := by
    have := got_start (B := w.heap.size) (l := l) (op := op) (st := st0) (w := (w.alloc (.cells #[.int .i64 0, .int .u32 0, .int .u32 0, .int .u64 0, .int .u32 0, .int .u32 0, .int .u64 0, .int .i64 0, .int .i64 0, .bool false, .int .i64 0, .slice none 0 0, .slice none 0 0, .bool false, .slice none 0 0, .slice none 0 0, .slice none 0 0] 36)).alloc (.cells #[.int .i64 op, .int .u32 0, .int .u32 0, .int .u64 0, .int .u32 0, .int .u32 0, .int .u64 0, .int .i64 0, .int .i64 0, .bool false, .int .i64 0, .slice none 0 0, .slice none 0 0, .bool false, .slice none 0 0, .slice none 0 0, .slice none 0 0] 36)) (r := [7]) (by rw [hk]; rfl)
    rw [hR] at this
    exact this
  have HWD : Hid (BA (formD op) = BA [105, 51, 50]) := by show BA (formD op) = _; rw [word_is, hk]; rfl
  clear h hR hM GG
  go_enter Tryz.func10, Tryz.ntmps10
  go_wp2_with (first
    | with_reducible refine stop_store 36 rfl ?_
    | fail)
  unfold Stop
  refine wpList_store_last rfl 36 (.tmp 5) (.tmp 13) rfl #[.int .i64 op, .int .u32 0, .int .u32 0, .int .u64 0, .int .u32 0, .int .u32 0, .int .u64 0, .int .i64 0, .int .i64 0, .bool false, .int .i64 0, .slice none 0 0, .slice none 0 0, .bool false, .slice none 0 0, .slice none 0 0, .slice none 0 0] (by go_simp) (by go_simp) _ (by kernel_rfl) rfl (by simp [Value.oneCell']) ?_
  obtain ⟨M, hMM⟩ : ∃ M, w.heap.size + 1 = M := ⟨_, rfl⟩
  rw [hMM] at S0
  obtain ⟨es0, hes0⟩ : ∃ es0, insA (IN0 op) NILS NILS NILS = es0 := ⟨_, rfl⟩
  rw [hes0] at S0 G0
  generalize (w.alloc (.cells #[.int .i64 0, .int .u32 0, .int .u32 0, .int .u64 0, .int .u32 0, .int .u32 0, .int .u64 0, .int .i64 0, .int .i64 0, .bool false, .int .i64 0, .slice none 0 0, .slice none 0 0, .bool false, .slice none 0 0, .slice none 0 0, .slice none 0 0] 36)).alloc (.cells #[.int .i64 op, .int .u32 0, .int .u32 0, .int .u64 0, .int .u32 0, .int .u32 0, .int .u64 0, .int .i64 0, .int .i64 0, .bool false, .int .i64 0, .slice none 0 0, .slice none 0 0, .bool false, .slice none 0 0, .slice none 0 0, .slice none 0 0] 36) = W0' at *
  clear hes0
  go_wp2_with fail
  refine (refForm_any op (by omega) (by omega) W0').mono ?_
  rintro en W0 ⟨rfl, g0⟩
  have S0 : Hid (S9I w w b M v l W0 st0 es0) := S0.out.grew g0
  have N0 : Hid (W0.heap[w.heap.size]? = some (.cells #[.int .i64 0, .int .u32 0, .int .u32 0, .int .u64 0, .int .u32 0, .int .u32 0, .int .u64 0, .int .i64 0, .int .i64 0, .bool false, .int .i64 0, .slice none 0 0, .slice none 0 0, .bool false, .slice none 0 0, .slice none 0 0, .slice none 0 0] 36 (0, 0))) := (g0.turn []).other N0.out (by simp)
  have G0 : Hid (Got w.heap.size l R op [7] true st0 es0 W0) := by
    obtain ⟨a1, a2, a3⟩ := G0.out
    refine ⟨a1, a2, ?_⟩
    cases st0 with
    | error e => exact a3
    | ok q =>
      obtain ⟨i, lab, ty, ca, e1, e2, r1, r2, r3, e3⟩ := a3
      exact ⟨i, lab, ty, ca, e1, e2, row_turn r1 (g0.turn []) (by simp), row_turn r2 (g0.turn []) (by simp), row_turn r3 (g0.turn []) (by simp), e3⟩
  clear g0
  rw [HWD.out]
  obtain ⟨sx, hsx⟩ : ∃ sx, BA [105, 51, 50] = sx := ⟨_, rfl⟩
  rw [hsx]
  have q0 : (sx.toList == [98, 108, 111, 99, 107]) = false := by rw [← hsx, ba_list]; decide
  have q1 : (sx.toList == [116, 114, 121]) = false := by rw [← hsx, ba_list]; decide
  have q2 : (sx.toList == [120]) = false := by rw [← hsx, ba_list]; decide
  have q3 : (sx.toList == [120, 121]) = false := by rw [← hsx, ba_list]; decide
  have q4 : (sx.toList == [116, 97, 98, 108, 101]) = false := by rw [← hsx, ba_list]; decide
  have q5 : (sx.toList == [115, 101, 108, 101, 99, 116]) = false := by rw [← hsx, ba_list]; decide
  have q6 : (sx.toList == [109, 101, 109]) = false := by rw [← hsx, ba_list]; decide
  have q7 : (sx.toList == [105, 51, 50]) = true := by rw [← hsx, ba_list]; decide
  clear hsx
  obtain ⟨st0', hst⟩ : ∃ s, s = st0 := ⟨_, rfl⟩
  clear hst st0'
  go_wp2_with fail
  refine (d9numI_any S0.out.di).mono ?_
  rintro en w1 ⟨y, sx1, rfl, f1, t1⟩
  have SA : Hid (S9I w W0 b M v l w1 sx1 es0) := S0.out.rebase.step f1
  obtain ⟨u3, hu3, _⟩ := SA.out.cell 3 (by decide)
  have z3 := free_of SA.out.io 3
  have TA : Hid (TieI (runI (numR 32 true l) st0) y sx1) := t1
  obtain ⟨Y, hY⟩ : ∃ Y, y.tmod 4294967296 = Y := ⟨_, rfl⟩
  have TB : Hid (TieI (runI (fun p => mapR (fun n => n % 4294967296) (numR 32 true l p)) st0) Y sx1) := by
    rw [runI_map]
    cases sx1 with
    | ok q =>
      obtain ⟨p, hp, hn⟩ := t1.was
      have hle : p ≤ l.length := by have := S0.out.di.st; rw [hp] at this; exact this.2
      obtain ⟨b0, b1⟩ := numR_bd (by decide) hle hn
      have : Y = y % 4294967296 := by rw [← hY]; exact Int.tmod_eq_emod_of_nonneg b0
      rw [this]
      exact t1.map _
    | error e =>
      have := t1.map (fun n => n % 4294967296)
      exact this
  clear f1 t1
  go_wp2_with (first
    | with_reducible refine stop_load 36 rfl ?_
    | fail)
  have FL : Fld9 w W0 b M v l es0 (runI (fun p => mapR (fun n => n % 4294967296) (numR 32 true l p)) st0) (fun y w' es' => es' = es0.setIfInBounds 3 (.int .u64 y)) (.returned (.tuple #[])) (w1.setCell ⟨M, 3, none⟩ (.int .u64 Y)) := ⟨rfl, Y, sx1, _, SA.out.set 3 _, head_keep (by decide), TB.out, rfl⟩
  have GN := got_step9 (Rf := fun p => mapR (fun n => n % 4294967296) (numR 32 true l p)) (f := 7) (fun i y => { i with n := y }) (by intro i q; simp [fldR, mapR_mapR, labelsR, catchesR]) S0.out.rebase G0.out FL ?hP1
  case hP1 =>
    · rintro i lab ty ca y es' q q' rfl hop hq r1 r2 r3 hes
      exact ⟨lab, ty, ca, hes, hop, r1, r2, r3⟩
  have hW' : ∃ W', W' = w1.setCell ⟨M, 3, none⟩ (.int .u64 Y) := ⟨_, rfl⟩
  generalize w1.setCell ⟨M, 3, none⟩ (.int .u64 Y) = W1 at *
  obtain ⟨_, st1, es1, s1, g1⟩ := GN
  have S1 : Hid (S9I w W0 b M v l W1 st1 es1) := s1
  have G1 : Hid (Got w.heap.size l R op [] false st1 es1 W1) := g1
  have N1 : Hid (W1.heap[w.heap.size]? = some (.cells #[.int .i64 0, .int .u32 0, .int .u32 0, .int .u64 0, .int .u32 0, .int .u32 0, .int .u64 0, .int .i64 0, .int .i64 0, .bool false, .int .i64 0, .slice none 0 0, .slice none 0 0, .bool false, .slice none 0 0, .slice none 0 0, .slice none 0 0] 36 (0, 0))) := s1.tm.other N0.out (by simp; omega)
  clear FL s1 g1 hW' SA TA
  have GE := got_end G1.out
  unfold Stop
  refine wpList_load_row rfl 36 (.tmp 5) rfl M (by go_simp) 36 es1 (0, 0) _ S1.out.io Tryz.underlying36 rfl (by rw [S1.out.sz]; kernel_rfl) ?_
  go_wp2_with (first
    | with_reducible refine stop_store 36 rfl ?_
    | fail)
  unfold Stop
  refine wpList_store_row rfl 36 (.tmp 4) (.tmp 164) rfl w.heap.size es1 (by go_simp) (by go_simp) 36 _ N1.out (by rw [S1.out.sz]; kernel_rfl) (by rw [S1.out.sz]; rfl) (by rw [Array.all_eq_true]; intro i hi; exact S1.out.one i _ (by simp)) ?_
  go_wp2_with fail
  refine bodyPost_ret (v := .agg es1) ?_ rfl ?_
  · exact results_cell_row Tryz.results10 _ _ w.heap.size 36 _ (0, 0) _ rfl (heap_setRow N1.out) Tryz.underlying36 rfl (by rw [S1.out.sz]; kernel_rfl)
  have tr := S1.out.tn.row (Nat.le_refl _) es1
  refine ⟨es1, st1, rfl, S1.out.sz, S1.out.one, ⟨tr, H.out.of tr (S1.out.di.st.same (setRow_other _ _ _ _ (by omega)))⟩, ?_⟩
  exact GE.turn (Turn.rowSelf _ _ _) (by intro x hx; simp at hx; subst hx; exact NoT.of N1.out (by decide)) (by intro x hx; simp at hx; subst hx; exact NoT.of N1.out (by decide)) (by intro x hx; simp at hx; subst hx; exact NoT.of N1.out (by decide))
set_option maxRecDepth 100000 in
set_option maxHeartbeats 4000000 in
theorem rest10_any {w : World} {b : Nat} {v : Value} {l : List Int} {st0 : Except (Nat × Nat) Nat} (h : D9 w b v l st0) (op : Int) (h0 : 0 ≤ op) (h1 : op ≤ 65535) (hk : formP op = 10) :
    Calls Tryz.prog 10 #[.pointer (some ⟨b, 0, none⟩), .int .i64 op] w fun en w' => ∃ es st', en = .returned (.agg es) ∧ es.size = 17 ∧ (∀ (j : Nat) (u : Value), es[j]? = some u → u.oneCell' = true) ∧ Fin9 b v l w w' st' ∧ InsA w.heap.size (runI (restF op l) st0) es w' st' := by
  have H : Hid (D9 w b v l st0) := h
  have hb : b < w.heap.size := h.lt
  obtain ⟨R, hR⟩ : ∃ R, runI (restF op l) st0 = R := ⟨_, rfl⟩
  rw [hR]
  have HR : Hid (runI (restF op l) st0 = R) := hR
  obtain ⟨GG, N0, hM⟩ := two_alloc w #[.int .i64 0, .int .u32 0, .int .u32 0, .int .u64 0, .int .u32 0, .int .u32 0, .int .u64 0, .int .i64 0, .int .i64 0, .bool false, .int .i64 0, .slice none 0 0, .slice none 0 0, .bool false, .slice none 0 0, .slice none 0 0, .slice none 0 0] #[.int .i64 op, .int .u32 0, .int .u32 0, .int .u64 0, .int .u32 0, .int .u32 0, .int .u64 0, .int .i64 0, .int .i64 0, .bool false, .int .i64 0, .slice none 0 0, .slice none 0 0, .bool false, .slice none 0 0, .slice none 0 0, .slice none 0 0] 36
  have S0 : Hid (S9I w w b (w.heap.size + 1) v l _ st0 (insA (IN0 op) NILS NILS NILS)) := ⟨⟨_, h⟩, GG.out.turn _, h.grew GG.out, hM, rfl, by omega, es0_one op, GG.out.turn _⟩
  have G0 : Hid (Got w.heap.size l R op [8] true st0 (insA (IN0 op) NILS NILS NILS) ((w.alloc (.cells #[.int .i64 0, .int .u32 0, .int .u32 0, .int .u64 0, .int .u32 0, .int .u32 0, .int .u64 0, .int .i64 0, .int .i64 0, .bool false, .int .i64 0, .slice none 0 0, .slice none 0 0, .bool false, .slice none 0 0, .slice none 0 0, .slice none 0 0] 36)).alloc (.cells #[.int .i64 op, .int .u32 0, .int .u32 0, .int .u64 0, .int .u32 0, .int .u32 0, .int .u64 0, .int .i64 0, .int .i64 0, .bool false, .int .i64 0, .slice none 0 0, .slice none 0 0, .bool false, .slice none 0 0, .slice none 0 0, .slice none 0 0] 36))) := by
    have := got_start (B := w.heap.size) (l := l) (op := op) (st := st0) (w := (w.alloc (.cells #[.int .i64 0, .int .u32 0, .int .u32 0, .int .u64 0, .int .u32 0, .int .u32 0, .int .u64 0, .int .i64 0, .int .i64 0, .bool false, .int .i64 0, .slice none 0 0, .slice none 0 0, .bool false, .slice none 0 0, .slice none 0 0, .slice none 0 0] 36)).alloc (.cells #[.int .i64 op, .int .u32 0, .int .u32 0, .int .u64 0, .int .u32 0, .int .u32 0, .int .u64 0, .int .i64 0, .int .i64 0, .bool false, .int .i64 0, .slice none 0 0, .slice none 0 0, .bool false, .slice none 0 0, .slice none 0 0, .slice none 0 0] 36)) (r := [8]) (by rw [hk]; rfl)
    rw [hR] at this
    exact this
  have HWD : Hid (BA (formD op) = BA [105, 54, 52]) := by show BA (formD op) = _; rw [word_is, hk]; rfl
  clear h hR hM GG
  go_enter Tryz.func10, Tryz.ntmps10
  go_wp2_with (first
    | with_reducible refine stop_store 36 rfl ?_
    | fail)
  unfold Stop
  refine wpList_store_last rfl 36 (.tmp 5) (.tmp 13) rfl #[.int .i64 op, .int .u32 0, .int .u32 0, .int .u64 0, .int .u32 0, .int .u32 0, .int .u64 0, .int .i64 0, .int .i64 0, .bool false, .int .i64 0, .slice none 0 0, .slice none 0 0, .bool false, .slice none 0 0, .slice none 0 0, .slice none 0 0] (by go_simp) (by go_simp) _ (by kernel_rfl) rfl (by simp [Value.oneCell']) ?_
  obtain ⟨M, hMM⟩ : ∃ M, w.heap.size + 1 = M := ⟨_, rfl⟩
  rw [hMM] at S0
  obtain ⟨es0, hes0⟩ : ∃ es0, insA (IN0 op) NILS NILS NILS = es0 := ⟨_, rfl⟩
  rw [hes0] at S0 G0
  generalize (w.alloc (.cells #[.int .i64 0, .int .u32 0, .int .u32 0, .int .u64 0, .int .u32 0, .int .u32 0, .int .u64 0, .int .i64 0, .int .i64 0, .bool false, .int .i64 0, .slice none 0 0, .slice none 0 0, .bool false, .slice none 0 0, .slice none 0 0, .slice none 0 0] 36)).alloc (.cells #[.int .i64 op, .int .u32 0, .int .u32 0, .int .u64 0, .int .u32 0, .int .u32 0, .int .u64 0, .int .i64 0, .int .i64 0, .bool false, .int .i64 0, .slice none 0 0, .slice none 0 0, .bool false, .slice none 0 0, .slice none 0 0, .slice none 0 0] 36) = W0' at *
  clear hes0
  go_wp2_with fail
  refine (refForm_any op (by omega) (by omega) W0').mono ?_
  rintro en W0 ⟨rfl, g0⟩
  have S0 : Hid (S9I w w b M v l W0 st0 es0) := S0.out.grew g0
  have N0 : Hid (W0.heap[w.heap.size]? = some (.cells #[.int .i64 0, .int .u32 0, .int .u32 0, .int .u64 0, .int .u32 0, .int .u32 0, .int .u64 0, .int .i64 0, .int .i64 0, .bool false, .int .i64 0, .slice none 0 0, .slice none 0 0, .bool false, .slice none 0 0, .slice none 0 0, .slice none 0 0] 36 (0, 0))) := (g0.turn []).other N0.out (by simp)
  have G0 : Hid (Got w.heap.size l R op [8] true st0 es0 W0) := by
    obtain ⟨a1, a2, a3⟩ := G0.out
    refine ⟨a1, a2, ?_⟩
    cases st0 with
    | error e => exact a3
    | ok q =>
      obtain ⟨i, lab, ty, ca, e1, e2, r1, r2, r3, e3⟩ := a3
      exact ⟨i, lab, ty, ca, e1, e2, row_turn r1 (g0.turn []) (by simp), row_turn r2 (g0.turn []) (by simp), row_turn r3 (g0.turn []) (by simp), e3⟩
  clear g0
  rw [HWD.out]
  obtain ⟨sx, hsx⟩ : ∃ sx, BA [105, 54, 52] = sx := ⟨_, rfl⟩
  rw [hsx]
  have q0 : (sx.toList == [98, 108, 111, 99, 107]) = false := by rw [← hsx, ba_list]; decide
  have q1 : (sx.toList == [116, 114, 121]) = false := by rw [← hsx, ba_list]; decide
  have q2 : (sx.toList == [120]) = false := by rw [← hsx, ba_list]; decide
  have q3 : (sx.toList == [120, 121]) = false := by rw [← hsx, ba_list]; decide
  have q4 : (sx.toList == [116, 97, 98, 108, 101]) = false := by rw [← hsx, ba_list]; decide
  have q5 : (sx.toList == [115, 101, 108, 101, 99, 116]) = false := by rw [← hsx, ba_list]; decide
  have q6 : (sx.toList == [109, 101, 109]) = false := by rw [← hsx, ba_list]; decide
  have q7 : (sx.toList == [105, 51, 50]) = false := by rw [← hsx, ba_list]; decide
  have q8 : (sx.toList == [105, 54, 52]) = true := by rw [← hsx, ba_list]; decide
  clear hsx
  obtain ⟨st0', hst⟩ : ∃ s, s = st0 := ⟨_, rfl⟩
  clear hst st0'
  go_wp2_with fail
  refine (d9numL_any S0.out.di).mono ?_
  rintro en w1 ⟨y, sx1, rfl, f1, t1⟩
  have SA : Hid (S9I w W0 b M v l w1 sx1 es0) := S0.out.rebase.step f1
  obtain ⟨u3, hu3, _⟩ := SA.out.cell 3 (by decide)
  have z3 := free_of SA.out.io 3
  have TA : Hid (TieI (runI (numR 64 true l) st0) y sx1) := t1
  have TB : Hid (TieI (runI (fun p => mapR (fun n => n) (numR 64 true l p)) st0) y sx1) := by
    rw [runI_map]
    exact t1.map _
  clear f1 t1
  go_wp2_with (first
    | with_reducible refine stop_load 36 rfl ?_
    | fail)
  have FL : Fld9 w W0 b M v l es0 (runI (fun p => mapR (fun n => n) (numR 64 true l p)) st0) (fun y w' es' => es' = es0.setIfInBounds 3 (.int .u64 y)) (.returned (.tuple #[])) (w1.setCell ⟨M, 3, none⟩ (.int .u64 y)) := ⟨rfl, y, sx1, _, SA.out.set 3 _, head_keep (by decide), TB.out, rfl⟩
  have GN := got_step9 (Rf := fun p => mapR (fun n => n) (numR 64 true l p)) (f := 8) (fun i y => { i with n := y }) (by intro i q; simp [fldR, mapR_mapR, labelsR, catchesR]) S0.out.rebase G0.out FL ?hP1
  case hP1 =>
    · rintro i lab ty ca y es' q q' rfl hop hq r1 r2 r3 hes
      exact ⟨lab, ty, ca, hes, hop, r1, r2, r3⟩
  have hW' : ∃ W', W' = w1.setCell ⟨M, 3, none⟩ (.int .u64 y) := ⟨_, rfl⟩
  generalize w1.setCell ⟨M, 3, none⟩ (.int .u64 y) = W1 at *
  obtain ⟨_, st1, es1, s1, g1⟩ := GN
  have S1 : Hid (S9I w W0 b M v l W1 st1 es1) := s1
  have G1 : Hid (Got w.heap.size l R op [] false st1 es1 W1) := g1
  have N1 : Hid (W1.heap[w.heap.size]? = some (.cells #[.int .i64 0, .int .u32 0, .int .u32 0, .int .u64 0, .int .u32 0, .int .u32 0, .int .u64 0, .int .i64 0, .int .i64 0, .bool false, .int .i64 0, .slice none 0 0, .slice none 0 0, .bool false, .slice none 0 0, .slice none 0 0, .slice none 0 0] 36 (0, 0))) := s1.tm.other N0.out (by simp; omega)
  clear FL s1 g1 hW' SA TA
  have GE := got_end G1.out
  unfold Stop
  refine wpList_load_row rfl 36 (.tmp 5) rfl M (by go_simp) 36 es1 (0, 0) _ S1.out.io Tryz.underlying36 rfl (by rw [S1.out.sz]; kernel_rfl) ?_
  go_wp2_with (first
    | with_reducible refine stop_store 36 rfl ?_
    | fail)
  unfold Stop
  refine wpList_store_row rfl 36 (.tmp 4) (.tmp 164) rfl w.heap.size es1 (by go_simp) (by go_simp) 36 _ N1.out (by rw [S1.out.sz]; kernel_rfl) (by rw [S1.out.sz]; rfl) (by rw [Array.all_eq_true]; intro i hi; exact S1.out.one i _ (by simp)) ?_
  go_wp2_with fail
  refine bodyPost_ret (v := .agg es1) ?_ rfl ?_
  · exact results_cell_row Tryz.results10 _ _ w.heap.size 36 _ (0, 0) _ rfl (heap_setRow N1.out) Tryz.underlying36 rfl (by rw [S1.out.sz]; kernel_rfl)
  have tr := S1.out.tn.row (Nat.le_refl _) es1
  refine ⟨es1, st1, rfl, S1.out.sz, S1.out.one, ⟨tr, H.out.of tr (S1.out.di.st.same (setRow_other _ _ _ _ (by omega)))⟩, ?_⟩
  exact GE.turn (Turn.rowSelf _ _ _) (by intro x hx; simp at hx; subst hx; exact NoT.of N1.out (by decide)) (by intro x hx; simp at hx; subst hx; exact NoT.of N1.out (by decide)) (by intro x hx; simp at hx; subst hx; exact NoT.of N1.out (by decide))
set_option maxRecDepth 100000 in
set_option maxHeartbeats 4000000 in
theorem rest11_any {w : World} {b : Nat} {v : Value} {l : List Int} {st0 : Except (Nat × Nat) Nat} (h : D9 w b v l st0) (op : Int) (h0 : 0 ≤ op) (h1 : op ≤ 65535) (hk : formP op = 11) :
    Calls Tryz.prog 10 #[.pointer (some ⟨b, 0, none⟩), .int .i64 op] w fun en w' => ∃ es st', en = .returned (.agg es) ∧ es.size = 17 ∧ (∀ (j : Nat) (u : Value), es[j]? = some u → u.oneCell' = true) ∧ Fin9 b v l w w' st' ∧ InsA w.heap.size (runI (restF op l) st0) es w' st' := by
  have H : Hid (D9 w b v l st0) := h
  have hb : b < w.heap.size := h.lt
  obtain ⟨R, hR⟩ : ∃ R, runI (restF op l) st0 = R := ⟨_, rfl⟩
  rw [hR]
  have HR : Hid (runI (restF op l) st0 = R) := hR
  obtain ⟨GG, N0, hM⟩ := two_alloc w #[.int .i64 0, .int .u32 0, .int .u32 0, .int .u64 0, .int .u32 0, .int .u32 0, .int .u64 0, .int .i64 0, .int .i64 0, .bool false, .int .i64 0, .slice none 0 0, .slice none 0 0, .bool false, .slice none 0 0, .slice none 0 0, .slice none 0 0] #[.int .i64 op, .int .u32 0, .int .u32 0, .int .u64 0, .int .u32 0, .int .u32 0, .int .u64 0, .int .i64 0, .int .i64 0, .bool false, .int .i64 0, .slice none 0 0, .slice none 0 0, .bool false, .slice none 0 0, .slice none 0 0, .slice none 0 0] 36
  have S0 : Hid (S9I w w b (w.heap.size + 1) v l _ st0 (insA (IN0 op) NILS NILS NILS)) := ⟨⟨_, h⟩, GG.out.turn _, h.grew GG.out, hM, rfl, by omega, es0_one op, GG.out.turn _⟩
  have G0 : Hid (Got w.heap.size l R op [9] true st0 (insA (IN0 op) NILS NILS NILS) ((w.alloc (.cells #[.int .i64 0, .int .u32 0, .int .u32 0, .int .u64 0, .int .u32 0, .int .u32 0, .int .u64 0, .int .i64 0, .int .i64 0, .bool false, .int .i64 0, .slice none 0 0, .slice none 0 0, .bool false, .slice none 0 0, .slice none 0 0, .slice none 0 0] 36)).alloc (.cells #[.int .i64 op, .int .u32 0, .int .u32 0, .int .u64 0, .int .u32 0, .int .u32 0, .int .u64 0, .int .i64 0, .int .i64 0, .bool false, .int .i64 0, .slice none 0 0, .slice none 0 0, .bool false, .slice none 0 0, .slice none 0 0, .slice none 0 0] 36))) := by
    have := got_start (B := w.heap.size) (l := l) (op := op) (st := st0) (w := (w.alloc (.cells #[.int .i64 0, .int .u32 0, .int .u32 0, .int .u64 0, .int .u32 0, .int .u32 0, .int .u64 0, .int .i64 0, .int .i64 0, .bool false, .int .i64 0, .slice none 0 0, .slice none 0 0, .bool false, .slice none 0 0, .slice none 0 0, .slice none 0 0] 36)).alloc (.cells #[.int .i64 op, .int .u32 0, .int .u32 0, .int .u64 0, .int .u32 0, .int .u32 0, .int .u64 0, .int .i64 0, .int .i64 0, .bool false, .int .i64 0, .slice none 0 0, .slice none 0 0, .bool false, .slice none 0 0, .slice none 0 0, .slice none 0 0] 36)) (r := [9]) (by rw [hk]; rfl)
    rw [hR] at this
    exact this
  have HWD : Hid (BA (formD op) = BA [102, 51, 50]) := by show BA (formD op) = _; rw [word_is, hk]; rfl
  clear h hR hM GG
  go_enter Tryz.func10, Tryz.ntmps10
  go_wp2_with (first
    | with_reducible refine stop_store 36 rfl ?_
    | fail)
  unfold Stop
  refine wpList_store_last rfl 36 (.tmp 5) (.tmp 13) rfl #[.int .i64 op, .int .u32 0, .int .u32 0, .int .u64 0, .int .u32 0, .int .u32 0, .int .u64 0, .int .i64 0, .int .i64 0, .bool false, .int .i64 0, .slice none 0 0, .slice none 0 0, .bool false, .slice none 0 0, .slice none 0 0, .slice none 0 0] (by go_simp) (by go_simp) _ (by kernel_rfl) rfl (by simp [Value.oneCell']) ?_
  obtain ⟨M, hMM⟩ : ∃ M, w.heap.size + 1 = M := ⟨_, rfl⟩
  rw [hMM] at S0
  obtain ⟨es0, hes0⟩ : ∃ es0, insA (IN0 op) NILS NILS NILS = es0 := ⟨_, rfl⟩
  rw [hes0] at S0 G0
  generalize (w.alloc (.cells #[.int .i64 0, .int .u32 0, .int .u32 0, .int .u64 0, .int .u32 0, .int .u32 0, .int .u64 0, .int .i64 0, .int .i64 0, .bool false, .int .i64 0, .slice none 0 0, .slice none 0 0, .bool false, .slice none 0 0, .slice none 0 0, .slice none 0 0] 36)).alloc (.cells #[.int .i64 op, .int .u32 0, .int .u32 0, .int .u64 0, .int .u32 0, .int .u32 0, .int .u64 0, .int .i64 0, .int .i64 0, .bool false, .int .i64 0, .slice none 0 0, .slice none 0 0, .bool false, .slice none 0 0, .slice none 0 0, .slice none 0 0] 36) = W0' at *
  clear hes0
  go_wp2_with fail
  refine (refForm_any op (by omega) (by omega) W0').mono ?_
  rintro en W0 ⟨rfl, g0⟩
  have S0 : Hid (S9I w w b M v l W0 st0 es0) := S0.out.grew g0
  have N0 : Hid (W0.heap[w.heap.size]? = some (.cells #[.int .i64 0, .int .u32 0, .int .u32 0, .int .u64 0, .int .u32 0, .int .u32 0, .int .u64 0, .int .i64 0, .int .i64 0, .bool false, .int .i64 0, .slice none 0 0, .slice none 0 0, .bool false, .slice none 0 0, .slice none 0 0, .slice none 0 0] 36 (0, 0))) := (g0.turn []).other N0.out (by simp)
  have G0 : Hid (Got w.heap.size l R op [9] true st0 es0 W0) := by
    obtain ⟨a1, a2, a3⟩ := G0.out
    refine ⟨a1, a2, ?_⟩
    cases st0 with
    | error e => exact a3
    | ok q =>
      obtain ⟨i, lab, ty, ca, e1, e2, r1, r2, r3, e3⟩ := a3
      exact ⟨i, lab, ty, ca, e1, e2, row_turn r1 (g0.turn []) (by simp), row_turn r2 (g0.turn []) (by simp), row_turn r3 (g0.turn []) (by simp), e3⟩
  clear g0
  rw [HWD.out]
  obtain ⟨sx, hsx⟩ : ∃ sx, BA [102, 51, 50] = sx := ⟨_, rfl⟩
  rw [hsx]
  have q0 : (sx.toList == [98, 108, 111, 99, 107]) = false := by rw [← hsx, ba_list]; decide
  have q1 : (sx.toList == [116, 114, 121]) = false := by rw [← hsx, ba_list]; decide
  have q2 : (sx.toList == [120]) = false := by rw [← hsx, ba_list]; decide
  have q3 : (sx.toList == [120, 121]) = false := by rw [← hsx, ba_list]; decide
  have q4 : (sx.toList == [116, 97, 98, 108, 101]) = false := by rw [← hsx, ba_list]; decide
  have q5 : (sx.toList == [115, 101, 108, 101, 99, 116]) = false := by rw [← hsx, ba_list]; decide
  have q6 : (sx.toList == [109, 101, 109]) = false := by rw [← hsx, ba_list]; decide
  have q7 : (sx.toList == [105, 51, 50]) = false := by rw [← hsx, ba_list]; decide
  have q8 : (sx.toList == [105, 54, 52]) = false := by rw [← hsx, ba_list]; decide
  have q9 : (sx.toList == [102, 51, 50]) = true := by rw [← hsx, ba_list]; decide
  clear hsx
  obtain ⟨st0', hst⟩ : ∃ s, s = st0 := ⟨_, rfl⟩
  clear hst st0'
  go_wp2_with fail
  refine (d9fix4_any S0.out.di).mono ?_
  rintro en w1 ⟨y, sx1, rfl, f1, t1⟩
  have SA : Hid (S9I w W0 b M v l w1 sx1 es0) := S0.out.rebase.step f1
  obtain ⟨u3, hu3, _⟩ := SA.out.cell 3 (by decide)
  have z3 := free_of SA.out.io 3
  have TA : Hid (TieI (runI (fixR 4 l) st0) y sx1) := t1
  have TB : Hid (TieI (runI (fun p => mapR (fun n => n) (fixR 4 l p)) st0) y sx1) := by
    rw [runI_map]
    exact t1.map _
  clear f1 t1
  go_wp2_with (first
    | with_reducible refine stop_load 36 rfl ?_
    | fail)
  have FL : Fld9 w W0 b M v l es0 (runI (fun p => mapR (fun n => n) (fixR 4 l p)) st0) (fun y w' es' => es' = es0.setIfInBounds 3 (.int .u64 y)) (.returned (.tuple #[])) (w1.setCell ⟨M, 3, none⟩ (.int .u64 y)) := ⟨rfl, y, sx1, _, SA.out.set 3 _, head_keep (by decide), TB.out, rfl⟩
  have GN := got_step9 (Rf := fun p => mapR (fun n => n) (fixR 4 l p)) (f := 9) (fun i y => { i with n := y }) (by intro i q; simp [fldR, mapR_mapR, labelsR, catchesR]) S0.out.rebase G0.out FL ?hP1
  case hP1 =>
    · rintro i lab ty ca y es' q q' rfl hop hq r1 r2 r3 hes
      exact ⟨lab, ty, ca, hes, hop, r1, r2, r3⟩
  have hW' : ∃ W', W' = w1.setCell ⟨M, 3, none⟩ (.int .u64 y) := ⟨_, rfl⟩
  generalize w1.setCell ⟨M, 3, none⟩ (.int .u64 y) = W1 at *
  obtain ⟨_, st1, es1, s1, g1⟩ := GN
  have S1 : Hid (S9I w W0 b M v l W1 st1 es1) := s1
  have G1 : Hid (Got w.heap.size l R op [] false st1 es1 W1) := g1
  have N1 : Hid (W1.heap[w.heap.size]? = some (.cells #[.int .i64 0, .int .u32 0, .int .u32 0, .int .u64 0, .int .u32 0, .int .u32 0, .int .u64 0, .int .i64 0, .int .i64 0, .bool false, .int .i64 0, .slice none 0 0, .slice none 0 0, .bool false, .slice none 0 0, .slice none 0 0, .slice none 0 0] 36 (0, 0))) := s1.tm.other N0.out (by simp; omega)
  clear FL s1 g1 hW' SA TA
  have GE := got_end G1.out
  unfold Stop
  refine wpList_load_row rfl 36 (.tmp 5) rfl M (by go_simp) 36 es1 (0, 0) _ S1.out.io Tryz.underlying36 rfl (by rw [S1.out.sz]; kernel_rfl) ?_
  go_wp2_with (first
    | with_reducible refine stop_store 36 rfl ?_
    | fail)
  unfold Stop
  refine wpList_store_row rfl 36 (.tmp 4) (.tmp 164) rfl w.heap.size es1 (by go_simp) (by go_simp) 36 _ N1.out (by rw [S1.out.sz]; kernel_rfl) (by rw [S1.out.sz]; rfl) (by rw [Array.all_eq_true]; intro i hi; exact S1.out.one i _ (by simp)) ?_
  go_wp2_with fail
  refine bodyPost_ret (v := .agg es1) ?_ rfl ?_
  · exact results_cell_row Tryz.results10 _ _ w.heap.size 36 _ (0, 0) _ rfl (heap_setRow N1.out) Tryz.underlying36 rfl (by rw [S1.out.sz]; kernel_rfl)
  have tr := S1.out.tn.row (Nat.le_refl _) es1
  refine ⟨es1, st1, rfl, S1.out.sz, S1.out.one, ⟨tr, H.out.of tr (S1.out.di.st.same (setRow_other _ _ _ _ (by omega)))⟩, ?_⟩
  exact GE.turn (Turn.rowSelf _ _ _) (by intro x hx; simp at hx; subst hx; exact NoT.of N1.out (by decide)) (by intro x hx; simp at hx; subst hx; exact NoT.of N1.out (by decide)) (by intro x hx; simp at hx; subst hx; exact NoT.of N1.out (by decide))
set_option maxRecDepth 100000 in
set_option maxHeartbeats 4000000 in
theorem rest12_any {w : World} {b : Nat} {v : Value} {l : List Int} {st0 : Except (Nat × Nat) Nat} (h : D9 w b v l st0) (op : Int) (h0 : 0 ≤ op) (h1 : op ≤ 65535) (hk : formP op = 12) :
    Calls Tryz.prog 10 #[.pointer (some ⟨b, 0, none⟩), .int .i64 op] w fun en w' => ∃ es st', en = .returned (.agg es) ∧ es.size = 17 ∧ (∀ (j : Nat) (u : Value), es[j]? = some u → u.oneCell' = true) ∧ Fin9 b v l w w' st' ∧ InsA w.heap.size (runI (restF op l) st0) es w' st' := by
  have H : Hid (D9 w b v l st0) := h
  have hb : b < w.heap.size := h.lt
  obtain ⟨R, hR⟩ : ∃ R, runI (restF op l) st0 = R := ⟨_, rfl⟩
  rw [hR]
  have HR : Hid (runI (restF op l) st0 = R) := hR
  obtain ⟨GG, N0, hM⟩ := two_alloc w #[.int .i64 0, .int .u32 0, .int .u32 0, .int .u64 0, .int .u32 0, .int .u32 0, .int .u64 0, .int .i64 0, .int .i64 0, .bool false, .int .i64 0, .slice none 0 0, .slice none 0 0, .bool false, .slice none 0 0, .slice none 0 0, .slice none 0 0] #[.int .i64 op, .int .u32 0, .int .u32 0, .int .u64 0, .int .u32 0, .int .u32 0, .int .u64 0, .int .i64 0, .int .i64 0, .bool false, .int .i64 0, .slice none 0 0, .slice none 0 0, .bool false, .slice none 0 0, .slice none 0 0, .slice none 0 0] 36
  have S0 : Hid (S9I w w b (w.heap.size + 1) v l _ st0 (insA (IN0 op) NILS NILS NILS)) := ⟨⟨_, h⟩, GG.out.turn _, h.grew GG.out, hM, rfl, by omega, es0_one op, GG.out.turn _⟩
  have G0 : Hid (Got w.heap.size l R op [10] true st0 (insA (IN0 op) NILS NILS NILS) ((w.alloc (.cells #[.int .i64 0, .int .u32 0, .int .u32 0, .int .u64 0, .int .u32 0, .int .u32 0, .int .u64 0, .int .i64 0, .int .i64 0, .bool false, .int .i64 0, .slice none 0 0, .slice none 0 0, .bool false, .slice none 0 0, .slice none 0 0, .slice none 0 0] 36)).alloc (.cells #[.int .i64 op, .int .u32 0, .int .u32 0, .int .u64 0, .int .u32 0, .int .u32 0, .int .u64 0, .int .i64 0, .int .i64 0, .bool false, .int .i64 0, .slice none 0 0, .slice none 0 0, .bool false, .slice none 0 0, .slice none 0 0, .slice none 0 0] 36))) := by
    have := got_start (B := w.heap.size) (l := l) (op := op) (st := st0) (w := (w.alloc (.cells #[.int .i64 0, .int .u32 0, .int .u32 0, .int .u64 0, .int .u32 0, .int .u32 0, .int .u64 0, .int .i64 0, .int .i64 0, .bool false, .int .i64 0, .slice none 0 0, .slice none 0 0, .bool false, .slice none 0 0, .slice none 0 0, .slice none 0 0] 36)).alloc (.cells #[.int .i64 op, .int .u32 0, .int .u32 0, .int .u64 0, .int .u32 0, .int .u32 0, .int .u64 0, .int .i64 0, .int .i64 0, .bool false, .int .i64 0, .slice none 0 0, .slice none 0 0, .bool false, .slice none 0 0, .slice none 0 0, .slice none 0 0] 36)) (r := [10]) (by rw [hk]; rfl)
    rw [hR] at this
    exact this
  have HWD : Hid (BA (formD op) = BA [102, 54, 52]) := by show BA (formD op) = _; rw [word_is, hk]; rfl
  clear h hR hM GG
  go_enter Tryz.func10, Tryz.ntmps10
  go_wp2_with (first
    | with_reducible refine stop_store 36 rfl ?_
    | fail)
  unfold Stop
  refine wpList_store_last rfl 36 (.tmp 5) (.tmp 13) rfl #[.int .i64 op, .int .u32 0, .int .u32 0, .int .u64 0, .int .u32 0, .int .u32 0, .int .u64 0, .int .i64 0, .int .i64 0, .bool false, .int .i64 0, .slice none 0 0, .slice none 0 0, .bool false, .slice none 0 0, .slice none 0 0, .slice none 0 0] (by go_simp) (by go_simp) _ (by kernel_rfl) rfl (by simp [Value.oneCell']) ?_
  obtain ⟨M, hMM⟩ : ∃ M, w.heap.size + 1 = M := ⟨_, rfl⟩
  rw [hMM] at S0
  obtain ⟨es0, hes0⟩ : ∃ es0, insA (IN0 op) NILS NILS NILS = es0 := ⟨_, rfl⟩
  rw [hes0] at S0 G0
  generalize (w.alloc (.cells #[.int .i64 0, .int .u32 0, .int .u32 0, .int .u64 0, .int .u32 0, .int .u32 0, .int .u64 0, .int .i64 0, .int .i64 0, .bool false, .int .i64 0, .slice none 0 0, .slice none 0 0, .bool false, .slice none 0 0, .slice none 0 0, .slice none 0 0] 36)).alloc (.cells #[.int .i64 op, .int .u32 0, .int .u32 0, .int .u64 0, .int .u32 0, .int .u32 0, .int .u64 0, .int .i64 0, .int .i64 0, .bool false, .int .i64 0, .slice none 0 0, .slice none 0 0, .bool false, .slice none 0 0, .slice none 0 0, .slice none 0 0] 36) = W0' at *
  clear hes0
  go_wp2_with fail
  refine (refForm_any op (by omega) (by omega) W0').mono ?_
  rintro en W0 ⟨rfl, g0⟩
  have S0 : Hid (S9I w w b M v l W0 st0 es0) := S0.out.grew g0
  have N0 : Hid (W0.heap[w.heap.size]? = some (.cells #[.int .i64 0, .int .u32 0, .int .u32 0, .int .u64 0, .int .u32 0, .int .u32 0, .int .u64 0, .int .i64 0, .int .i64 0, .bool false, .int .i64 0, .slice none 0 0, .slice none 0 0, .bool false, .slice none 0 0, .slice none 0 0, .slice none 0 0] 36 (0, 0))) := (g0.turn []).other N0.out (by simp)
  have G0 : Hid (Got w.heap.size l R op [10] true st0 es0 W0) := by
    obtain ⟨a1, a2, a3⟩ := G0.out
    refine ⟨a1, a2, ?_⟩
    cases st0 with
    | error e => exact a3
    | ok q =>
      obtain ⟨i, lab, ty, ca, e1, e2, r1, r2, r3, e3⟩ := a3
      exact ⟨i, lab, ty, ca, e1, e2, row_turn r1 (g0.turn []) (by simp), row_turn r2 (g0.turn []) (by simp), row_turn r3 (g0.turn []) (by simp), e3⟩
  clear g0
  rw [HWD.out]
  obtain ⟨sx, hsx⟩ : ∃ sx, BA [102, 54, 52] = sx := ⟨_, rfl⟩
  rw [hsx]
  have q0 : (sx.toList == [98, 108, 111, 99, 107]) = false := by rw [← hsx, ba_list]; decide
  have q1 : (sx.toList == [116, 114, 121]) = false := by rw [← hsx, ba_list]; decide
  have q2 : (sx.toList == [120]) = false := by rw [← hsx, ba_list]; decide
  have q3 : (sx.toList == [120, 121]) = false := by rw [← hsx, ba_list]; decide
  have q4 : (sx.toList == [116, 97, 98, 108, 101]) = false := by rw [← hsx, ba_list]; decide
  have q5 : (sx.toList == [115, 101, 108, 101, 99, 116]) = false := by rw [← hsx, ba_list]; decide
  have q6 : (sx.toList == [109, 101, 109]) = false := by rw [← hsx, ba_list]; decide
  have q7 : (sx.toList == [105, 51, 50]) = false := by rw [← hsx, ba_list]; decide
  have q8 : (sx.toList == [105, 54, 52]) = false := by rw [← hsx, ba_list]; decide
  have q9 : (sx.toList == [102, 51, 50]) = false := by rw [← hsx, ba_list]; decide
  have q10 : (sx.toList == [102, 54, 52]) = true := by rw [← hsx, ba_list]; decide
  clear hsx
  obtain ⟨st0', hst⟩ : ∃ s, s = st0 := ⟨_, rfl⟩
  clear hst st0'
  go_wp2_with fail
  refine (d9fix8_any S0.out.di).mono ?_
  rintro en w1 ⟨y, sx1, rfl, f1, t1⟩
  have SA : Hid (S9I w W0 b M v l w1 sx1 es0) := S0.out.rebase.step f1
  obtain ⟨u3, hu3, _⟩ := SA.out.cell 3 (by decide)
  have z3 := free_of SA.out.io 3
  have TA : Hid (TieI (runI (fixR 8 l) st0) y sx1) := t1
  have TB : Hid (TieI (runI (fun p => mapR (fun n => n) (fixR 8 l p)) st0) y sx1) := by
    rw [runI_map]
    exact t1.map _
  clear f1 t1
  go_wp2_with (first
    | with_reducible refine stop_load 36 rfl ?_
    | fail)
  have FL : Fld9 w W0 b M v l es0 (runI (fun p => mapR (fun n => n) (fixR 8 l p)) st0) (fun y w' es' => es' = es0.setIfInBounds 3 (.int .u64 y)) (.returned (.tuple #[])) (w1.setCell ⟨M, 3, none⟩ (.int .u64 y)) := ⟨rfl, y, sx1, _, SA.out.set 3 _, head_keep (by decide), TB.out, rfl⟩
  have GN := got_step9 (Rf := fun p => mapR (fun n => n) (fixR 8 l p)) (f := 10) (fun i y => { i with n := y }) (by intro i q; simp [fldR, mapR_mapR, labelsR, catchesR]) S0.out.rebase G0.out FL ?hP1
  case hP1 =>
    · rintro i lab ty ca y es' q q' rfl hop hq r1 r2 r3 hes
      exact ⟨lab, ty, ca, hes, hop, r1, r2, r3⟩
  have hW' : ∃ W', W' = w1.setCell ⟨M, 3, none⟩ (.int .u64 y) := ⟨_, rfl⟩
  generalize w1.setCell ⟨M, 3, none⟩ (.int .u64 y) = W1 at *
  obtain ⟨_, st1, es1, s1, g1⟩ := GN
  have S1 : Hid (S9I w W0 b M v l W1 st1 es1) := s1
  have G1 : Hid (Got w.heap.size l R op [] false st1 es1 W1) := g1
  have N1 : Hid (W1.heap[w.heap.size]? = some (.cells #[.int .i64 0, .int .u32 0, .int .u32 0, .int .u64 0, .int .u32 0, .int .u32 0, .int .u64 0, .int .i64 0, .int .i64 0, .bool false, .int .i64 0, .slice none 0 0, .slice none 0 0, .bool false, .slice none 0 0, .slice none 0 0, .slice none 0 0] 36 (0, 0))) := s1.tm.other N0.out (by simp; omega)
  clear FL s1 g1 hW' SA TA
  have GE := got_end G1.out
  unfold Stop
  refine wpList_load_row rfl 36 (.tmp 5) rfl M (by go_simp) 36 es1 (0, 0) _ S1.out.io Tryz.underlying36 rfl (by rw [S1.out.sz]; kernel_rfl) ?_
  go_wp2_with (first
    | with_reducible refine stop_store 36 rfl ?_
    | fail)
  unfold Stop
  refine wpList_store_row rfl 36 (.tmp 4) (.tmp 164) rfl w.heap.size es1 (by go_simp) (by go_simp) 36 _ N1.out (by rw [S1.out.sz]; kernel_rfl) (by rw [S1.out.sz]; rfl) (by rw [Array.all_eq_true]; intro i hi; exact S1.out.one i _ (by simp)) ?_
  go_wp2_with fail
  refine bodyPost_ret (v := .agg es1) ?_ rfl ?_
  · exact results_cell_row Tryz.results10 _ _ w.heap.size 36 _ (0, 0) _ rfl (heap_setRow N1.out) Tryz.underlying36 rfl (by rw [S1.out.sz]; kernel_rfl)
  have tr := S1.out.tn.row (Nat.le_refl _) es1
  refine ⟨es1, st1, rfl, S1.out.sz, S1.out.one, ⟨tr, H.out.of tr (S1.out.di.st.same (setRow_other _ _ _ _ (by omega)))⟩, ?_⟩
  exact GE.turn (Turn.rowSelf _ _ _) (by intro x hx; simp at hx; subst hx; exact NoT.of N1.out (by decide)) (by intro x hx; simp at hx; subst hx; exact NoT.of N1.out (by decide)) (by intro x hx; simp at hx; subst hx; exact NoT.of N1.out (by decide))
set_option maxRecDepth 100000 in
set_option maxHeartbeats 4000000 in
theorem rest13_any {w : World} {b : Nat} {v : Value} {l : List Int} {st0 : Except (Nat × Nat) Nat} (h : D9 w b v l st0) (op : Int) (h0 : 0 ≤ op) (h1 : op ≤ 65535) (hk : formP op = 13) :
    Calls Tryz.prog 10 #[.pointer (some ⟨b, 0, none⟩), .int .i64 op] w fun en w' => ∃ es st', en = .returned (.agg es) ∧ es.size = 17 ∧ (∀ (j : Nat) (u : Value), es[j]? = some u → u.oneCell' = true) ∧ Fin9 b v l w w' st' ∧ InsA w.heap.size (runI (restF op l) st0) es w' st' := by
  have H : Hid (D9 w b v l st0) := h
  have hb : b < w.heap.size := h.lt
  obtain ⟨R, hR⟩ : ∃ R, runI (restF op l) st0 = R := ⟨_, rfl⟩
  rw [hR]
  have HR : Hid (runI (restF op l) st0 = R) := hR
  obtain ⟨GG, N0, hM⟩ := two_alloc w #[.int .i64 0, .int .u32 0, .int .u32 0, .int .u64 0, .int .u32 0, .int .u32 0, .int .u64 0, .int .i64 0, .int .i64 0, .bool false, .int .i64 0, .slice none 0 0, .slice none 0 0, .bool false, .slice none 0 0, .slice none 0 0, .slice none 0 0] #[.int .i64 op, .int .u32 0, .int .u32 0, .int .u64 0, .int .u32 0, .int .u32 0, .int .u64 0, .int .i64 0, .int .i64 0, .bool false, .int .i64 0, .slice none 0 0, .slice none 0 0, .bool false, .slice none 0 0, .slice none 0 0, .slice none 0 0] 36
  have S0 : Hid (S9I w w b (w.heap.size + 1) v l _ st0 (insA (IN0 op) NILS NILS NILS)) := ⟨⟨_, h⟩, GG.out.turn _, h.grew GG.out, hM, rfl, by omega, es0_one op, GG.out.turn _⟩
  have G0 : Hid (Got w.heap.size l R op [11] true st0 (insA (IN0 op) NILS NILS NILS) ((w.alloc (.cells #[.int .i64 0, .int .u32 0, .int .u32 0, .int .u64 0, .int .u32 0, .int .u32 0, .int .u64 0, .int .i64 0, .int .i64 0, .bool false, .int .i64 0, .slice none 0 0, .slice none 0 0, .bool false, .slice none 0 0, .slice none 0 0, .slice none 0 0] 36)).alloc (.cells #[.int .i64 op, .int .u32 0, .int .u32 0, .int .u64 0, .int .u32 0, .int .u32 0, .int .u64 0, .int .i64 0, .int .i64 0, .bool false, .int .i64 0, .slice none 0 0, .slice none 0 0, .bool false, .slice none 0 0, .slice none 0 0, .slice none 0 0] 36))) := by
    have := got_start (B := w.heap.size) (l := l) (op := op) (st := st0) (w := (w.alloc (.cells #[.int .i64 0, .int .u32 0, .int .u32 0, .int .u64 0, .int .u32 0, .int .u32 0, .int .u64 0, .int .i64 0, .int .i64 0, .bool false, .int .i64 0, .slice none 0 0, .slice none 0 0, .bool false, .slice none 0 0, .slice none 0 0, .slice none 0 0] 36)).alloc (.cells #[.int .i64 op, .int .u32 0, .int .u32 0, .int .u64 0, .int .u32 0, .int .u32 0, .int .u64 0, .int .i64 0, .int .i64 0, .bool false, .int .i64 0, .slice none 0 0, .slice none 0 0, .bool false, .slice none 0 0, .slice none 0 0, .slice none 0 0] 36)) (r := [11]) (by rw [hk]; rfl)
    rw [hR] at this
    exact this
  have HWD : Hid (BA (formD op) = BA [104, 101, 97, 112]) := by show BA (formD op) = _; rw [word_is, hk]; rfl
  clear h hR hM GG
  go_enter Tryz.func10, Tryz.ntmps10
  go_wp2_with (first
    | with_reducible refine stop_store 36 rfl ?_
    | fail)
  unfold Stop
  refine wpList_store_last rfl 36 (.tmp 5) (.tmp 13) rfl #[.int .i64 op, .int .u32 0, .int .u32 0, .int .u64 0, .int .u32 0, .int .u32 0, .int .u64 0, .int .i64 0, .int .i64 0, .bool false, .int .i64 0, .slice none 0 0, .slice none 0 0, .bool false, .slice none 0 0, .slice none 0 0, .slice none 0 0] (by go_simp) (by go_simp) _ (by kernel_rfl) rfl (by simp [Value.oneCell']) ?_
  obtain ⟨M, hMM⟩ : ∃ M, w.heap.size + 1 = M := ⟨_, rfl⟩
  rw [hMM] at S0
  obtain ⟨es0, hes0⟩ : ∃ es0, insA (IN0 op) NILS NILS NILS = es0 := ⟨_, rfl⟩
  rw [hes0] at S0 G0
  generalize (w.alloc (.cells #[.int .i64 0, .int .u32 0, .int .u32 0, .int .u64 0, .int .u32 0, .int .u32 0, .int .u64 0, .int .i64 0, .int .i64 0, .bool false, .int .i64 0, .slice none 0 0, .slice none 0 0, .bool false, .slice none 0 0, .slice none 0 0, .slice none 0 0] 36)).alloc (.cells #[.int .i64 op, .int .u32 0, .int .u32 0, .int .u64 0, .int .u32 0, .int .u32 0, .int .u64 0, .int .i64 0, .int .i64 0, .bool false, .int .i64 0, .slice none 0 0, .slice none 0 0, .bool false, .slice none 0 0, .slice none 0 0, .slice none 0 0] 36) = W0' at *
  clear hes0
  go_wp2_with fail
  refine (refForm_any op (by omega) (by omega) W0').mono ?_
  rintro en W0 ⟨rfl, g0⟩
  have S0 : Hid (S9I w w b M v l W0 st0 es0) := S0.out.grew g0
  have N0 : Hid (W0.heap[w.heap.size]? = some (.cells #[.int .i64 0, .int .u32 0, .int .u32 0, .int .u64 0, .int .u32 0, .int .u32 0, .int .u64 0, .int .i64 0, .int .i64 0, .bool false, .int .i64 0, .slice none 0 0, .slice none 0 0, .bool false, .slice none 0 0, .slice none 0 0, .slice none 0 0] 36 (0, 0))) := (g0.turn []).other N0.out (by simp)
  have G0 : Hid (Got w.heap.size l R op [11] true st0 es0 W0) := by
    obtain ⟨a1, a2, a3⟩ := G0.out
    refine ⟨a1, a2, ?_⟩
    cases st0 with
    | error e => exact a3
    | ok q =>
      obtain ⟨i, lab, ty, ca, e1, e2, r1, r2, r3, e3⟩ := a3
      exact ⟨i, lab, ty, ca, e1, e2, row_turn r1 (g0.turn []) (by simp), row_turn r2 (g0.turn []) (by simp), row_turn r3 (g0.turn []) (by simp), e3⟩
  clear g0
  rw [HWD.out]
  obtain ⟨sx, hsx⟩ : ∃ sx, BA [104, 101, 97, 112] = sx := ⟨_, rfl⟩
  rw [hsx]
  have q0 : (sx.toList == [98, 108, 111, 99, 107]) = false := by rw [← hsx, ba_list]; decide
  have q1 : (sx.toList == [116, 114, 121]) = false := by rw [← hsx, ba_list]; decide
  have q2 : (sx.toList == [120]) = false := by rw [← hsx, ba_list]; decide
  have q3 : (sx.toList == [120, 121]) = false := by rw [← hsx, ba_list]; decide
  have q4 : (sx.toList == [116, 97, 98, 108, 101]) = false := by rw [← hsx, ba_list]; decide
  have q5 : (sx.toList == [115, 101, 108, 101, 99, 116]) = false := by rw [← hsx, ba_list]; decide
  have q6 : (sx.toList == [109, 101, 109]) = false := by rw [← hsx, ba_list]; decide
  have q7 : (sx.toList == [105, 51, 50]) = false := by rw [← hsx, ba_list]; decide
  have q8 : (sx.toList == [105, 54, 52]) = false := by rw [← hsx, ba_list]; decide
  have q9 : (sx.toList == [102, 51, 50]) = false := by rw [← hsx, ba_list]; decide
  have q10 : (sx.toList == [102, 54, 52]) = false := by rw [← hsx, ba_list]; decide
  have q11 : (sx.toList == [104, 101, 97, 112]) = true := by rw [← hsx, ba_list]; decide
  clear hsx
  obtain ⟨st0', hst⟩ : ∃ s, s = st0 := ⟨_, rfl⟩
  clear hst st0'
  go_wp2_with fail
  refine (d9heap_any S0.out.di).mono ?_
  rintro en w1 ⟨y, sx1, rfl, f1, t1⟩
  have SA : Hid (S9I w W0 b M v l w1 sx1 es0) := S0.out.rebase.step f1
  have TA : Hid (TieI (runI (heapR l) st0) y sx1) := t1
  clear f1 t1
  go_wp2_with fail
  refine (dref_any true y w1).mono ?_
  rintro en w1b ⟨rfl, gb⟩
  have SB : Hid (S9I w W0 b M v l (w1b.alloc (.cells #[.int .i64 5, .bool true, .int .i64 y] 28)) sx1 es0) := (SA.out.grew gb).grew ((Grew.refl _).alloc _)
  have RB : Hid (RowV w.heap.size (w1b.alloc (.cells #[.int .i64 5, .bool true, .int .i64 y] 28)) (.slice (some ⟨w1b.heap.size, 0, none⟩) 1 1) [⟨5, true, y⟩]) := row_low (rowV_one w1b ⟨5, true, y⟩) (SA.out.grew gb).low
  obtain ⟨u15, hu15, _⟩ := SB.out.cell 15 (by decide)
  have z15 := free_of SB.out.io 15
  clear gb
  go_wp2_with (first
    | with_reducible refine stop_load 36 rfl ?_
    | fail)
  have FL : Fld9 w W0 b M v l es0 (runI (heapR l) st0) (fun y w' es' => ∃ rv, RowV w.heap.size w' rv [⟨5, true, y⟩] ∧ es' = es0.setIfInBounds 15 rv) (.returned (.tuple #[])) ((w1b.alloc (.cells #[.int .i64 5, .bool true, .int .i64 y] 28)).setCell ⟨M, 15, none⟩ (.slice (some ⟨w1b.heap.size, 0, none⟩) 1 1)) := ⟨rfl, y, sx1, _, SB.out.set 15 _, head_keep (by decide), TA.out, .slice (some ⟨w1b.heap.size, 0, none⟩) 1 1, row_set RB.out (NoT.of SB.out.io (by decide)) _, rfl⟩
  have GN := got_step9 (Rf := heapR l) (f := 11) (fun i y => { i with types := [⟨5, true, y⟩] }) (by intro i q; simp [fldR, mapR_mapR, labelsR, catchesR]) S0.out.rebase G0.out FL ?hP1
  case hP1 =>
    · rintro i lab ty ca y es' q q' rfl hop hq r1 r2 r3 ⟨rv, hr, hes⟩
      exact ⟨lab, rv, ca, hes, hop, r1, hr, r3⟩
  have hW' : ∃ W', W' = (w1b.alloc (.cells #[.int .i64 5, .bool true, .int .i64 y] 28)).setCell ⟨M, 15, none⟩ (.slice (some ⟨w1b.heap.size, 0, none⟩) 1 1) := ⟨_, rfl⟩
  generalize (w1b.alloc (.cells #[.int .i64 5, .bool true, .int .i64 y] 28)).setCell ⟨M, 15, none⟩ (.slice (some ⟨w1b.heap.size, 0, none⟩) 1 1) = W1 at *
  obtain ⟨_, st1, es1, s1, g1⟩ := GN
  have S1 : Hid (S9I w W0 b M v l W1 st1 es1) := s1
  have G1 : Hid (Got w.heap.size l R op [] false st1 es1 W1) := g1
  have N1 : Hid (W1.heap[w.heap.size]? = some (.cells #[.int .i64 0, .int .u32 0, .int .u32 0, .int .u64 0, .int .u32 0, .int .u32 0, .int .u64 0, .int .i64 0, .int .i64 0, .bool false, .int .i64 0, .slice none 0 0, .slice none 0 0, .bool false, .slice none 0 0, .slice none 0 0, .slice none 0 0] 36 (0, 0))) := s1.tm.other N0.out (by simp; omega)
  clear RB SB FL s1 g1 hW' SA TA
  have GE := got_end G1.out
  unfold Stop
  refine wpList_load_row rfl 36 (.tmp 5) rfl M (by go_simp) 36 es1 (0, 0) _ S1.out.io Tryz.underlying36 rfl (by rw [S1.out.sz]; kernel_rfl) ?_
  go_wp2_with (first
    | with_reducible refine stop_store 36 rfl ?_
    | fail)
  unfold Stop
  refine wpList_store_row rfl 36 (.tmp 4) (.tmp 164) rfl w.heap.size es1 (by go_simp) (by go_simp) 36 _ N1.out (by rw [S1.out.sz]; kernel_rfl) (by rw [S1.out.sz]; rfl) (by rw [Array.all_eq_true]; intro i hi; exact S1.out.one i _ (by simp)) ?_
  go_wp2_with fail
  refine bodyPost_ret (v := .agg es1) ?_ rfl ?_
  · exact results_cell_row Tryz.results10 _ _ w.heap.size 36 _ (0, 0) _ rfl (heap_setRow N1.out) Tryz.underlying36 rfl (by rw [S1.out.sz]; kernel_rfl)
  have tr := S1.out.tn.row (Nat.le_refl _) es1
  refine ⟨es1, st1, rfl, S1.out.sz, S1.out.one, ⟨tr, H.out.of tr (S1.out.di.st.same (setRow_other _ _ _ _ (by omega)))⟩, ?_⟩
  exact GE.turn (Turn.rowSelf _ _ _) (by intro x hx; simp at hx; subst hx; exact NoT.of N1.out (by decide)) (by intro x hx; simp at hx; subst hx; exact NoT.of N1.out (by decide)) (by intro x hx; simp at hx; subst hx; exact NoT.of N1.out (by decide))
end Go.Proofs.YtohapnninjdlfaaGreatDoor
