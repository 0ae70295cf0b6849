/-
  The document's reading of instructions: tables and selects; no statement is proved here.
-/
import Derived.Test.YtohapnninjdlfaaGreatDoorD9m
namespace Go.Proofs.YtohapnninjdlfaaGreatDoor
open Go.RowKit
set_option linter.unusedVariables false
set_option linter.unusedSimpArgs false
set_option linter.constructorNameAsVariable false

set_option maxRecDepth 100000 in
set_option maxHeartbeats 4000000 in
theorem rest6_any {w : World} {b : Nat} {v : Value} {l : List Int} {st0 : Except (Nat × Nat) Nat} (h : D9 w b v l st0) (op : Int) (h0 : 0 ≤ op) (h1 : op ≤ 65535) (hk : formP op = 6) :
    Calls Tryz.prog 10 #[.pointer (some ⟨b, 0, none⟩), .int .i64 op] w fun en w' => ∃ es st', en = .returned (.agg es) ∧ es.size = 17 ∧ (∀ (j : Nat) (u : Value), es[j]? = some u → u.oneCell' = true) ∧ Fin9 b v l w w' st' ∧ InsA w.heap.size (runI (restF op l) st0) es w' st' := by
  have H : Hid (D9 w b v l st0) := h
  have hb : b < w.heap.size := h.lt
  obtain ⟨R, hR⟩ : ∃ R, runI (restF op l) st0 = R := ⟨_, rfl⟩
  rw [hR]
  have HR : Hid (runI (restF op l) st0 = R) := hR
  obtain ⟨GG, N0, hM⟩ := two_alloc w #[.int .i64 0, .int .u32 0, .int .u32 0, .int .u64 0, .int .u32 0, .int .u32 0, .int .u64 0, .int .i64 0, .int .i64 0, .bool false, .int .i64 0, .slice none 0 0, .slice none 0 0, .bool false, .slice none 0 0, .slice none 0 0, .slice none 0 0] #[.int .i64 op, .int .u32 0, .int .u32 0, .int .u64 0, .int .u32 0, .int .u32 0, .int .u64 0, .int .i64 0, .int .i64 0, .bool false, .int .i64 0, .slice none 0 0, .slice none 0 0, .bool false, .slice none 0 0, .slice none 0 0, .slice none 0 0] 36
  have S0 : Hid (S9I w w b (w.heap.size + 1) v l _ st0 (insA (IN0 op) NILS NILS NILS)) := ⟨⟨_, h⟩, GG.out.turn _, h.grew GG.out, hM, rfl, by omega, es0_one op, GG.out.turn _⟩
  have G0 : Hid (Got w.heap.size l R op [4, 2] true st0 (insA (IN0 op) NILS NILS NILS) ((w.alloc (.cells #[.int .i64 0, .int .u32 0, .int .u32 0, .int .u64 0, .int .u32 0, .int .u32 0, .int .u64 0, .int .i64 0, .int .i64 0, .bool false, .int .i64 0, .slice none 0 0, .slice none 0 0, .bool false, .slice none 0 0, .slice none 0 0, .slice none 0 0] 36)).alloc (.cells #[.int .i64 op, .int .u32 0, .int .u32 0, .int .u64 0, .int .u32 0, .int .u32 0, .int .u64 0, .int .i64 0, .int .i64 0, .bool false, .int .i64 0, .slice none 0 0, .slice none 0 0, .bool false, .slice none 0 0, .slice none 0 0, .slice none 0 0] 36))) := by
    have := got_start (B := w.heap.size) (l := l) (op := op) (st := st0) (w := (w.alloc (.cells #[.int .i64 0, .int .u32 0, .int .u32 0, .int .u64 0, .int .u32 0, .int .u32 0, .int .u64 0, .int .i64 0, .int .i64 0, .bool false, .int .i64 0, .slice none 0 0, .slice none 0 0, .bool false, .slice none 0 0, .slice none 0 0, .slice none 0 0] 36)).alloc (.cells #[.int .i64 op, .int .u32 0, .int .u32 0, .int .u64 0, .int .u32 0, .int .u32 0, .int .u64 0, .int .i64 0, .int .i64 0, .bool false, .int .i64 0, .slice none 0 0, .slice none 0 0, .bool false, .slice none 0 0, .slice none 0 0, .slice none 0 0] 36)) (r := [4, 2]) (by rw [hk]; rfl)
    rw [hR] at this
    exact this
  have HWD : Hid (BA (formD op) = BA [116, 97, 98, 108, 101]) := by show BA (formD op) = _; rw [word_is, hk]; rfl
  clear h hR hM GG
  go_enter Tryz.func10, Tryz.ntmps10
  go_wp2_with (first
    | with_reducible refine stop_store 36 rfl ?_
    | fail)
  unfold Stop
  refine wpList_store_last rfl 36 (.tmp 5) (.tmp 13) rfl #[.int .i64 op, .int .u32 0, .int .u32 0, .int .u64 0, .int .u32 0, .int .u32 0, .int .u64 0, .int .i64 0, .int .i64 0, .bool false, .int .i64 0, .slice none 0 0, .slice none 0 0, .bool false, .slice none 0 0, .slice none 0 0, .slice none 0 0] (by go_simp) (by go_simp) _ (by kernel_rfl) rfl (by simp [Value.oneCell']) ?_
  obtain ⟨M, hMM⟩ : ∃ M, w.heap.size + 1 = M := ⟨_, rfl⟩
  rw [hMM] at S0
  obtain ⟨es0, hes0⟩ : ∃ es0, insA (IN0 op) NILS NILS NILS = es0 := ⟨_, rfl⟩
  rw [hes0] at S0 G0
  generalize (w.alloc (.cells #[.int .i64 0, .int .u32 0, .int .u32 0, .int .u64 0, .int .u32 0, .int .u32 0, .int .u64 0, .int .i64 0, .int .i64 0, .bool false, .int .i64 0, .slice none 0 0, .slice none 0 0, .bool false, .slice none 0 0, .slice none 0 0, .slice none 0 0] 36)).alloc (.cells #[.int .i64 op, .int .u32 0, .int .u32 0, .int .u64 0, .int .u32 0, .int .u32 0, .int .u64 0, .int .i64 0, .int .i64 0, .bool false, .int .i64 0, .slice none 0 0, .slice none 0 0, .bool false, .slice none 0 0, .slice none 0 0, .slice none 0 0] 36) = W0' at *
  clear hes0
  go_wp2_with fail
  refine (refForm_any op (by omega) (by omega) W0').mono ?_
  rintro en W0 ⟨rfl, g0⟩
  have S0 : Hid (S9I w w b M v l W0 st0 es0) := S0.out.grew g0
  have N0 : Hid (W0.heap[w.heap.size]? = some (.cells #[.int .i64 0, .int .u32 0, .int .u32 0, .int .u64 0, .int .u32 0, .int .u32 0, .int .u64 0, .int .i64 0, .int .i64 0, .bool false, .int .i64 0, .slice none 0 0, .slice none 0 0, .bool false, .slice none 0 0, .slice none 0 0, .slice none 0 0] 36 (0, 0))) := (g0.turn []).other N0.out (by simp)
  have G0 : Hid (Got w.heap.size l R op [4, 2] true st0 es0 W0) := by
    obtain ⟨a1, a2, a3⟩ := G0.out
    refine ⟨a1, a2, ?_⟩
    cases st0 with
    | error e => exact a3
    | ok q =>
      obtain ⟨i, lab, ty, ca, e1, e2, r1, r2, r3, e3⟩ := a3
      exact ⟨i, lab, ty, ca, e1, e2, row_turn r1 (g0.turn []) (by simp), row_turn r2 (g0.turn []) (by simp), row_turn r3 (g0.turn []) (by simp), e3⟩
  clear g0
  rw [HWD.out]
  obtain ⟨sx, hsx⟩ : ∃ sx, BA [116, 97, 98, 108, 101] = sx := ⟨_, rfl⟩
  rw [hsx]
  have q0 : (sx.toList == [98, 108, 111, 99, 107]) = false := by rw [← hsx, ba_list]; decide
  have q1 : (sx.toList == [116, 114, 121]) = false := by rw [← hsx, ba_list]; decide
  have q2 : (sx.toList == [120]) = false := by rw [← hsx, ba_list]; decide
  have q3 : (sx.toList == [120, 121]) = false := by rw [← hsx, ba_list]; decide
  have q4 : (sx.toList == [116, 97, 98, 108, 101]) = true := by rw [← hsx, ba_list]; decide
  clear hsx
  obtain ⟨st0', hst⟩ : ∃ s, s = st0 := ⟨_, rfl⟩
  clear hst st0'
  have hes : es0[14]? = some NILS := by rw [G0.out.2.1 rfl]; rfl
  go_wp2_with fail
  refine (d9few_any S0.out.di 65536 (by decide)).mono ?_
  rintro en w1 ⟨n, sx1, rfl, f1, hn, t1⟩
  obtain ⟨RL, hRL⟩ : ∃ RL, runI (listR 65536 (u32R l) l) st0 = RL := ⟨_, rfl⟩
  have HRL : Hid (runI (listR 65536 (u32R l) l) st0 = RL) := hRL
  have M0 : Hid (ML RL (u32R l) n.toNat 0 [] sx1) := by have := ML.begin (rd := u32R l) (m := 65536) t1 hn (by decide); rw [← hRL]; exact this
  have SA1 : Hid (S9I w W0 b M v l w1 sx1 (es0.setIfInBounds 14 NILS)) := by rw [set_same hes]; exact S0.out.rebase.step f1
  have HN : Hid (∀ q, sx1 = .ok q → 0 ≤ n) := fun q hq => (hn q hq).1
  have hs1 : w.heap.size ≤ w1.heap.size := SA1.out.low
  have hMW : M < W0.heap.size := lt_of_obj S0.out.io
  have hwW : w.heap.size ≤ W0.heap.size := S0.out.low
  clear f1 hn t1 hes hRL
  go_wp2_with fail
  go_loopw [7] (fun n_ wr => ∃ (k : Nat) (acc : List Int) (stk : Except (Nat × Nat) Nat) (v_ : Value), n_ = .int .i64 k ∧ acc.length = k ∧ k ≤ 65536 ∧ Hid (RowU W0.heap.size wr v_ acc) ∧ Hid (S9I w W0 b M v l wr stk (es0.setIfInBounds 14 v_)) ∧ Hid (∀ q, stk = .ok q → 0 ≤ n ∧ k ≤ n.toNat) ∧ Hid (ML RL (u32R l) n.toNat k acc stk)) (fun n_ _ => n.toNat - (intOf n_).toNat)
  case atStart => exact ⟨0, [], sx1, NILS, rfl, rfl, by omega, RowU.nil _ _, SA1, fun q hq => ⟨HN.out q hq, Nat.zero_le _⟩, M0⟩
  case round =>
    obtain ⟨k, acc, stk, v_, rfl, hacc, hk6, RR, SR, HB, HE⟩ := hrel
    subst hacc
    obtain ⟨aa, cc, hv⟩ := row_one RR.out
    subst hv
    cases stk with
    | error z =>
      obtain ⟨f, e⟩ := z
      obtain ⟨k3, de⟩ := SR.out.di.e1
      obtain ⟨stk, hstk⟩ : ∃ s : Except (Nat × Nat) Nat, s = .error (f, e) := ⟨_, rfl⟩
      have TE : Hid (TieI (runI (listR 65536 (u32R l) l) st0) acc stk) := by rw [HRL.out, hstk]; exact HE.out
      rw [← hstk] at SR
      clear hstk
      by_cases hkn : (acc.length : Int) < n
      · have d4 : decide ((acc.length : Int) < n) = true := by simpa using hkn
        clear hkn HE HB M0 SA1
        have SA : Hid True := trivial
        have TA : Hid True := trivial
        go_wp2_with fail
        have FL : Fld9 w W0 b M v l es0 (runI (listR 65536 (u32R l) l) st0) (fun y w' es' => ∃ rv, RowU w.heap.size w' rv y ∧ es' = es0.setIfInBounds 14 rv) (.returned (.tuple #[])) (wr) := ⟨rfl, acc, stk, _, SR.out, head_keep (by decide), TE.out, _, row_low RR.out hwW, rfl⟩
        have GN := got_step9 (Rf := listR 65536 (u32R l) l) (f := 4) (fun i y => { i with labels := y }) (by intro i q; simp [fldR, mapR_mapR, labelsR, catchesR]) S0.out.rebase G0.out FL ?hP1
        case hP1 =>
          · rintro i lab ty ca y es' q q' rfl hop hq r1 r2 r3 ⟨rv, hr, hes⟩
            exact ⟨rv, ty, ca, hes, hop, hr, r2, r3⟩
        have hW' : ∃ W', W' = wr := ⟨_, rfl⟩
        generalize wr = W1 at *
        obtain ⟨_, st1, es1, s1, g1⟩ := GN
        have S1 : Hid (S9I w W0 b M v l W1 st1 es1) := s1
        have G1 : Hid (Got w.heap.size l R op [2] false st1 es1 W1) := g1
        have N1 : Hid (W1.heap[w.heap.size]? = some (.cells #[.int .i64 0, .int .u32 0, .int .u32 0, .int .u64 0, .int .u32 0, .int .u32 0, .int .u64 0, .int .i64 0, .int .i64 0, .bool false, .int .i64 0, .slice none 0 0, .slice none 0 0, .bool false, .slice none 0 0, .slice none 0 0, .slice none 0 0] 36 (0, 0))) := s1.tm.other N0.out (by simp; omega)
        clear FL s1 g1 hW' SA TA
        clear SR RR TE
        refine (d9u32_any S1.out.di).mono ?_
        rintro en w2 ⟨y, sx2, rfl, f2, t2⟩
        have SA : Hid (S9I w W1 b M v l w2 sx2 es1) := S1.out.rebase.step f2
        obtain ⟨u1, hu1, _⟩ := SA.out.cell 1 (by decide)
        have z1 := free_of SA.out.io 1
        have TA : Hid (TieI (runI (u32R l) st1) y sx2) := t2
        clear f2 t2
        go_wp2_with (first
          | with_reducible refine stop_load 36 rfl ?_
          | fail)
        have FL : Fld9 w W1 b M v l es1 (runI (u32R l) st1) (fun y w' es' => es' = es1.setIfInBounds 1 (.int .u32 y)) (.returned (.tuple #[])) (w2.setCell ⟨M, 1, none⟩ (.int .u32 y)) := ⟨rfl, y, sx2, _, SA.out.set 1 _, head_keep (by decide), TA.out, rfl⟩
        have GN := got_step9 (Rf := u32R l) (f := 2) (fun i y => { i with x := y }) (by intro i q; simp [fldR, mapR_mapR, labelsR, catchesR]) S1.out.rebase G1.out FL ?hP2
        case hP2 =>
          · rintro i lab ty ca y es' q q' rfl hop hq r1 r2 r3 hes
            exact ⟨lab, ty, ca, hes, hop, r1, r2, r3⟩
        have hW' : ∃ W', W' = w2.setCell ⟨M, 1, none⟩ (.int .u32 y) := ⟨_, rfl⟩
        generalize w2.setCell ⟨M, 1, none⟩ (.int .u32 y) = W2 at *
        obtain ⟨_, st2, es2, s2, g2⟩ := GN
        have S2 : Hid (S9I w W1 b M v l W2 st2 es2) := s2
        have G2 : Hid (Got w.heap.size l R op [] false st2 es2 W2) := g2
        have N2 : Hid (W2.heap[w.heap.size]? = some (.cells #[.int .i64 0, .int .u32 0, .int .u32 0, .int .u64 0, .int .u32 0, .int .u32 0, .int .u64 0, .int .i64 0, .int .i64 0, .bool false, .int .i64 0, .slice none 0 0, .slice none 0 0, .bool false, .slice none 0 0, .slice none 0 0, .slice none 0 0] 36 (0, 0))) := s2.tm.other N1.out (by simp; omega)
        clear FL s2 g2 hW' SA TA
        have GE := got_end G2.out
        unfold Stop
        refine wpList_load_row rfl 36 (.tmp 5) rfl M (by go_simp) 36 es2 (0, 0) _ S2.out.io Tryz.underlying36 rfl (by rw [S2.out.sz]; kernel_rfl) ?_
        go_wp2_with (first
          | with_reducible refine stop_store 36 rfl ?_
          | fail)
        unfold Stop
        refine wpList_store_row rfl 36 (.tmp 4) (.tmp 164) rfl w.heap.size es2 (by go_simp) (by go_simp) 36 _ N2.out (by rw [S2.out.sz]; kernel_rfl) (by rw [S2.out.sz]; rfl) (by rw [Array.all_eq_true]; intro i hi; exact S2.out.one i _ (by simp)) ?_
        go_wp2_with fail
        refine bodyPost_ret (v := .agg es2) ?_ rfl ?_
        · exact results_cell_row Tryz.results10 _ _ w.heap.size 36 _ (0, 0) _ rfl (heap_setRow N2.out) Tryz.underlying36 rfl (by rw [S2.out.sz]; kernel_rfl)
        have tr := S2.out.tn.row (Nat.le_refl _) es2
        refine ⟨es2, st2, rfl, S2.out.sz, S2.out.one, ⟨tr, H.out.of tr (S2.out.di.st.same (setRow_other _ _ _ _ (by omega)))⟩, ?_⟩
        exact GE.turn (Turn.rowSelf _ _ _) (by intro x hx; simp at hx; subst hx; exact NoT.of N2.out (by decide)) (by intro x hx; simp at hx; subst hx; exact NoT.of N2.out (by decide)) (by intro x hx; simp at hx; subst hx; exact NoT.of N2.out (by decide))

      · have d4 : decide ((acc.length : Int) < n) = false := by simpa using hkn
        clear hkn HE HB M0 SA1
        have SA : Hid True := trivial
        have TA : Hid True := trivial
        go_wp2_with fail
        have FL : Fld9 w W0 b M v l es0 (runI (listR 65536 (u32R l) l) st0) (fun y w' es' => ∃ rv, RowU w.heap.size w' rv y ∧ es' = es0.setIfInBounds 14 rv) (.returned (.tuple #[])) (wr) := ⟨rfl, acc, stk, _, SR.out, head_keep (by decide), TE.out, _, row_low RR.out hwW, rfl⟩
        have GN := got_step9 (Rf := listR 65536 (u32R l) l) (f := 4) (fun i y => { i with labels := y }) (by intro i q; simp [fldR, mapR_mapR, labelsR, catchesR]) S0.out.rebase G0.out FL ?hP1
        case hP1 =>
          · rintro i lab ty ca y es' q q' rfl hop hq r1 r2 r3 ⟨rv, hr, hes⟩
            exact ⟨rv, ty, ca, hes, hop, hr, r2, r3⟩
        have hW' : ∃ W', W' = wr := ⟨_, rfl⟩
        generalize wr = W1 at *
        obtain ⟨_, st1, es1, s1, g1⟩ := GN
        have S1 : Hid (S9I w W0 b M v l W1 st1 es1) := s1
        have G1 : Hid (Got w.heap.size l R op [2] false st1 es1 W1) := g1
        have N1 : Hid (W1.heap[w.heap.size]? = some (.cells #[.int .i64 0, .int .u32 0, .int .u32 0, .int .u64 0, .int .u32 0, .int .u32 0, .int .u64 0, .int .i64 0, .int .i64 0, .bool false, .int .i64 0, .slice none 0 0, .slice none 0 0, .bool false, .slice none 0 0, .slice none 0 0, .slice none 0 0] 36 (0, 0))) := s1.tm.other N0.out (by simp; omega)
        clear FL s1 g1 hW' SA TA
        clear SR RR TE
        refine (d9u32_any S1.out.di).mono ?_
        rintro en w2 ⟨y, sx2, rfl, f2, t2⟩
        have SA : Hid (S9I w W1 b M v l w2 sx2 es1) := S1.out.rebase.step f2
        obtain ⟨u1, hu1, _⟩ := SA.out.cell 1 (by decide)
        have z1 := free_of SA.out.io 1
        have TA : Hid (TieI (runI (u32R l) st1) y sx2) := t2
        clear f2 t2
        go_wp2_with (first
          | with_reducible refine stop_load 36 rfl ?_
          | fail)
        have FL : Fld9 w W1 b M v l es1 (runI (u32R l) st1) (fun y w' es' => es' = es1.setIfInBounds 1 (.int .u32 y)) (.returned (.tuple #[])) (w2.setCell ⟨M, 1, none⟩ (.int .u32 y)) := ⟨rfl, y, sx2, _, SA.out.set 1 _, head_keep (by decide), TA.out, rfl⟩
        have GN := got_step9 (Rf := u32R l) (f := 2) (fun i y => { i with x := y }) (by intro i q; simp [fldR, mapR_mapR, labelsR, catchesR]) S1.out.rebase G1.out FL ?hP2
        case hP2 =>
          · rintro i lab ty ca y es' q q' rfl hop hq r1 r2 r3 hes
            exact ⟨lab, ty, ca, hes, hop, r1, r2, r3⟩
        have hW' : ∃ W', W' = w2.setCell ⟨M, 1, none⟩ (.int .u32 y) := ⟨_, rfl⟩
        generalize w2.setCell ⟨M, 1, none⟩ (.int .u32 y) = W2 at *
        obtain ⟨_, st2, es2, s2, g2⟩ := GN
        have S2 : Hid (S9I w W1 b M v l W2 st2 es2) := s2
        have G2 : Hid (Got w.heap.size l R op [] false st2 es2 W2) := g2
        have N2 : Hid (W2.heap[w.heap.size]? = some (.cells #[.int .i64 0, .int .u32 0, .int .u32 0, .int .u64 0, .int .u32 0, .int .u32 0, .int .u64 0, .int .i64 0, .int .i64 0, .bool false, .int .i64 0, .slice none 0 0, .slice none 0 0, .bool false, .slice none 0 0, .slice none 0 0, .slice none 0 0] 36 (0, 0))) := s2.tm.other N1.out (by simp; omega)
        clear FL s2 g2 hW' SA TA
        have GE := got_end G2.out
        unfold Stop
        refine wpList_load_row rfl 36 (.tmp 5) rfl M (by go_simp) 36 es2 (0, 0) _ S2.out.io Tryz.underlying36 rfl (by rw [S2.out.sz]; kernel_rfl) ?_
        go_wp2_with (first
          | with_reducible refine stop_store 36 rfl ?_
          | fail)
        unfold Stop
        refine wpList_store_row rfl 36 (.tmp 4) (.tmp 164) rfl w.heap.size es2 (by go_simp) (by go_simp) 36 _ N2.out (by rw [S2.out.sz]; kernel_rfl) (by rw [S2.out.sz]; rfl) (by rw [Array.all_eq_true]; intro i hi; exact S2.out.one i _ (by simp)) ?_
        go_wp2_with fail
        refine bodyPost_ret (v := .agg es2) ?_ rfl ?_
        · exact results_cell_row Tryz.results10 _ _ w.heap.size 36 _ (0, 0) _ rfl (heap_setRow N2.out) Tryz.underlying36 rfl (by rw [S2.out.sz]; kernel_rfl)
        have tr := S2.out.tn.row (Nat.le_refl _) es2
        refine ⟨es2, st2, rfl, S2.out.sz, S2.out.one, ⟨tr, H.out.of tr (S2.out.di.st.same (setRow_other _ _ _ _ (by omega)))⟩, ?_⟩
        exact GE.turn (Turn.rowSelf _ _ _) (by intro x hx; simp at hx; subst hx; exact NoT.of N2.out (by decide)) (by intro x hx; simp at hx; subst hx; exact NoT.of N2.out (by decide)) (by intro x hx; simp at hx; subst hx; exact NoT.of N2.out (by decide))

    | ok q =>
      obtain ⟨n0, hkn0⟩ := HB.out q rfl
      have k3 := SR.out.di.e0
      by_cases hkn : (acc.length : Int) < n
      · have d4 : decide ((acc.length : Int) < n) = true := by simpa using hkn
        have hN6 : n.toNat ≤ 65536 := HE.out.1
        have HE2 : Hid (∀ y s2, TieI (runI (u32R l) (.ok q)) y s2 → ML RL (u32R l) n.toNat (acc.length + 1) (acc ++ [y]) s2) := fun y s2 t => HE.out.next (by omega) t
        obtain ⟨wq, hwq⟩ : ∃ wq, wq = wr := ⟨_, rfl⟩
        rw [← hwq] at SR RR k3 ⊢
        clear hwq
        have NC : Hid (∀ w', Grew wq w' → Calls Tryz.prog 24 #[.pointer (some ⟨b, 0, none⟩)] w' fun en w'' => ∃ y s2, en = .returned (.int .u32 y) ∧ Turn [b] wq w'' ∧ D9 w'' b v l s2 ∧ TieI (runI (u32R l) (.ok q)) y s2) := by
          intro w' g
          refine (d9u32_any (SR.out.di.grew g)).mono ?_
          rintro en w'' ⟨y, s2, rfl, ⟨t2, d2⟩, td⟩
          exact ⟨y, s2, rfl, (g.turn _).trans t2, d2, td⟩
        have mq := SR.out.here (by decide)
        have mz := free_of SR.out.io 14
        have hMq : M < wq.heap.size := lt_of_obj SR.out.io
        clear HE HB M0 SA1
        go_wp2_with fail
        go_region_law (first
          | (refine step_d9u32 (.tmp 60) rfl rfl rfl (NC.out _ (by first | exact Grew.refl _ | exact (Grew.refl _).drew | exact (Grew.refl _).drewN _ | exact ((Grew.refl _).drew).drew | exact ((Grew.refl _).drewN _).drew)) ?_
             rintro en w6 ⟨n6, st6, rfl, t6, s6, td6⟩
             skip
             refine ⟨_, rfl, ?_⟩
             have SA6 : Hid (S9I w W0 b M v l w6 st6 (es0.setIfInBounds 14 (.slice aa acc.length cc))) := SR.out.step ⟨t6, s6⟩
             have R6 : Hid (RowU W0.heap.size w6 (.slice aa acc.length cc) acc) := row_turn RR.out t6 (by intro x hx; simp at hx; subst hx; obtain ⟨a1, p1, e1, ho⟩ := SR.out.di.obj; exact NoT.of ho (by decide))
             have TD6 : Hid (TieI (runI (u32R l) (.ok q)) n6 st6) := td6
             have q6 := SA6.out.here (by decide)
             have z6 := free_of SA6.out.io 14
             have q6a := (SA6.out.grew ((Grew.refl w6).alloc (.cells #[.int .u32 n6] 23))).here (by decide)
             have hM6 : M < w6.heap.size := lt_of_obj SA6.out.io
             clear t6 s6 td6)
          | (refine step_appU9 (w0 := w6) (B := W0.heap.size) (b := W0.heap.size) (v := (.slice aa acc.length cc)) (l := acc) (c := n6) (ad := ⟨w6.heap.size, 0, none⟩) rfl (.tmp 59) (.tmp 62) rfl rfl rfl (by first | exact ((Grew.refl _).alloc _) | exact ((Grew.refl _).alloc _).drew | exact ((Grew.refl _).alloc _).drewN _ | exact ((Grew.refl _).drew.alloc _) | exact ((Grew.refl _).drewN _).alloc _ | exact (((Grew.refl _).drew).alloc _).drew | exact (((Grew.refl _).drewN _).alloc _).drew) R6.out SA6.out.tm.size (by intro j u hj; match j, hj with | 0, hj => (simp [ic2] at hj; subst hj; simp [Addr.add]) | j + 1, hj => (simp [ic2] at hj)) (by first | omega | simp) ?_
             intro v7 w7 I7' t7
             obtain ⟨a7, c7, hv7⟩ := row_one I7'
             subst hv7
             have F7 : Hid (RowU W0.heap.size w7 (.slice a7 (acc ++ [n6]).length c7) (acc ++ [n6])) := I7'
             have SA7 : Hid (S9I w W0 b M v l w7 st6 (es0.setIfInBounds 14 (.slice aa acc.length cc))) := SA6.out.app t7 hMW hwW
             have q7 := SA7.out.here (by decide)
             have z7 := free_of SA7.out.io 14
             clear t7 I7'))
        all_goals
          go_wp2_with fail
          have S8 := SA7.out.set 14 (.slice a7 (acc ++ [n6]).length c7)
          rw [set_set] at S8
          have F8 : RowU W0.heap.size (w7.setCell ⟨M, 14, none⟩ (.slice a7 (acc ++ [n6]).length c7)) _ _ := row_set F7.out (NoT.of SA7.out.io (by decide)) (.slice a7 (acc ++ [n6]).length c7)
          have E8 := HE2.out _ _ TD6.out
          have B8 : ∀ q, st6 = .ok q → 0 ≤ n ∧ acc.length + 1 ≤ n.toNat := fun _ _ => by omega
          simp only [List.length_append, List.length_cons, List.length_nil, Nat.zero_add] at S8 F8
          go_roundw
          case rel => exact ⟨acc.length + 1, acc ++ [n6], st6, _, by go_num, by simp, by omega, F8, S8, B8, E8⟩
          case measure => simp [intOf]; omega
      · have d4 : decide ((acc.length : Int) < n) = false := by simpa using hkn
        have hN : acc.length = n.toNat := by omega
        obtain ⟨stk, hstk⟩ : ∃ s : Except (Nat × Nat) Nat, s = .ok q := ⟨_, rfl⟩
        have TE : Hid (TieI (runI (listR 65536 (u32R l) l) st0) acc stk) := by have := HE.out; rw [hN] at this; rw [HRL.out, hstk]; exact this.done
        rw [← hstk] at SR
        clear hstk hkn hN HE HB M0 SA1
        have SA : Hid True := trivial
        have TA : Hid True := trivial
        go_wp2_with fail
        have FL : Fld9 w W0 b M v l es0 (runI (listR 65536 (u32R l) l) st0) (fun y w' es' => ∃ rv, RowU w.heap.size w' rv y ∧ es' = es0.setIfInBounds 14 rv) (.returned (.tuple #[])) (wr) := ⟨rfl, acc, stk, _, SR.out, head_keep (by decide), TE.out, _, row_low RR.out hwW, rfl⟩
        have GN := got_step9 (Rf := listR 65536 (u32R l) l) (f := 4) (fun i y => { i with labels := y }) (by intro i q; simp [fldR, mapR_mapR, labelsR, catchesR]) S0.out.rebase G0.out FL ?hP1
        case hP1 =>
          · rintro i lab ty ca y es' q q' rfl hop hq r1 r2 r3 ⟨rv, hr, hes⟩
            exact ⟨rv, ty, ca, hes, hop, hr, r2, r3⟩
        have hW' : ∃ W', W' = wr := ⟨_, rfl⟩
        generalize wr = W1 at *
        obtain ⟨_, st1, es1, s1, g1⟩ := GN
        have S1 : Hid (S9I w W0 b M v l W1 st1 es1) := s1
        have G1 : Hid (Got w.heap.size l R op [2] false st1 es1 W1) := g1
        have N1 : Hid (W1.heap[w.heap.size]? = some (.cells #[.int .i64 0, .int .u32 0, .int .u32 0, .int .u64 0, .int .u32 0, .int .u32 0, .int .u64 0, .int .i64 0, .int .i64 0, .bool false, .int .i64 0, .slice none 0 0, .slice none 0 0, .bool false, .slice none 0 0, .slice none 0 0, .slice none 0 0] 36 (0, 0))) := s1.tm.other N0.out (by simp; omega)
        clear FL s1 g1 hW' SA TA
        clear SR RR TE
        refine (d9u32_any S1.out.di).mono ?_
        rintro en w2 ⟨y, sx2, rfl, f2, t2⟩
        have SA : Hid (S9I w W1 b M v l w2 sx2 es1) := S1.out.rebase.step f2
        obtain ⟨u1, hu1, _⟩ := SA.out.cell 1 (by decide)
        have z1 := free_of SA.out.io 1
        have TA : Hid (TieI (runI (u32R l) st1) y sx2) := t2
        clear f2 t2
        go_wp2_with (first
          | with_reducible refine stop_load 36 rfl ?_
          | fail)
        have FL : Fld9 w W1 b M v l es1 (runI (u32R l) st1) (fun y w' es' => es' = es1.setIfInBounds 1 (.int .u32 y)) (.returned (.tuple #[])) (w2.setCell ⟨M, 1, none⟩ (.int .u32 y)) := ⟨rfl, y, sx2, _, SA.out.set 1 _, head_keep (by decide), TA.out, rfl⟩
        have GN := got_step9 (Rf := u32R l) (f := 2) (fun i y => { i with x := y }) (by intro i q; simp [fldR, mapR_mapR, labelsR, catchesR]) S1.out.rebase G1.out FL ?hP2
        case hP2 =>
          · rintro i lab ty ca y es' q q' rfl hop hq r1 r2 r3 hes
            exact ⟨lab, ty, ca, hes, hop, r1, r2, r3⟩
        have hW' : ∃ W', W' = w2.setCell ⟨M, 1, none⟩ (.int .u32 y) := ⟨_, rfl⟩
        generalize w2.setCell ⟨M, 1, none⟩ (.int .u32 y) = W2 at *
        obtain ⟨_, st2, es2, s2, g2⟩ := GN
        have S2 : Hid (S9I w W1 b M v l W2 st2 es2) := s2
        have G2 : Hid (Got w.heap.size l R op [] false st2 es2 W2) := g2
        have N2 : Hid (W2.heap[w.heap.size]? = some (.cells #[.int .i64 0, .int .u32 0, .int .u32 0, .int .u64 0, .int .u32 0, .int .u32 0, .int .u64 0, .int .i64 0, .int .i64 0, .bool false, .int .i64 0, .slice none 0 0, .slice none 0 0, .bool false, .slice none 0 0, .slice none 0 0, .slice none 0 0] 36 (0, 0))) := s2.tm.other N1.out (by simp; omega)
        clear FL s2 g2 hW' SA TA
        have GE := got_end G2.out
        unfold Stop
        refine wpList_load_row rfl 36 (.tmp 5) rfl M (by go_simp) 36 es2 (0, 0) _ S2.out.io Tryz.underlying36 rfl (by rw [S2.out.sz]; kernel_rfl) ?_
        go_wp2_with (first
          | with_reducible refine stop_store 36 rfl ?_
          | fail)
        unfold Stop
        refine wpList_store_row rfl 36 (.tmp 4) (.tmp 164) rfl w.heap.size es2 (by go_simp) (by go_simp) 36 _ N2.out (by rw [S2.out.sz]; kernel_rfl) (by rw [S2.out.sz]; rfl) (by rw [Array.all_eq_true]; intro i hi; exact S2.out.one i _ (by simp)) ?_
        go_wp2_with fail
        refine bodyPost_ret (v := .agg es2) ?_ rfl ?_
        · exact results_cell_row Tryz.results10 _ _ w.heap.size 36 _ (0, 0) _ rfl (heap_setRow N2.out) Tryz.underlying36 rfl (by rw [S2.out.sz]; kernel_rfl)
        have tr := S2.out.tn.row (Nat.le_refl _) es2
        refine ⟨es2, st2, rfl, S2.out.sz, S2.out.one, ⟨tr, H.out.of tr (S2.out.di.st.same (setRow_other _ _ _ _ (by omega)))⟩, ?_⟩
        exact GE.turn (Turn.rowSelf _ _ _) (by intro x hx; simp at hx; subst hx; exact NoT.of N2.out (by decide)) (by intro x hx; simp at hx; subst hx; exact NoT.of N2.out (by decide)) (by intro x hx; simp at hx; subst hx; exact NoT.of N2.out (by decide))

set_option maxRecDepth 100000 in
set_option maxHeartbeats 4000000 in
theorem rest7_any {w : World} {b : Nat} {v : Value} {l : List Int} {st0 : Except (Nat × Nat) Nat} (h : D9 w b v l st0) (op : Int) (h0 : 0 ≤ op) (h1 : op ≤ 65535) (hk : formP op = 7) :
    Calls Tryz.prog 10 #[.pointer (some ⟨b, 0, none⟩), .int .i64 op] w fun en w' => ∃ es st', en = .returned (.agg es) ∧ es.size = 17 ∧ (∀ (j : Nat) (u : Value), es[j]? = some u → u.oneCell' = true) ∧ Fin9 b v l w w' st' ∧ InsA w.heap.size (runI (restF op l) st0) es w' st' := by
  have H : Hid (D9 w b v l st0) := h
  have hb : b < w.heap.size := h.lt
  obtain ⟨R, hR⟩ : ∃ R, runI (restF op l) st0 = R := ⟨_, rfl⟩
  rw [hR]
  have HR : Hid (runI (restF op l) st0 = R) := hR
  obtain ⟨GG, N0, hM⟩ := two_alloc w #[.int .i64 0, .int .u32 0, .int .u32 0, .int .u64 0, .int .u32 0, .int .u32 0, .int .u64 0, .int .i64 0, .int .i64 0, .bool false, .int .i64 0, .slice none 0 0, .slice none 0 0, .bool false, .slice none 0 0, .slice none 0 0, .slice none 0 0] #[.int .i64 op, .int .u32 0, .int .u32 0, .int .u64 0, .int .u32 0, .int .u32 0, .int .u64 0, .int .i64 0, .int .i64 0, .bool false, .int .i64 0, .slice none 0 0, .slice none 0 0, .bool false, .slice none 0 0, .slice none 0 0, .slice none 0 0] 36
  have S0 : Hid (S9I w w b (w.heap.size + 1) v l _ st0 (insA (IN0 op) NILS NILS NILS)) := ⟨⟨_, h⟩, GG.out.turn _, h.grew GG.out, hM, rfl, by omega, es0_one op, GG.out.turn _⟩
  have G0 : Hid (Got w.heap.size l R op [5] true st0 (insA (IN0 op) NILS NILS NILS) ((w.alloc (.cells #[.int .i64 0, .int .u32 0, .int .u32 0, .int .u64 0, .int .u32 0, .int .u32 0, .int .u64 0, .int .i64 0, .int .i64 0, .bool false, .int .i64 0, .slice none 0 0, .slice none 0 0, .bool false, .slice none 0 0, .slice none 0 0, .slice none 0 0] 36)).alloc (.cells #[.int .i64 op, .int .u32 0, .int .u32 0, .int .u64 0, .int .u32 0, .int .u32 0, .int .u64 0, .int .i64 0, .int .i64 0, .bool false, .int .i64 0, .slice none 0 0, .slice none 0 0, .bool false, .slice none 0 0, .slice none 0 0, .slice none 0 0] 36))) := by
    have := got_start (B := w.heap.size) (l := l) (op := op) (st := st0) (w := (w.alloc (.cells #[.int .i64 0, .int .u32 0, .int .u32 0, .int .u64 0, .int .u32 0, .int .u32 0, .int .u64 0, .int .i64 0, .int .i64 0, .bool false, .int .i64 0, .slice none 0 0, .slice none 0 0, .bool false, .slice none 0 0, .slice none 0 0, .slice none 0 0] 36)).alloc (.cells #[.int .i64 op, .int .u32 0, .int .u32 0, .int .u64 0, .int .u32 0, .int .u32 0, .int .u64 0, .int .i64 0, .int .i64 0, .bool false, .int .i64 0, .slice none 0 0, .slice none 0 0, .bool false, .slice none 0 0, .slice none 0 0, .slice none 0 0] 36)) (r := [5]) (by rw [hk]; rfl)
    rw [hR] at this
    exact this
  have HWD : Hid (BA (formD op) = BA [115, 101, 108, 101, 99, 116]) := by show BA (formD op) = _; rw [word_is, hk]; rfl
  clear h hR hM GG
  go_enter Tryz.func10, Tryz.ntmps10
  go_wp2_with (first
    | with_reducible refine stop_store 36 rfl ?_
    | fail)
  unfold Stop
  refine wpList_store_last rfl 36 (.tmp 5) (.tmp 13) rfl #[.int .i64 op, .int .u32 0, .int .u32 0, .int .u64 0, .int .u32 0, .int .u32 0, .int .u64 0, .int .i64 0, .int .i64 0, .bool false, .int .i64 0, .slice none 0 0, .slice none 0 0, .bool false, .slice none 0 0, .slice none 0 0, .slice none 0 0] (by go_simp) (by go_simp) _ (by kernel_rfl) rfl (by simp [Value.oneCell']) ?_
  obtain ⟨M, hMM⟩ : ∃ M, w.heap.size + 1 = M := ⟨_, rfl⟩
  rw [hMM] at S0
  obtain ⟨es0, hes0⟩ : ∃ es0, insA (IN0 op) NILS NILS NILS = es0 := ⟨_, rfl⟩
  rw [hes0] at S0 G0
  generalize (w.alloc (.cells #[.int .i64 0, .int .u32 0, .int .u32 0, .int .u64 0, .int .u32 0, .int .u32 0, .int .u64 0, .int .i64 0, .int .i64 0, .bool false, .int .i64 0, .slice none 0 0, .slice none 0 0, .bool false, .slice none 0 0, .slice none 0 0, .slice none 0 0] 36)).alloc (.cells #[.int .i64 op, .int .u32 0, .int .u32 0, .int .u64 0, .int .u32 0, .int .u32 0, .int .u64 0, .int .i64 0, .int .i64 0, .bool false, .int .i64 0, .slice none 0 0, .slice none 0 0, .bool false, .slice none 0 0, .slice none 0 0, .slice none 0 0] 36) = W0' at *
  clear hes0
  go_wp2_with fail
  refine (refForm_any op (by omega) (by omega) W0').mono ?_
  rintro en W0 ⟨rfl, g0⟩
  have S0 : Hid (S9I w w b M v l W0 st0 es0) := S0.out.grew g0
  have N0 : Hid (W0.heap[w.heap.size]? = some (.cells #[.int .i64 0, .int .u32 0, .int .u32 0, .int .u64 0, .int .u32 0, .int .u32 0, .int .u64 0, .int .i64 0, .int .i64 0, .bool false, .int .i64 0, .slice none 0 0, .slice none 0 0, .bool false, .slice none 0 0, .slice none 0 0, .slice none 0 0] 36 (0, 0))) := (g0.turn []).other N0.out (by simp)
  have G0 : Hid (Got w.heap.size l R op [5] true st0 es0 W0) := by
    obtain ⟨a1, a2, a3⟩ := G0.out
    refine ⟨a1, a2, ?_⟩
    cases st0 with
    | error e => exact a3
    | ok q =>
      obtain ⟨i, lab, ty, ca, e1, e2, r1, r2, r3, e3⟩ := a3
      exact ⟨i, lab, ty, ca, e1, e2, row_turn r1 (g0.turn []) (by simp), row_turn r2 (g0.turn []) (by simp), row_turn r3 (g0.turn []) (by simp), e3⟩
  clear g0
  rw [HWD.out]
  obtain ⟨sx, hsx⟩ : ∃ sx, BA [115, 101, 108, 101, 99, 116] = sx := ⟨_, rfl⟩
  rw [hsx]
  have q0 : (sx.toList == [98, 108, 111, 99, 107]) = false := by rw [← hsx, ba_list]; decide
  have q1 : (sx.toList == [116, 114, 121]) = false := by rw [← hsx, ba_list]; decide
  have q2 : (sx.toList == [120]) = false := by rw [← hsx, ba_list]; decide
  have q3 : (sx.toList == [120, 121]) = false := by rw [← hsx, ba_list]; decide
  have q4 : (sx.toList == [116, 97, 98, 108, 101]) = false := by rw [← hsx, ba_list]; decide
  have q5 : (sx.toList == [115, 101, 108, 101, 99, 116]) = true := by rw [← hsx, ba_list]; decide
  clear hsx
  obtain ⟨st0', hst⟩ : ∃ s, s = st0 := ⟨_, rfl⟩
  clear hst st0'
  have hes : es0[15]? = some NILS := by rw [G0.out.2.1 rfl]; rfl
  go_wp2_with fail
  refine (d9few_any S0.out.di 1000 (by decide)).mono ?_
  rintro en w1 ⟨n, sx1, rfl, f1, hn, t1⟩
  obtain ⟨RL, hRL⟩ : ∃ RL, runI (valsR l) st0 = RL := ⟨_, rfl⟩
  have HRL : Hid (runI (valsR l) st0 = RL) := hRL
  have M0 : Hid (ML RL (valR l) n.toNat 0 [] sx1) := by have := ML.begin (rd := valR l) (m := 1000) t1 hn (by decide); rw [← hRL]; exact this
  have SA1 : Hid (S9I w W0 b M v l w1 sx1 (es0.setIfInBounds 15 NILS)) := by rw [set_same hes]; exact S0.out.rebase.step f1
  have HN : Hid (∀ q, sx1 = .ok q → 0 ≤ n) := fun q hq => (hn q hq).1
  have hs1 : w.heap.size ≤ w1.heap.size := SA1.out.low
  have hMW : M < W0.heap.size := lt_of_obj S0.out.io
  have hwW : w.heap.size ≤ W0.heap.size := S0.out.low
  clear f1 hn t1 hes hRL
  go_wp2_with fail
  go_loopw [9] (fun n_ wr => ∃ (k : Nat) (acc : List VT) (stk : Except (Nat × Nat) Nat) (v_ : Value), n_ = .int .i64 k ∧ acc.length = k ∧ k ≤ 65536 ∧ Hid (RowV W0.heap.size wr v_ acc) ∧ Hid (S9I w W0 b M v l wr stk (es0.setIfInBounds 15 v_)) ∧ Hid (∀ q, stk = .ok q → 0 ≤ n ∧ k ≤ n.toNat) ∧ Hid (ML RL (valR l) n.toNat k acc stk)) (fun n_ _ => n.toNat - (intOf n_).toNat)
  case atStart => exact ⟨0, [], sx1, NILS, rfl, rfl, by omega, RowV.nil _ _, SA1, fun q hq => ⟨HN.out q hq, Nat.zero_le _⟩, M0⟩
  case round =>
    obtain ⟨k, acc, stk, v_, rfl, hacc, hk6, RR, SR, HB, HE⟩ := hrel
    subst hacc
    obtain ⟨aa, cc, hv⟩ := row_one RR.out
    subst hv
    cases stk with
    | error z =>
      obtain ⟨f, e⟩ := z
      obtain ⟨k3, de⟩ := SR.out.di.e1
      obtain ⟨stk, hstk⟩ : ∃ s : Except (Nat × Nat) Nat, s = .error (f, e) := ⟨_, rfl⟩
      have TE : Hid (TieI (runI (valsR l) st0) acc stk) := by rw [HRL.out, hstk]; exact HE.out
      rw [← hstk] at SR
      clear hstk
      by_cases hkn : (acc.length : Int) < n
      · have d4 : decide ((acc.length : Int) < n) = true := by simpa using hkn
        clear hkn HE HB M0 SA1
        have SA : Hid True := trivial
        have TA : Hid True := trivial
        go_wp2_with (first
          | with_reducible refine stop_load 36 rfl ?_
          | fail)
        have FL : Fld9 w W0 b M v l es0 (runI (valsR l) st0) (fun y w' es' => ∃ rv, RowV w.heap.size w' rv y ∧ es' = es0.setIfInBounds 15 rv) (.returned (.tuple #[])) (wr) := ⟨rfl, acc, stk, _, SR.out, head_keep (by decide), TE.out, _, row_low RR.out hwW, rfl⟩
        have GN := got_step9 (Rf := valsR l) (f := 5) (fun i y => { i with types := y }) (by intro i q; simp [fldR, mapR_mapR, labelsR, catchesR]) S0.out.rebase G0.out FL ?hP1
        case hP1 =>
          · rintro i lab ty ca y es' q q' rfl hop hq r1 r2 r3 ⟨rv, hr, hes⟩
            exact ⟨lab, rv, ca, hes, hop, r1, hr, r3⟩
        have hW' : ∃ W', W' = wr := ⟨_, rfl⟩
        generalize wr = W1 at *
        obtain ⟨_, st1, es1, s1, g1⟩ := GN
        have S1 : Hid (S9I w W0 b M v l W1 st1 es1) := s1
        have G1 : Hid (Got w.heap.size l R op [] false st1 es1 W1) := g1
        have N1 : Hid (W1.heap[w.heap.size]? = some (.cells #[.int .i64 0, .int .u32 0, .int .u32 0, .int .u64 0, .int .u32 0, .int .u32 0, .int .u64 0, .int .i64 0, .int .i64 0, .bool false, .int .i64 0, .slice none 0 0, .slice none 0 0, .bool false, .slice none 0 0, .slice none 0 0, .slice none 0 0] 36 (0, 0))) := s1.tm.other N0.out (by simp; omega)
        clear FL s1 g1 hW' SA TA
        clear SR RR TE
        have GE := got_end G1.out
        unfold Stop
        refine wpList_load_row rfl 36 (.tmp 5) rfl M (by go_simp) 36 es1 (0, 0) _ S1.out.io Tryz.underlying36 rfl (by rw [S1.out.sz]; kernel_rfl) ?_
        go_wp2_with (first
          | with_reducible refine stop_store 36 rfl ?_
          | fail)
        unfold Stop
        refine wpList_store_row rfl 36 (.tmp 4) (.tmp 164) rfl w.heap.size es1 (by go_simp) (by go_simp) 36 _ N1.out (by rw [S1.out.sz]; kernel_rfl) (by rw [S1.out.sz]; rfl) (by rw [Array.all_eq_true]; intro i hi; exact S1.out.one i _ (by simp)) ?_
        go_wp2_with fail
        refine bodyPost_ret (v := .agg es1) ?_ rfl ?_
        · exact results_cell_row Tryz.results10 _ _ w.heap.size 36 _ (0, 0) _ rfl (heap_setRow N1.out) Tryz.underlying36 rfl (by rw [S1.out.sz]; kernel_rfl)
        have tr := S1.out.tn.row (Nat.le_refl _) es1
        refine ⟨es1, st1, rfl, S1.out.sz, S1.out.one, ⟨tr, H.out.of tr (S1.out.di.st.same (setRow_other _ _ _ _ (by omega)))⟩, ?_⟩
        exact GE.turn (Turn.rowSelf _ _ _) (by intro x hx; simp at hx; subst hx; exact NoT.of N1.out (by decide)) (by intro x hx; simp at hx; subst hx; exact NoT.of N1.out (by decide)) (by intro x hx; simp at hx; subst hx; exact NoT.of N1.out (by decide))

      · have d4 : decide ((acc.length : Int) < n) = false := by simpa using hkn
        clear hkn HE HB M0 SA1
        have SA : Hid True := trivial
        have TA : Hid True := trivial
        go_wp2_with (first
          | with_reducible refine stop_load 36 rfl ?_
          | fail)
        have FL : Fld9 w W0 b M v l es0 (runI (valsR l) st0) (fun y w' es' => ∃ rv, RowV w.heap.size w' rv y ∧ es' = es0.setIfInBounds 15 rv) (.returned (.tuple #[])) (wr) := ⟨rfl, acc, stk, _, SR.out, head_keep (by decide), TE.out, _, row_low RR.out hwW, rfl⟩
        have GN := got_step9 (Rf := valsR l) (f := 5) (fun i y => { i with types := y }) (by intro i q; simp [fldR, mapR_mapR, labelsR, catchesR]) S0.out.rebase G0.out FL ?hP1
        case hP1 =>
          · rintro i lab ty ca y es' q q' rfl hop hq r1 r2 r3 ⟨rv, hr, hes⟩
            exact ⟨lab, rv, ca, hes, hop, r1, hr, r3⟩
        have hW' : ∃ W', W' = wr := ⟨_, rfl⟩
        generalize wr = W1 at *
        obtain ⟨_, st1, es1, s1, g1⟩ := GN
        have S1 : Hid (S9I w W0 b M v l W1 st1 es1) := s1
        have G1 : Hid (Got w.heap.size l R op [] false st1 es1 W1) := g1
        have N1 : Hid (W1.heap[w.heap.size]? = some (.cells #[.int .i64 0, .int .u32 0, .int .u32 0, .int .u64 0, .int .u32 0, .int .u32 0, .int .u64 0, .int .i64 0, .int .i64 0, .bool false, .int .i64 0, .slice none 0 0, .slice none 0 0, .bool false, .slice none 0 0, .slice none 0 0, .slice none 0 0] 36 (0, 0))) := s1.tm.other N0.out (by simp; omega)
        clear FL s1 g1 hW' SA TA
        clear SR RR TE
        have GE := got_end G1.out
        unfold Stop
        refine wpList_load_row rfl 36 (.tmp 5) rfl M (by go_simp) 36 es1 (0, 0) _ S1.out.io Tryz.underlying36 rfl (by rw [S1.out.sz]; kernel_rfl) ?_
        go_wp2_with (first
          | with_reducible refine stop_store 36 rfl ?_
          | fail)
        unfold Stop
        refine wpList_store_row rfl 36 (.tmp 4) (.tmp 164) rfl w.heap.size es1 (by go_simp) (by go_simp) 36 _ N1.out (by rw [S1.out.sz]; kernel_rfl) (by rw [S1.out.sz]; rfl) (by rw [Array.all_eq_true]; intro i hi; exact S1.out.one i _ (by simp)) ?_
        go_wp2_with fail
        refine bodyPost_ret (v := .agg es1) ?_ rfl ?_
        · exact results_cell_row Tryz.results10 _ _ w.heap.size 36 _ (0, 0) _ rfl (heap_setRow N1.out) Tryz.underlying36 rfl (by rw [S1.out.sz]; kernel_rfl)
        have tr := S1.out.tn.row (Nat.le_refl _) es1
        refine ⟨es1, st1, rfl, S1.out.sz, S1.out.one, ⟨tr, H.out.of tr (S1.out.di.st.same (setRow_other _ _ _ _ (by omega)))⟩, ?_⟩
        exact GE.turn (Turn.rowSelf _ _ _) (by intro x hx; simp at hx; subst hx; exact NoT.of N1.out (by decide)) (by intro x hx; simp at hx; subst hx; exact NoT.of N1.out (by decide)) (by intro x hx; simp at hx; subst hx; exact NoT.of N1.out (by decide))

    | ok q =>
      obtain ⟨n0, hkn0⟩ := HB.out q rfl
      have k3 := SR.out.di.e0
      by_cases hkn : (acc.length : Int) < n
      · have d4 : decide ((acc.length : Int) < n) = true := by simpa using hkn
        have hN6 : n.toNat ≤ 65536 := HE.out.1
        have HE2 : Hid (∀ y s2, TieI (runI (valR l) (.ok q)) y s2 → ML RL (valR l) n.toNat (acc.length + 1) (acc ++ [y]) s2) := fun y s2 t => HE.out.next (by omega) t
        obtain ⟨wq, hwq⟩ : ∃ wq, wq = wr := ⟨_, rfl⟩
        rw [← hwq] at SR RR k3 ⊢
        clear hwq
        have NC : Hid (∀ w', Grew wq w' → Calls Tryz.prog 26 #[.pointer (some ⟨b, 0, none⟩)] w' fun en w'' => ∃ y s2, en = .returned (VT.v y) ∧ Turn [b] wq w'' ∧ D9 w'' b v l s2 ∧ TieI (runI (valR l) (.ok q)) y s2) := by
          intro w' g
          refine (d9val_any (SR.out.di.grew g)).mono ?_
          rintro en w'' ⟨y, s2, rfl, ⟨t2, d2⟩, td⟩
          exact ⟨y, s2, rfl, (g.turn _).trans t2, d2, td⟩
        have mq := SR.out.here (by decide)
        have mz := free_of SR.out.io 15
        have hMq : M < wq.heap.size := lt_of_obj SR.out.io
        clear HE HB M0 SA1
        go_wp2_with fail
        go_region_law (first
          | (refine step_d9val (.tmp 86) rfl rfl rfl (NC.out _ (by first | exact Grew.refl _ | exact (Grew.refl _).drew | exact (Grew.refl _).drewN _ | exact ((Grew.refl _).drew).drew | exact ((Grew.refl _).drewN _).drew)) ?_
             rintro en w6 ⟨⟨n6a, n6b, n6c⟩, st6, rfl, t6, s6, td6⟩
             unfold VT.v vt
             refine ⟨_, rfl, ?_⟩
             have SA6 : Hid (S9I w W0 b M v l w6 st6 (es0.setIfInBounds 15 (.slice aa acc.length cc))) := SR.out.step ⟨t6, s6⟩
             have R6 : Hid (RowV W0.heap.size w6 (.slice aa acc.length cc) acc) := row_turn RR.out t6 (by intro x hx; simp at hx; subst hx; obtain ⟨a1, p1, e1, ho⟩ := SR.out.di.obj; exact NoT.of ho (by decide))
             have TD6 : Hid (TieI (runI (valR l) (.ok q)) (⟨n6a, n6b, n6c⟩ : VT) st6) := td6
             have q6 := SA6.out.here (by decide)
             have z6 := free_of SA6.out.io 15
             have q6a := (SA6.out.grew ((Grew.refl w6).alloc (.cells #[.int .i64 n6a, .bool n6b, .int .i64 n6c] 28))).here (by decide)
             have hM6 : M < w6.heap.size := lt_of_obj SA6.out.io
             clear t6 s6 td6)
          | (refine step_appV9 (w0 := w6) (B := W0.heap.size) (b := W0.heap.size) (v := (.slice aa acc.length cc)) (l := acc) (c := (⟨n6a, n6b, n6c⟩ : VT)) (ad := ⟨w6.heap.size, 0, none⟩) rfl (.tmp 85) (.tmp 88) rfl rfl rfl (by first | exact ((Grew.refl _).alloc _) | exact ((Grew.refl _).alloc _).drew | exact ((Grew.refl _).alloc _).drewN _ | exact ((Grew.refl _).drew.alloc _) | exact ((Grew.refl _).drewN _).alloc _ | exact (((Grew.refl _).drew).alloc _).drew | exact (((Grew.refl _).drewN _).alloc _).drew) R6.out SA6.out.tm.size (by intro j u hj; match j, hj with | 0, hj => (simp [VT.c] at hj; subst hj; simp [Addr.add]) | 1, hj => (simp [VT.c] at hj; subst hj; simp [Addr.add]) | 2, hj => (simp [VT.c] at hj; subst hj; simp [Addr.add]) | j + 3, hj => (simp [VT.c] at hj)) (by first | omega | simp) ?_
             intro v7 w7 I7' t7
             obtain ⟨a7, c7, hv7⟩ := row_one I7'
             subst hv7
             have F7 : Hid (RowV W0.heap.size w7 (.slice a7 (acc ++ [(⟨n6a, n6b, n6c⟩ : VT)]).length c7) (acc ++ [(⟨n6a, n6b, n6c⟩ : VT)])) := I7'
             have SA7 : Hid (S9I w W0 b M v l w7 st6 (es0.setIfInBounds 15 (.slice aa acc.length cc))) := SA6.out.app t7 hMW hwW
             have q7 := SA7.out.here (by decide)
             have z7 := free_of SA7.out.io 15
             clear t7 I7'))
        all_goals
          go_wp2_with fail
          have S8 := SA7.out.set 15 (.slice a7 (acc ++ [(⟨n6a, n6b, n6c⟩ : VT)]).length c7)
          rw [set_set] at S8
          have F8 : RowV W0.heap.size (w7.setCell ⟨M, 15, none⟩ (.slice a7 (acc ++ [(⟨n6a, n6b, n6c⟩ : VT)]).length c7)) _ _ := row_set F7.out (NoT.of SA7.out.io (by decide)) (.slice a7 (acc ++ [(⟨n6a, n6b, n6c⟩ : VT)]).length c7)
          have E8 := HE2.out _ _ TD6.out
          have B8 : ∀ q, st6 = .ok q → 0 ≤ n ∧ acc.length + 1 ≤ n.toNat := fun _ _ => by omega
          simp only [List.length_append, List.length_cons, List.length_nil, Nat.zero_add] at S8 F8
          go_roundw
          case rel => exact ⟨acc.length + 1, acc ++ [(⟨n6a, n6b, n6c⟩ : VT)], st6, _, by go_num, by simp, by omega, F8, S8, B8, E8⟩
          case measure => simp [intOf]; omega
      · have d4 : decide ((acc.length : Int) < n) = false := by simpa using hkn
        have hN : acc.length = n.toNat := by omega
        obtain ⟨stk, hstk⟩ : ∃ s : Except (Nat × Nat) Nat, s = .ok q := ⟨_, rfl⟩
        have TE : Hid (TieI (runI (valsR l) st0) acc stk) := by have := HE.out; rw [hN] at this; rw [HRL.out, hstk]; exact this.done
        rw [← hstk] at SR
        clear hstk hkn hN HE HB M0 SA1
        have SA : Hid True := trivial
        have TA : Hid True := trivial
        go_wp2_with (first
          | with_reducible refine stop_load 36 rfl ?_
          | fail)
        have FL : Fld9 w W0 b M v l es0 (runI (valsR l) st0) (fun y w' es' => ∃ rv, RowV w.heap.size w' rv y ∧ es' = es0.setIfInBounds 15 rv) (.returned (.tuple #[])) (wr) := ⟨rfl, acc, stk, _, SR.out, head_keep (by decide), TE.out, _, row_low RR.out hwW, rfl⟩
        have GN := got_step9 (Rf := valsR l) (f := 5) (fun i y => { i with types := y }) (by intro i q; simp [fldR, mapR_mapR, labelsR, catchesR]) S0.out.rebase G0.out FL ?hP1
        case hP1 =>
          · rintro i lab ty ca y es' q q' rfl hop hq r1 r2 r3 ⟨rv, hr, hes⟩
            exact ⟨lab, rv, ca, hes, hop, r1, hr, r3⟩
        have hW' : ∃ W', W' = wr := ⟨_, rfl⟩
        generalize wr = W1 at *
        obtain ⟨_, st1, es1, s1, g1⟩ := GN
        have S1 : Hid (S9I w W0 b M v l W1 st1 es1) := s1
        have G1 : Hid (Got w.heap.size l R op [] false st1 es1 W1) := g1
        have N1 : Hid (W1.heap[w.heap.size]? = some (.cells #[.int .i64 0, .int .u32 0, .int .u32 0, .int .u64 0, .int .u32 0, .int .u32 0, .int .u64 0, .int .i64 0, .int .i64 0, .bool false, .int .i64 0, .slice none 0 0, .slice none 0 0, .bool false, .slice none 0 0, .slice none 0 0, .slice none 0 0] 36 (0, 0))) := s1.tm.other N0.out (by simp; omega)
        clear FL s1 g1 hW' SA TA
        clear SR RR TE
        have GE := got_end G1.out
        unfold Stop
        refine wpList_load_row rfl 36 (.tmp 5) rfl M (by go_simp) 36 es1 (0, 0) _ S1.out.io Tryz.underlying36 rfl (by rw [S1.out.sz]; kernel_rfl) ?_
        go_wp2_with (first
          | with_reducible refine stop_store 36 rfl ?_
          | fail)
        unfold Stop
        refine wpList_store_row rfl 36 (.tmp 4) (.tmp 164) rfl w.heap.size es1 (by go_simp) (by go_simp) 36 _ N1.out (by rw [S1.out.sz]; kernel_rfl) (by rw [S1.out.sz]; rfl) (by rw [Array.all_eq_true]; intro i hi; exact S1.out.one i _ (by simp)) ?_
        go_wp2_with fail
        refine bodyPost_ret (v := .agg es1) ?_ rfl ?_
        · exact results_cell_row Tryz.results10 _ _ w.heap.size 36 _ (0, 0) _ rfl (heap_setRow N1.out) Tryz.underlying36 rfl (by rw [S1.out.sz]; kernel_rfl)
        have tr := S1.out.tn.row (Nat.le_refl _) es1
        refine ⟨es1, st1, rfl, S1.out.sz, S1.out.one, ⟨tr, H.out.of tr (S1.out.di.st.same (setRow_other _ _ _ _ (by omega)))⟩, ?_⟩
        exact GE.turn (Turn.rowSelf _ _ _) (by intro x hx; simp at hx; subst hx; exact NoT.of N1.out (by decide)) (by intro x hx; simp at hx; subst hx; exact NoT.of N1.out (by decide)) (by intro x hx; simp at hx; subst hx; exact NoT.of N1.out (by decide))

end Go.Proofs.YtohapnninjdlfaaGreatDoor
