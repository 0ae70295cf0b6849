/-
  The document's reading of instructions: casts; no statement is proved here.
-/
import Derived.Test.YtohapnninjdlfaaGreatDoorD9h
namespace Go.Proofs.YtohapnninjdlfaaGreatDoor
open Go.RowKit
set_option linter.unusedVariables false
set_option linter.unusedSimpArgs false
set_option linter.constructorNameAsVariable false

theorem form_far9 {op : Int} (h : op < 0 ∨ (256 ≤ op ∧ op < 64256) ∨ (64320 ≤ op ∧ op < 64512) ∨ 64576 ≤ op) : formP op = 0 := (formD_nil op).1 (names_far h).2.2
theorem cast_nb {op : Int} (h0 : 0 ≤ op) (h1 : op ≤ 65535) (hk : formP op = 14) : ((op.tmod 2 == 1) = nbn op) ∧ ((op % 2 == 1) = nbn op) := by
  have e : op.tmod 2 = op % 2 := Int.tmod_eq_emod_of_nonneg h0
  rw [e]
  have g : (op % 2 == 1) = nbn op := by
    by_cases hfar : op < 0 ∨ (256 ≤ op ∧ op < 64256) ∨ (64320 ≤ op ∧ op < 64512) ∨ 64576 ≤ op
    · rw [form_far9 hfar] at hk; cases hk
    · have c : op < 256 ∨ (64256 ≤ op ∧ op < 64320) ∨ (64512 ≤ op ∧ op < 64576) := by omega
      rcases c with c | ⟨c1, c2⟩ | ⟨c1, c2⟩
      · have key : ∀ k : _root_.Fin 256, formP (k.val : Int) = 14 → ((k.val : Int) % 2 == 1) = nbn (k.val : Int) := by decide +kernel
        have := key ⟨op.toNat, by omega⟩
        simp only [Int.toNat_of_nonneg h0] at this
        exact this hk
      · have key : ∀ k : _root_.Fin 64, formP (64256 + (k.val : Int)) = 14 → ((64256 + (k.val : Int)) % 2 == 1) = nbn (64256 + (k.val : Int)) := by decide +kernel
        have := key ⟨(op - 64256).toNat, by omega⟩
        rw [show (64256 + (((op - 64256).toNat : Nat) : Int)) = op by omega] at this
        exact this hk
      · have key : ∀ k : _root_.Fin 64, formP (64512 + (k.val : Int)) = 14 → ((64512 + (k.val : Int)) % 2 == 1) = nbn (64512 + (k.val : Int)) := by decide +kernel
        have := key ⟨(op - 64512).toNat, by omega⟩
        rw [show (64512 + (((op - 64512).toNat : Nat) : Int)) = op by omega] at this
        exact this hk
  exact ⟨g, g⟩
set_option maxRecDepth 100000 in
set_option maxHeartbeats 4000000 in
theorem rest14_any {w : World} {b : Nat} {v : Value} {l : List Int} {st0 : Except (Nat × Nat) Nat} (h : D9 w b v l st0) (op : Int) (h0 : 0 ≤ op) (h1 : op ≤ 65535) (hk : formP op = 14) :
    Calls Tryz.prog 10 #[.pointer (some ⟨b, 0, none⟩), .int .i64 op] w fun en w' => ∃ es st', en = .returned (.agg es) ∧ es.size = 17 ∧ (∀ (j : Nat) (u : Value), es[j]? = some u → u.oneCell' = true) ∧ Fin9 b v l w w' st' ∧ InsA w.heap.size (runI (restF op l) st0) es w' st' := by
  have H : Hid (D9 w b v l st0) := h
  have hb : b < w.heap.size := h.lt
  obtain ⟨R, hR⟩ : ∃ R, runI (restF op l) st0 = R := ⟨_, rfl⟩
  rw [hR]
  have HR : Hid (runI (restF op l) st0 = R) := hR
  obtain ⟨GG, N0, hM⟩ := two_alloc w #[.int .i64 0, .int .u32 0, .int .u32 0, .int .u64 0, .int .u32 0, .int .u32 0, .int .u64 0, .int .i64 0, .int .i64 0, .bool false, .int .i64 0, .slice none 0 0, .slice none 0 0, .bool false, .slice none 0 0, .slice none 0 0, .slice none 0 0] #[.int .i64 op, .int .u32 0, .int .u32 0, .int .u64 0, .int .u32 0, .int .u32 0, .int .u64 0, .int .i64 0, .int .i64 0, .bool false, .int .i64 0, .slice none 0 0, .slice none 0 0, .bool false, .slice none 0 0, .slice none 0 0, .slice none 0 0] 36
  have S0 : Hid (S9I w w b (w.heap.size + 1) v l _ st0 (insA (IN0 op) NILS NILS NILS)) := ⟨⟨_, h⟩, GG.out.turn _, h.grew GG.out, hM, rfl, by omega, es0_one op, GG.out.turn _⟩
  have G0 : Hid (Got w.heap.size l R op [12] true st0 (insA (IN0 op) NILS NILS NILS) ((w.alloc (.cells #[.int .i64 0, .int .u32 0, .int .u32 0, .int .u64 0, .int .u32 0, .int .u32 0, .int .u64 0, .int .i64 0, .int .i64 0, .bool false, .int .i64 0, .slice none 0 0, .slice none 0 0, .bool false, .slice none 0 0, .slice none 0 0, .slice none 0 0] 36)).alloc (.cells #[.int .i64 op, .int .u32 0, .int .u32 0, .int .u64 0, .int .u32 0, .int .u32 0, .int .u64 0, .int .i64 0, .int .i64 0, .bool false, .int .i64 0, .slice none 0 0, .slice none 0 0, .bool false, .slice none 0 0, .slice none 0 0, .slice none 0 0] 36))) := by
    have := got_start (B := w.heap.size) (l := l) (op := op) (st := st0) (w := (w.alloc (.cells #[.int .i64 0, .int .u32 0, .int .u32 0, .int .u64 0, .int .u32 0, .int .u32 0, .int .u64 0, .int .i64 0, .int .i64 0, .bool false, .int .i64 0, .slice none 0 0, .slice none 0 0, .bool false, .slice none 0 0, .slice none 0 0, .slice none 0 0] 36)).alloc (.cells #[.int .i64 op, .int .u32 0, .int .u32 0, .int .u64 0, .int .u32 0, .int .u32 0, .int .u64 0, .int .i64 0, .int .i64 0, .bool false, .int .i64 0, .slice none 0 0, .slice none 0 0, .bool false, .slice none 0 0, .slice none 0 0, .slice none 0 0] 36)) (r := [12]) (by rw [hk]; rfl)
    rw [hR] at this
    exact this
  have HWD : Hid (BA (formD op) = BA [99, 97, 115, 116]) := by show BA (formD op) = _; rw [word_is, hk]; rfl
  obtain ⟨nb, hnb⟩ : ∃ nb, nbn op = nb := ⟨_, rfl⟩
  have NB : Hid (nbn op = nb) := hnb
  have ht1 : (op.tmod 2 == 1) = nb := by rw [← hnb]; exact (cast_nb h0 h1 hk).1
  have ht2 : (op % 2 == 1) = nb := by rw [← hnb]; exact (cast_nb h0 h1 hk).2
  clear hnb
  clear h hR hM GG
  go_enter Tryz.func10, Tryz.ntmps10
  go_wp2_with (first
    | with_reducible refine stop_store 36 rfl ?_
    | fail)
  unfold Stop
  refine wpList_store_last rfl 36 (.tmp 5) (.tmp 13) rfl #[.int .i64 op, .int .u32 0, .int .u32 0, .int .u64 0, .int .u32 0, .int .u32 0, .int .u64 0, .int .i64 0, .int .i64 0, .bool false, .int .i64 0, .slice none 0 0, .slice none 0 0, .bool false, .slice none 0 0, .slice none 0 0, .slice none 0 0] (by go_simp) (by go_simp) _ (by kernel_rfl) rfl (by simp [Value.oneCell']) ?_
  obtain ⟨M, hMM⟩ : ∃ M, w.heap.size + 1 = M := ⟨_, rfl⟩
  rw [hMM] at S0
  obtain ⟨es0, hes0⟩ : ∃ es0, insA (IN0 op) NILS NILS NILS = es0 := ⟨_, rfl⟩
  rw [hes0] at S0 G0
  generalize (w.alloc (.cells #[.int .i64 0, .int .u32 0, .int .u32 0, .int .u64 0, .int .u32 0, .int .u32 0, .int .u64 0, .int .i64 0, .int .i64 0, .bool false, .int .i64 0, .slice none 0 0, .slice none 0 0, .bool false, .slice none 0 0, .slice none 0 0, .slice none 0 0] 36)).alloc (.cells #[.int .i64 op, .int .u32 0, .int .u32 0, .int .u64 0, .int .u32 0, .int .u32 0, .int .u64 0, .int .i64 0, .int .i64 0, .bool false, .int .i64 0, .slice none 0 0, .slice none 0 0, .bool false, .slice none 0 0, .slice none 0 0, .slice none 0 0] 36) = W0' at *
  clear hes0
  go_wp2_with fail
  refine (refForm_any op (by omega) (by omega) W0').mono ?_
  rintro en W0 ⟨rfl, g0⟩
  have S0 : Hid (S9I w w b M v l W0 st0 es0) := S0.out.grew g0
  have N0 : Hid (W0.heap[w.heap.size]? = some (.cells #[.int .i64 0, .int .u32 0, .int .u32 0, .int .u64 0, .int .u32 0, .int .u32 0, .int .u64 0, .int .i64 0, .int .i64 0, .bool false, .int .i64 0, .slice none 0 0, .slice none 0 0, .bool false, .slice none 0 0, .slice none 0 0, .slice none 0 0] 36 (0, 0))) := (g0.turn []).other N0.out (by simp)
  have G0 : Hid (Got w.heap.size l R op [12] true st0 es0 W0) := by
    obtain ⟨a1, a2, a3⟩ := G0.out
    refine ⟨a1, a2, ?_⟩
    cases st0 with
    | error e => exact a3
    | ok q =>
      obtain ⟨i, lab, ty, ca, e1, e2, r1, r2, r3, e3⟩ := a3
      exact ⟨i, lab, ty, ca, e1, e2, row_turn r1 (g0.turn []) (by simp), row_turn r2 (g0.turn []) (by simp), row_turn r3 (g0.turn []) (by simp), e3⟩
  clear g0
  rw [HWD.out]
  obtain ⟨sx, hsx⟩ : ∃ sx, BA [99, 97, 115, 116] = sx := ⟨_, rfl⟩
  rw [hsx]
  have q0 : (sx.toList == [98, 108, 111, 99, 107]) = false := by rw [← hsx, ba_list]; decide
  have q1 : (sx.toList == [116, 114, 121]) = false := by rw [← hsx, ba_list]; decide
  have q2 : (sx.toList == [120]) = false := by rw [← hsx, ba_list]; decide
  have q3 : (sx.toList == [120, 121]) = false := by rw [← hsx, ba_list]; decide
  have q4 : (sx.toList == [116, 97, 98, 108, 101]) = false := by rw [← hsx, ba_list]; decide
  have q5 : (sx.toList == [115, 101, 108, 101, 99, 116]) = false := by rw [← hsx, ba_list]; decide
  have q6 : (sx.toList == [109, 101, 109]) = false := by rw [← hsx, ba_list]; decide
  have q7 : (sx.toList == [105, 51, 50]) = false := by rw [← hsx, ba_list]; decide
  have q8 : (sx.toList == [105, 54, 52]) = false := by rw [← hsx, ba_list]; decide
  have q9 : (sx.toList == [102, 51, 50]) = false := by rw [← hsx, ba_list]; decide
  have q10 : (sx.toList == [102, 54, 52]) = false := by rw [← hsx, ba_list]; decide
  have q11 : (sx.toList == [104, 101, 97, 112]) = false := by rw [← hsx, ba_list]; decide
  have q12 : (sx.toList == [99, 97, 115, 116]) = true := by rw [← hsx, ba_list]; decide
  clear hsx
  obtain ⟨st0', hst⟩ : ∃ s, s = st0 := ⟨_, rfl⟩
  clear hst st0'
  go_wp2_with fail
  refine (d9heap_any S0.out.di).mono ?_
  rintro en w1 ⟨y, sx1, rfl, f1, t1⟩
  have SA : Hid (S9I w W0 b M v l w1 sx1 es0) := S0.out.rebase.step f1
  have TA : Hid (TieI (runI (heapR l) st0) y sx1) := t1
  clear f1 t1
  go_wp2_with fail
  refine (dref_any nb y w1).mono ?_
  rintro en w1b ⟨rfl, gb⟩
  have SB : Hid (S9I w W0 b M v l (w1b.alloc (.cells #[.int .i64 5, .bool nb, .int .i64 y] 28)) sx1 es0) := (SA.out.grew gb).grew ((Grew.refl _).alloc _)
  have RB : Hid (RowV w.heap.size (w1b.alloc (.cells #[.int .i64 5, .bool nb, .int .i64 y] 28)) (.slice (some ⟨w1b.heap.size, 0, none⟩) 1 1) [⟨5, nb, y⟩]) := row_low (rowV_one w1b ⟨5, nb, y⟩) (SA.out.grew gb).low
  obtain ⟨u15, hu15, _⟩ := SB.out.cell 15 (by decide)
  have z15 := free_of SB.out.io 15
  clear gb
  go_wp2_with (first
    | with_reducible refine stop_load 36 rfl ?_
    | fail)
  have FL : Fld9 w W0 b M v l es0 (runI (heapR l) st0) (fun y w' es' => ∃ rv, RowV w.heap.size w' rv [⟨5, nbn op, y⟩] ∧ es' = es0.setIfInBounds 15 rv) (.returned (.tuple #[])) ((w1b.alloc (.cells #[.int .i64 5, .bool nb, .int .i64 y] 28)).setCell ⟨M, 15, none⟩ (.slice (some ⟨w1b.heap.size, 0, none⟩) 1 1)) := ⟨rfl, y, sx1, _, SB.out.set 15 _, head_keep (by decide), TA.out, .slice (some ⟨w1b.heap.size, 0, none⟩) 1 1, (by rw [NB.out]; exact row_set RB.out (NoT.of SB.out.io (by decide)) _), rfl⟩
  have GN := got_step9 (Rf := heapR l) (f := 12) (fun i y => { i with types := [⟨5, nbn i.op, y⟩] }) (by intro i q; simp [fldR, mapR_mapR, labelsR, catchesR]) S0.out.rebase G0.out FL ?hP1
  case hP1 =>
    · rintro i lab ty ca y es' q q' rfl hop hq r1 r2 r3 ⟨rv, hr, hes⟩
      rw [← hop] at hr
      exact ⟨lab, rv, ca, hes, hop, r1, hr, r3⟩
  have hW' : ∃ W', W' = (w1b.alloc (.cells #[.int .i64 5, .bool nb, .int .i64 y] 28)).setCell ⟨M, 15, none⟩ (.slice (some ⟨w1b.heap.size, 0, none⟩) 1 1) := ⟨_, rfl⟩
  generalize (w1b.alloc (.cells #[.int .i64 5, .bool nb, .int .i64 y] 28)).setCell ⟨M, 15, none⟩ (.slice (some ⟨w1b.heap.size, 0, none⟩) 1 1) = W1 at *
  obtain ⟨_, st1, es1, s1, g1⟩ := GN
  have S1 : Hid (S9I w W0 b M v l W1 st1 es1) := s1
  have G1 : Hid (Got w.heap.size l R op [] false st1 es1 W1) := g1
  have N1 : Hid (W1.heap[w.heap.size]? = some (.cells #[.int .i64 0, .int .u32 0, .int .u32 0, .int .u64 0, .int .u32 0, .int .u32 0, .int .u64 0, .int .i64 0, .int .i64 0, .bool false, .int .i64 0, .slice none 0 0, .slice none 0 0, .bool false, .slice none 0 0, .slice none 0 0, .slice none 0 0] 36 (0, 0))) := s1.tm.other N0.out (by simp; omega)
  clear RB SB FL s1 g1 hW' SA TA
  have GE := got_end G1.out
  unfold Stop
  refine wpList_load_row rfl 36 (.tmp 5) rfl M (by go_simp) 36 es1 (0, 0) _ S1.out.io Tryz.underlying36 rfl (by rw [S1.out.sz]; kernel_rfl) ?_
  go_wp2_with (first
    | with_reducible refine stop_store 36 rfl ?_
    | fail)
  unfold Stop
  refine wpList_store_row rfl 36 (.tmp 4) (.tmp 164) rfl w.heap.size es1 (by go_simp) (by go_simp) 36 _ N1.out (by rw [S1.out.sz]; kernel_rfl) (by rw [S1.out.sz]; rfl) (by rw [Array.all_eq_true]; intro i hi; exact S1.out.one i _ (by simp)) ?_
  go_wp2_with fail
  refine bodyPost_ret (v := .agg es1) ?_ rfl ?_
  · exact results_cell_row Tryz.results10 _ _ w.heap.size 36 _ (0, 0) _ rfl (heap_setRow N1.out) Tryz.underlying36 rfl (by rw [S1.out.sz]; kernel_rfl)
  have tr := S1.out.tn.row (Nat.le_refl _) es1
  refine ⟨es1, st1, rfl, S1.out.sz, S1.out.one, ⟨tr, H.out.of tr (S1.out.di.st.same (setRow_other _ _ _ _ (by omega)))⟩, ?_⟩
  exact GE.turn (Turn.rowSelf _ _ _) (by intro x hx; simp at hx; subst hx; exact NoT.of N1.out (by decide)) (by intro x hx; simp at hx; subst hx; exact NoT.of N1.out (by decide)) (by intro x hx; simp at hx; subst hx; exact NoT.of N1.out (by decide))
set_option maxRecDepth 100000 in
set_option maxHeartbeats 4000000 in
theorem rest15_any {w : World} {b : Nat} {v : Value} {l : List Int} {st0 : Except (Nat × Nat) Nat} (h : D9 w b v l st0) (op : Int) (h0 : 0 ≤ op) (h1 : op ≤ 65535) (hk : formP op = 15) :
    Calls Tryz.prog 10 #[.pointer (some ⟨b, 0, none⟩), .int .i64 op] w fun en w' => ∃ es st', en = .returned (.agg es) ∧ es.size = 17 ∧ (∀ (j : Nat) (u : Value), es[j]? = some u → u.oneCell' = true) ∧ Fin9 b v l w w' st' ∧ InsA w.heap.size (runI (restF op l) st0) es w' st' := by
  have H : Hid (D9 w b v l st0) := h
  have hb : b < w.heap.size := h.lt
  obtain ⟨R, hR⟩ : ∃ R, runI (restF op l) st0 = R := ⟨_, rfl⟩
  rw [hR]
  have HR : Hid (runI (restF op l) st0 = R) := hR
  obtain ⟨GG, N0, hM⟩ := two_alloc w #[.int .i64 0, .int .u32 0, .int .u32 0, .int .u64 0, .int .u32 0, .int .u32 0, .int .u64 0, .int .i64 0, .int .i64 0, .bool false, .int .i64 0, .slice none 0 0, .slice none 0 0, .bool false, .slice none 0 0, .slice none 0 0, .slice none 0 0] #[.int .i64 op, .int .u32 0, .int .u32 0, .int .u64 0, .int .u32 0, .int .u32 0, .int .u64 0, .int .i64 0, .int .i64 0, .bool false, .int .i64 0, .slice none 0 0, .slice none 0 0, .bool false, .slice none 0 0, .slice none 0 0, .slice none 0 0] 36
  have S0 : Hid (S9I w w b (w.heap.size + 1) v l _ st0 (insA (IN0 op) NILS NILS NILS)) := ⟨⟨_, h⟩, GG.out.turn _, h.grew GG.out, hM, rfl, by omega, es0_one op, GG.out.turn _⟩
  have G0 : Hid (Got w.heap.size l R op [13] true st0 (insA (IN0 op) NILS NILS NILS) ((w.alloc (.cells #[.int .i64 0, .int .u32 0, .int .u32 0, .int .u64 0, .int .u32 0, .int .u32 0, .int .u64 0, .int .i64 0, .int .i64 0, .bool false, .int .i64 0, .slice none 0 0, .slice none 0 0, .bool false, .slice none 0 0, .slice none 0 0, .slice none 0 0] 36)).alloc (.cells #[.int .i64 op, .int .u32 0, .int .u32 0, .int .u64 0, .int .u32 0, .int .u32 0, .int .u64 0, .int .i64 0, .int .i64 0, .bool false, .int .i64 0, .slice none 0 0, .slice none 0 0, .bool false, .slice none 0 0, .slice none 0 0, .slice none 0 0] 36))) := by
    have := got_start (B := w.heap.size) (l := l) (op := op) (st := st0) (w := (w.alloc (.cells #[.int .i64 0, .int .u32 0, .int .u32 0, .int .u64 0, .int .u32 0, .int .u32 0, .int .u64 0, .int .i64 0, .int .i64 0, .bool false, .int .i64 0, .slice none 0 0, .slice none 0 0, .bool false, .slice none 0 0, .slice none 0 0, .slice none 0 0] 36)).alloc (.cells #[.int .i64 op, .int .u32 0, .int .u32 0, .int .u64 0, .int .u32 0, .int .u32 0, .int .u64 0, .int .i64 0, .int .i64 0, .bool false, .int .i64 0, .slice none 0 0, .slice none 0 0, .bool false, .slice none 0 0, .slice none 0 0, .slice none 0 0] 36)) (r := [13]) (by rw [hk]; rfl)
    rw [hR] at this
    exact this
  have HWD : Hid (BA (formD op) = BA [98, 114, 95, 99, 97, 115, 116]) := by show BA (formD op) = _; rw [word_is, hk]; rfl
  clear h hR hM GG
  go_enter Tryz.func10, Tryz.ntmps10
  go_wp2_with (first
    | with_reducible refine stop_store 36 rfl ?_
    | fail)
  unfold Stop
  refine wpList_store_last rfl 36 (.tmp 5) (.tmp 13) rfl #[.int .i64 op, .int .u32 0, .int .u32 0, .int .u64 0, .int .u32 0, .int .u32 0, .int .u64 0, .int .i64 0, .int .i64 0, .bool false, .int .i64 0, .slice none 0 0, .slice none 0 0, .bool false, .slice none 0 0, .slice none 0 0, .slice none 0 0] (by go_simp) (by go_simp) _ (by kernel_rfl) rfl (by simp [Value.oneCell']) ?_
  obtain ⟨M, hMM⟩ : ∃ M, w.heap.size + 1 = M := ⟨_, rfl⟩
  rw [hMM] at S0
  obtain ⟨es0, hes0⟩ : ∃ es0, insA (IN0 op) NILS NILS NILS = es0 := ⟨_, rfl⟩
  rw [hes0] at S0 G0
  generalize (w.alloc (.cells #[.int .i64 0, .int .u32 0, .int .u32 0, .int .u64 0, .int .u32 0, .int .u32 0, .int .u64 0, .int .i64 0, .int .i64 0, .bool false, .int .i64 0, .slice none 0 0, .slice none 0 0, .bool false, .slice none 0 0, .slice none 0 0, .slice none 0 0] 36)).alloc (.cells #[.int .i64 op, .int .u32 0, .int .u32 0, .int .u64 0, .int .u32 0, .int .u32 0, .int .u64 0, .int .i64 0, .int .i64 0, .bool false, .int .i64 0, .slice none 0 0, .slice none 0 0, .bool false, .slice none 0 0, .slice none 0 0, .slice none 0 0] 36) = W0' at *
  clear hes0
  go_wp2_with fail
  refine (refForm_any op (by omega) (by omega) W0').mono ?_
  rintro en W0 ⟨rfl, g0⟩
  have S0 : Hid (S9I w w b M v l W0 st0 es0) := S0.out.grew g0
  have N0 : Hid (W0.heap[w.heap.size]? = some (.cells #[.int .i64 0, .int .u32 0, .int .u32 0, .int .u64 0, .int .u32 0, .int .u32 0, .int .u64 0, .int .i64 0, .int .i64 0, .bool false, .int .i64 0, .slice none 0 0, .slice none 0 0, .bool false, .slice none 0 0, .slice none 0 0, .slice none 0 0] 36 (0, 0))) := (g0.turn []).other N0.out (by simp)
  have G0 : Hid (Got w.heap.size l R op [13] true st0 es0 W0) := by
    obtain ⟨a1, a2, a3⟩ := G0.out
    refine ⟨a1, a2, ?_⟩
    cases st0 with
    | error e => exact a3
    | ok q =>
      obtain ⟨i, lab, ty, ca, e1, e2, r1, r2, r3, e3⟩ := a3
      exact ⟨i, lab, ty, ca, e1, e2, row_turn r1 (g0.turn []) (by simp), row_turn r2 (g0.turn []) (by simp), row_turn r3 (g0.turn []) (by simp), e3⟩
  clear g0
  rw [HWD.out]
  obtain ⟨sx, hsx⟩ : ∃ sx, BA [98, 114, 95, 99, 97, 115, 116] = sx := ⟨_, rfl⟩
  rw [hsx]
  have q0 : (sx.toList == [98, 108, 111, 99, 107]) = false := by rw [← hsx, ba_list]; decide
  have q1 : (sx.toList == [116, 114, 121]) = false := by rw [← hsx, ba_list]; decide
  have q2 : (sx.toList == [120]) = false := by rw [← hsx, ba_list]; decide
  have q3 : (sx.toList == [120, 121]) = false := by rw [← hsx, ba_list]; decide
  have q4 : (sx.toList == [116, 97, 98, 108, 101]) = false := by rw [← hsx, ba_list]; decide
  have q5 : (sx.toList == [115, 101, 108, 101, 99, 116]) = false := by rw [← hsx, ba_list]; decide
  have q6 : (sx.toList == [109, 101, 109]) = false := by rw [← hsx, ba_list]; decide
  have q7 : (sx.toList == [105, 51, 50]) = false := by rw [← hsx, ba_list]; decide
  have q8 : (sx.toList == [105, 54, 52]) = false := by rw [← hsx, ba_list]; decide
  have q9 : (sx.toList == [102, 51, 50]) = false := by rw [← hsx, ba_list]; decide
  have q10 : (sx.toList == [102, 54, 52]) = false := by rw [← hsx, ba_list]; decide
  have q11 : (sx.toList == [104, 101, 97, 112]) = false := by rw [← hsx, ba_list]; decide
  have q12 : (sx.toList == [99, 97, 115, 116]) = false := by rw [← hsx, ba_list]; decide
  have q13 : (sx.toList == [98, 114, 95, 99, 97, 115, 116]) = true := by rw [← hsx, ba_list]; decide
  clear hsx
  obtain ⟨st0', hst⟩ : ∃ s, s = st0 := ⟨_, rfl⟩
  clear hst st0'
  go_wp2_with fail
  refine (d9small_any S0.out.di).mono ?_
  rintro en w1 ⟨k, sx1, rfl, hk1, f1, t1⟩
  have SA1 : Hid (S9I w W0 b M v l w1 sx1 es0) := S0.out.rebase.step f1
  have T1 : Hid (TieI (runI (belowR 4 l) st0) k sx1) := t1
  obtain ⟨n1, hn1⟩ : ∃ n1, b1P k = n1 := ⟨_, rfl⟩
  obtain ⟨n2, hn2⟩ : ∃ n2, b2P k = n2 := ⟨_, rfl⟩
  have B1 : Hid (b1P k = n1) := hn1
  have B2 : Hid (b2P k = n2) := hn2
  have e1 : (k.tmod 2 == 1) = n1 := by rw [← hn1, Int.tmod_eq_emod_of_nonneg hk1.1]; unfold b1P; rfl
  have e1' : (k % 2 == 1) = n1 := by rw [← hn1]; unfold b1P; rfl
  have e2 : decide (2 ≤ k) = n2 := by rw [← hn2]; rfl
  clear f1 t1 hn1 hn2
  go_wp2_with fail
  refine (d9u32_any SA1.out.di).mono ?_
  rintro en w2 ⟨x, sx2, rfl, f2, t2⟩
  have SA2 : Hid (S9I w W0 b M v l w2 sx2 es0) := SA1.out.step f2
  have T2 : Hid (TieI (runI (u32R l) sx1) x sx2) := t2
  obtain ⟨u1, hu1, _⟩ := SA2.out.cell 1 (by decide)
  have z1 := free_of SA2.out.io 1
  clear f2 t2
  go_wp2_with fail
  have SA3 : Hid (S9I w W0 b M v l (w2.setCell ⟨M, 1, none⟩ (.int .u32 x)) sx2 (es0.setIfInBounds 1 (.int .u32 x))) := SA2.out.set 1 _
  refine (d9heap_any SA3.out.di).mono ?_
  rintro en w4 ⟨a, sx4, rfl, f4, t4⟩
  have SA4 : Hid (S9I w W0 b M v l w4 sx4 (es0.setIfInBounds 1 (.int .u32 x))) := SA3.out.step f4
  have T4 : Hid (TieI (runI (heapR l) sx2) a sx4) := t4
  clear f4 t4 SA1 SA2 SA3 hu1 z1
  go_wp2_with fail
  refine (dref_any n1 a w4).mono ?_
  rintro en w5 ⟨rfl, g5⟩
  have SA5 : Hid (S9I w W0 b M v l w5 sx4 (es0.setIfInBounds 1 (.int .u32 x))) := SA4.out.grew g5
  clear g5 SA4
  go_wp2_with fail
  refine (d9heap_any SA5.out.di).mono ?_
  rintro en w6 ⟨d, sx6, rfl, f6, t6⟩
  have SA6 : Hid (S9I w W0 b M v l w6 sx6 (es0.setIfInBounds 1 (.int .u32 x))) := SA5.out.step f6
  have T6 : Hid (TieI (runI (heapR l) sx4) d sx6) := t6
  clear f6 t6 SA5
  go_wp2_with fail
  refine (dref_any n2 d w6).mono ?_
  rintro en w7 ⟨rfl, g7⟩
  have SB : Hid (S9I w W0 b M v l (w7.alloc (.cells #[.int .i64 5, .bool n1, .int .i64 a, .int .i64 5, .bool n2, .int .i64 d] 28)) sx6 (es0.setIfInBounds 1 (.int .u32 x))) := (SA6.out.grew g7).grew ((Grew.refl _).alloc _)
  have RB : Hid (RowV w.heap.size (w7.alloc (.cells #[.int .i64 5, .bool n1, .int .i64 a, .int .i64 5, .bool n2, .int .i64 d] 28)) (.slice (some ⟨w7.heap.size, 0, none⟩) 2 2) [⟨5, n1, a⟩, ⟨5, n2, d⟩]) := row_low (rowV_two w7 ⟨5, n1, a⟩ ⟨5, n2, d⟩) (SA6.out.grew g7).low
  obtain ⟨u15, hu15, _⟩ := SB.out.cell 15 (by decide)
  have z15 := free_of SB.out.io 15
  have TA : Hid (TieI (runI (brF l) st0) (k, x, a, d) sx6) := by
    refine TieI.seq T1.out ?_
    refine TieI.seq T2.out ?_
    refine TieI.seq T4.out ?_
    rw [runI_map]
    exact T6.out.map _
  have SA : Hid True := trivial
  clear g7 SA6
  go_wp2_with (first
    | with_reducible refine stop_load 36 rfl ?_
    | fail)
  have FL : Fld9 w W0 b M v l es0 (runI (brF l) st0) (fun y w' es' => ∃ rv, RowV w.heap.size w' rv [⟨5, b1P y.1, y.2.2.1⟩, ⟨5, b2P y.1, y.2.2.2⟩] ∧ es' = (es0.setIfInBounds 1 (.int .u32 y.2.1)).setIfInBounds 15 rv) (.returned (.tuple #[])) ((w7.alloc (.cells #[.int .i64 5, .bool n1, .int .i64 a, .int .i64 5, .bool n2, .int .i64 d] 28)).setCell ⟨M, 15, none⟩ (.slice (some ⟨w7.heap.size, 0, none⟩) 2 2)) := ⟨rfl, (k, x, a, d), sx6, _, SB.out.set 15 _, (head_keep (by decide)).trans (head_keep (by decide)), TA.out, .slice (some ⟨w7.heap.size, 0, none⟩) 2 2, (by show RowV _ _ _ [⟨5, b1P k, a⟩, ⟨5, b2P k, d⟩]; rw [B1.out, B2.out]; exact row_set RB.out (NoT.of SB.out.io (by decide)) _), rfl⟩
  have GN := got_step9 (Rf := brF l) (f := 13) (fun i y => { i with x := y.2.1, types := [⟨5, b1P y.1, y.2.2.1⟩, ⟨5, b2P y.1, y.2.2.2⟩] }) (by intro i q; simp [fldR, mapR_mapR, labelsR, catchesR]) S0.out.rebase G0.out FL ?hP1
  case hP1 =>
    · rintro i lab ty ca y es' q q' rfl hop hq r1 r2 r3 ⟨rv, hr, hes⟩
      exact ⟨lab, rv, ca, hes, hop, r1, hr, r3⟩
  have hW' : ∃ W', W' = (w7.alloc (.cells #[.int .i64 5, .bool n1, .int .i64 a, .int .i64 5, .bool n2, .int .i64 d] 28)).setCell ⟨M, 15, none⟩ (.slice (some ⟨w7.heap.size, 0, none⟩) 2 2) := ⟨_, rfl⟩
  generalize (w7.alloc (.cells #[.int .i64 5, .bool n1, .int .i64 a, .int .i64 5, .bool n2, .int .i64 d] 28)).setCell ⟨M, 15, none⟩ (.slice (some ⟨w7.heap.size, 0, none⟩) 2 2) = W1 at *
  obtain ⟨_, st1, es1, s1, g1⟩ := GN
  have S1 : Hid (S9I w W0 b M v l W1 st1 es1) := s1
  have G1 : Hid (Got w.heap.size l R op [] false st1 es1 W1) := g1
  have N1 : Hid (W1.heap[w.heap.size]? = some (.cells #[.int .i64 0, .int .u32 0, .int .u32 0, .int .u64 0, .int .u32 0, .int .u32 0, .int .u64 0, .int .i64 0, .int .i64 0, .bool false, .int .i64 0, .slice none 0 0, .slice none 0 0, .bool false, .slice none 0 0, .slice none 0 0, .slice none 0 0] 36 (0, 0))) := s1.tm.other N0.out (by simp; omega)
  clear RB SB FL s1 g1 hW' SA TA
  have GE := got_end G1.out
  unfold Stop
  refine wpList_load_row rfl 36 (.tmp 5) rfl M (by go_simp) 36 es1 (0, 0) _ S1.out.io Tryz.underlying36 rfl (by rw [S1.out.sz]; kernel_rfl) ?_
  go_wp2_with (first
    | with_reducible refine stop_store 36 rfl ?_
    | fail)
  unfold Stop
  refine wpList_store_row rfl 36 (.tmp 4) (.tmp 164) rfl w.heap.size es1 (by go_simp) (by go_simp) 36 _ N1.out (by rw [S1.out.sz]; kernel_rfl) (by rw [S1.out.sz]; rfl) (by rw [Array.all_eq_true]; intro i hi; exact S1.out.one i _ (by simp)) ?_
  go_wp2_with fail
  refine bodyPost_ret (v := .agg es1) ?_ rfl ?_
  · exact results_cell_row Tryz.results10 _ _ w.heap.size 36 _ (0, 0) _ rfl (heap_setRow N1.out) Tryz.underlying36 rfl (by rw [S1.out.sz]; kernel_rfl)
  have tr := S1.out.tn.row (Nat.le_refl _) es1
  refine ⟨es1, st1, rfl, S1.out.sz, S1.out.one, ⟨tr, H.out.of tr (S1.out.di.st.same (setRow_other _ _ _ _ (by omega)))⟩, ?_⟩
  exact GE.turn (Turn.rowSelf _ _ _) (by intro x hx; simp at hx; subst hx; exact NoT.of N1.out (by decide)) (by intro x hx; simp at hx; subst hx; exact NoT.of N1.out (by decide)) (by intro x hx; simp at hx; subst hx; exact NoT.of N1.out (by decide))
end Go.Proofs.YtohapnninjdlfaaGreatDoor
