/-
  The document's reading: the walk of sub; no statement is proved here.
-/
import Derived.Test.YtgdhocdbcgmokaaDoorDStr
namespace Go.Proofs.YtgdhocdbcgmokaaDoor
open Go.RowKit
set_option linter.unusedVariables false
set_option linter.unusedSimpArgs false
set_option linter.constructorNameAsVariable false

set_option maxRecDepth 100000 in
set_option maxHeartbeats 1000000 in
theorem dsub_else {w : World} {b : Nat} {v : Value} {l : List Int} {p : Nat} (h : DR w b v l (.ok p)) (hp : p < l.length) (c : Int) (hcv : l.getD p 0 = c) (d1 : (c != 80) = true) (d2 : (c != 79) = true) :
    Calls Tryd.prog 74 #[.pointer (some ⟨b, 0, none⟩)] w (TAns SubC b v l w (mapR (fun t => ⟨true, [], t⟩) (compR l p))) := by
  have H : Hid (DR w b v l (.ok p)) := h
  have hb : b < w.heap.size := h.lt
  have hl := h.len
  have P : Hid (∀ w', DR w' b v l (.ok p) → Calls Tryd.prog 116 #[.pointer (some ⟨b, 0, none⟩)] w' fun en w'' => en = .returned (.tuple #[.int .u8 c, .bool true]) ∧ Grew w' w'') := fun w' u => by rw [← hcv]; exact dpeek_ok u hp
  clear h hcv
  have S0 : Hid (DR (w.alloc (.cells #[.bool false, .slice none 0 0, .int .i64 0, .slice none 0 0, .slice none 0 0, .slice none 0 0] 63)) b v l (.ok p)) := H.out.grew ((Grew.refl w).alloc _)
  have T0 : Hid (Turn [b] w (w.alloc (.cells #[.bool false, .slice none 0 0, .int .i64 0, .slice none 0 0, .slice none 0 0, .slice none 0 0] 63))) := (Turn.refl [b] w).alloc _
  have N0 : Hid ((w.alloc (.cells #[.bool false, .slice none 0 0, .int .i64 0, .slice none 0 0, .slice none 0 0, .slice none 0 0] 63)).heap[w.heap.size]? = some (.cells #[.bool false, .slice none 0 0, .int .i64 0, .slice none 0 0, .slice none 0 0, .slice none 0 0] 63 (0, 0))) := heap_alloc_last _ _
  go_enter Tryd.func74, Tryd.ntmps74
  go_wp2_with fail
  refine (P.out _ S0.out).mono ?_
  rintro en w1 ⟨rfl, g1⟩
  have T1 : Hid (Turn [b] w w1) := T0.out.trans (g1.turn _)
  have S1 : Hid (DR w1 b v l (.ok p)) := S0.out.grew g1
  have N1 : Hid (w1.heap[w.heap.size]? = some (.cells #[.bool false, .slice none 0 0, .int .i64 0, .slice none 0 0, .slice none 0 0, .slice none 0 0] 63 (0, 0))) := (g1.turn []).other N0.out (by simp)
  clear g1 T0 S0 N0
  go_wp2_with fail
  refine (dcomp_any S1.out).mono ?_
  rintro en w2 ⟨cs, x, st4, rfl, r4, ⟨t2, s2⟩, e4⟩
  have T2 : Hid (Turn [b] w w2) := T1.out.trans t2
  have S2 : Hid (DR w2 b v l st4) := s2
  have E4 : Hid _ := e4
  have N2 : Hid (w2.heap[w.heap.size]? = some (.cells #[.bool false, .slice none 0 0, .int .i64 0, .slice none 0 0, .slice none 0 0, .slice none 0 0] 63 (0, 0))) := t2.other N1.out (by simp; omega)
  have hlo : w.heap.size ≤ w1.heap.size := T1.out.size
  obtain ⟨pv, rv, fv, hcs, z1, z2, z3⟩ := r4
  obtain ⟨pa, pc, hpv⟩ := row_one z1
  obtain ⟨ra, rc, hrv⟩ := row_one z2
  obtain ⟨fa, fc, hfv⟩ := row_one z3
  subst hpv
  subst hrv
  subst hfv
  subst hcs
  have Z1 : Hid (RowV w.heap.size w2 (.slice pa x.params.length pc) x.params) := z1.low hlo
  have Z2 : Hid (RowV w.heap.size w2 (.slice ra x.results.length rc) x.results) := z2.low hlo
  have Z3 : Hid (RowF w.heap.size w2 (.slice fa x.fields.length fc) x.fields) := z3.low hlo
  clear z1 z2 z3 t2 s2 e4 T1 S1 N1
  have hne : ¬ b = w.heap.size := by omega
  have n0 := cell_of N2.out 0
  have y0 := free_of N2.out 0
  have n1 := cell_of N2.out 1
  have y1 := free_of N2.out 1
  have n2 := cell_of N2.out 2
  have y2 := free_of N2.out 2
  have n3 := cell_of N2.out 3
  have y3 := free_of N2.out 3
  have n4 := cell_of N2.out 4
  have y4 := free_of N2.out 4
  have n5 := cell_of N2.out 5
  have y5 := free_of N2.out 5
  simp at n0 n1 n2 n3 n4 n5
  go_wp2_with fail
  have tN : Turn [w.heap.size] w2 ((((((w2.setCell ⟨w.heap.size, 0, none⟩ (.bool true)).setCell ⟨w.heap.size, 1, none⟩ (.slice none 0 0)).setCell ⟨w.heap.size, 2, none⟩ (.int .i64 x.kind)).setCell ⟨w.heap.size, 3, none⟩ (.slice pa x.params.length pc)).setCell ⟨w.heap.size, 4, none⟩ (.slice ra x.results.length rc)).setCell ⟨w.heap.size, 5, none⟩ (.slice fa x.fields.length fc)) := ((((((Turn.refl [w.heap.size] w2).set (Or.inl (by simp)) _).set (Or.inl (by simp)) _).set (Or.inl (by simp)) _).set (Or.inl (by simp)) _).set (Or.inl (by simp)) _).set (Or.inl (by simp)) _
  have nV : ∀ y ∈ [w.heap.size], NoT w2 y 29 := fun y hy => by simp at hy; subst hy; exact NoT.of N2.out (by decide)
  have nF : ∀ y ∈ [w.heap.size], NoT w2 y 48 := fun y hy => by simp at hy; subst hy; exact NoT.of N2.out (by decide)
  refine bodyPost_ret (v := .agg #[.bool true, .slice none 0 0, .int .i64 x.kind, .slice pa x.params.length pc, .slice ra x.results.length rc, .slice fa x.fields.length fc]) (by simp [results, Tryd.results74, go_sem, n0, n1, n2, n3, n4, n5]) rfl ?_
  exact ⟨[.bool true, .slice none 0 0, .int .i64 x.kind, .slice pa x.params.length pc, .slice ra x.results.length rc, .slice fa x.fields.length fc], ⟨true, [], x⟩, st4, rfl, ⟨_, _, _, _, rfl, World.ownsRow_nil _ _ _ _, Z1.out.turn tN nV, Z2.out.turn tN nV, Z3.out.turn tN nF⟩, (((((((FinD.mk_ T2.out S2.out).set H.out (Nat.le_refl _)).set H.out (Nat.le_refl _)).set H.out (Nat.le_refl _)).set H.out (Nat.le_refl _)).set H.out (Nat.le_refl _)).set H.out (Nat.le_refl _)), TieD.map (fun t => (⟨true, [], t⟩ : SB)) E4.out⟩
theorem sub_no {l : List Int} {st : Except (Nat × Nat) Nat} (hp : ¬ Ahead l st) : runR (subR l) st = mapR (fun t => ⟨true, [], t⟩) (runR (compR l) st) := by
  cases st with
  | error e => rfl
  | ok p =>
    have hp' : ¬ p < l.length := fun h => hp ⟨p, rfl, h⟩
    show subR l p = mapR _ (compR l p)
    unfold subR compR
    rw [atR_no hp', atR_no hp']
    rfl
set_option maxRecDepth 100000 in
set_option maxHeartbeats 1000000 in
theorem dsub_no {w : World} {b : Nat} {v : Value} {l : List Int} {st : Except (Nat × Nat) Nat} (h : DR w b v l st) (hp : ¬ Ahead l st) :
    Calls Tryd.prog 74 #[.pointer (some ⟨b, 0, none⟩)] w (TAns SubC b v l w (runR (subR l) st)) := by
  have H : Hid (DR w b v l st) := h
  have hb : b < w.heap.size := h.lt
  rw [sub_no hp]
  clear h
  have S0 : Hid (DR (w.alloc (.cells #[.bool false, .slice none 0 0, .int .i64 0, .slice none 0 0, .slice none 0 0, .slice none 0 0] 63)) b v l st) := H.out.grew ((Grew.refl w).alloc _)
  have T0 : Hid (Turn [b] w (w.alloc (.cells #[.bool false, .slice none 0 0, .int .i64 0, .slice none 0 0, .slice none 0 0, .slice none 0 0] 63))) := (Turn.refl [b] w).alloc _
  have N0 : Hid ((w.alloc (.cells #[.bool false, .slice none 0 0, .int .i64 0, .slice none 0 0, .slice none 0 0, .slice none 0 0] 63)).heap[w.heap.size]? = some (.cells #[.bool false, .slice none 0 0, .int .i64 0, .slice none 0 0, .slice none 0 0, .slice none 0 0] 63 (0, 0))) := heap_alloc_last _ _
  go_enter Tryd.func74, Tryd.ntmps74
  go_wp2_with fail
  refine (dpeek_no S0.out hp).mono ?_
  rintro en w1 ⟨rfl, g1⟩
  have T1 : Hid (Turn [b] w w1) := T0.out.trans (g1.turn _)
  have S1 : Hid (DR w1 b v l st) := S0.out.grew g1
  have N1 : Hid (w1.heap[w.heap.size]? = some (.cells #[.bool false, .slice none 0 0, .int .i64 0, .slice none 0 0, .slice none 0 0, .slice none 0 0] 63 (0, 0))) := (g1.turn []).other N0.out (by simp)
  clear g1 T0 S0 N0
  go_wp2_with fail
  refine (dcomp_any S1.out).mono ?_
  rintro en w2 ⟨cs, x, st4, rfl, r4, ⟨t2, s2⟩, e4⟩
  have T2 : Hid (Turn [b] w w2) := T1.out.trans t2
  have S2 : Hid (DR w2 b v l st4) := s2
  have E4 : Hid _ := e4
  have N2 : Hid (w2.heap[w.heap.size]? = some (.cells #[.bool false, .slice none 0 0, .int .i64 0, .slice none 0 0, .slice none 0 0, .slice none 0 0] 63 (0, 0))) := t2.other N1.out (by simp; omega)
  have hlo : w.heap.size ≤ w1.heap.size := T1.out.size
  obtain ⟨pv, rv, fv, hcs, z1, z2, z3⟩ := r4
  obtain ⟨pa, pc, hpv⟩ := row_one z1
  obtain ⟨ra, rc, hrv⟩ := row_one z2
  obtain ⟨fa, fc, hfv⟩ := row_one z3
  subst hpv
  subst hrv
  subst hfv
  subst hcs
  have Z1 : Hid (RowV w.heap.size w2 (.slice pa x.params.length pc) x.params) := z1.low hlo
  have Z2 : Hid (RowV w.heap.size w2 (.slice ra x.results.length rc) x.results) := z2.low hlo
  have Z3 : Hid (RowF w.heap.size w2 (.slice fa x.fields.length fc) x.fields) := z3.low hlo
  clear z1 z2 z3 t2 s2 e4 T1 S1 N1
  have hne : ¬ b = w.heap.size := by omega
  have n0 := cell_of N2.out 0
  have y0 := free_of N2.out 0
  have n1 := cell_of N2.out 1
  have y1 := free_of N2.out 1
  have n2 := cell_of N2.out 2
  have y2 := free_of N2.out 2
  have n3 := cell_of N2.out 3
  have y3 := free_of N2.out 3
  have n4 := cell_of N2.out 4
  have y4 := free_of N2.out 4
  have n5 := cell_of N2.out 5
  have y5 := free_of N2.out 5
  simp at n0 n1 n2 n3 n4 n5
  go_wp2_with fail
  have tN : Turn [w.heap.size] w2 ((((((w2.setCell ⟨w.heap.size, 0, none⟩ (.bool true)).setCell ⟨w.heap.size, 1, none⟩ (.slice none 0 0)).setCell ⟨w.heap.size, 2, none⟩ (.int .i64 x.kind)).setCell ⟨w.heap.size, 3, none⟩ (.slice pa x.params.length pc)).setCell ⟨w.heap.size, 4, none⟩ (.slice ra x.results.length rc)).setCell ⟨w.heap.size, 5, none⟩ (.slice fa x.fields.length fc)) := ((((((Turn.refl [w.heap.size] w2).set (Or.inl (by simp)) _).set (Or.inl (by simp)) _).set (Or.inl (by simp)) _).set (Or.inl (by simp)) _).set (Or.inl (by simp)) _).set (Or.inl (by simp)) _
  have nV : ∀ y ∈ [w.heap.size], NoT w2 y 29 := fun y hy => by simp at hy; subst hy; exact NoT.of N2.out (by decide)
  have nF : ∀ y ∈ [w.heap.size], NoT w2 y 48 := fun y hy => by simp at hy; subst hy; exact NoT.of N2.out (by decide)
  refine bodyPost_ret (v := .agg #[.bool true, .slice none 0 0, .int .i64 x.kind, .slice pa x.params.length pc, .slice ra x.results.length rc, .slice fa x.fields.length fc]) (by simp [results, Tryd.results74, go_sem, n0, n1, n2, n3, n4, n5]) rfl ?_
  exact ⟨[.bool true, .slice none 0 0, .int .i64 x.kind, .slice pa x.params.length pc, .slice ra x.results.length rc, .slice fa x.fields.length fc], ⟨true, [], x⟩, st4, rfl, ⟨_, _, _, _, rfl, World.ownsRow_nil _ _ _ _, Z1.out.turn tN nV, Z2.out.turn tN nV, Z3.out.turn tN nF⟩, (((((((FinD.mk_ T2.out S2.out).set H.out (Nat.le_refl _)).set H.out (Nat.le_refl _)).set H.out (Nat.le_refl _)).set H.out (Nat.le_refl _)).set H.out (Nat.le_refl _)).set H.out (Nat.le_refl _)), TieD.map (fun t => (⟨true, [], t⟩ : SB)) E4.out⟩
set_option maxRecDepth 100000 in
set_option maxHeartbeats 1000000 in
theorem dsub_80 {w : World} {b : Nat} {v : Value} {l : List Int} {p : Nat} (h : DR w b v l (.ok p)) (hp : p < l.length) (c : Int) (hcv : l.getD p 0 = c) (hn : c = 80) :
    Calls Tryd.prog 74 #[.pointer (some ⟨b, 0, none⟩)] w (TAns SubC b v l w (thenR (listR 1000 (tyU l) l (p + 1)) fun ss q => mapR (fun t => ⟨false, ss, t⟩) (compR l q))) := by
  have H : Hid (DR w b v l (.ok p)) := h
  have hb : b < w.heap.size := h.lt
  have hl := h.len
  have P : Hid (∀ w', DR w' b v l (.ok p) → Calls Tryd.prog 116 #[.pointer (some ⟨b, 0, none⟩)] w' fun en w'' => en = .returned (.tuple #[.int .u8 c, .bool true]) ∧ Grew w' w'') := fun w' u => by rw [← hcv]; exact dpeek_ok u hp
  clear h hcv
  subst hn
  obtain ⟨R, hR⟩ : ∃ R, R = listR 1000 (tyU l) l (p + 1) := ⟨_, rfl⟩
  rw [← hR]
  have C : Hid (∀ w', DR w' b v l (.ok (p + 1)) → Calls Tryd.prog 126 #[.pointer (some ⟨b, 0, none⟩), .int .i64 1000] w' fun en w'' => ∃ (N : Nat) (st1 : Except (Nat × Nat) Nat), en = .returned (.int .i64 (N : Int)) ∧ N ≤ 1000 ∧ FinD b v l w' w'' st1 ∧ Left R (tyU l) N [] st1) := fun w' u => by rw [hR]; exact many_tie u 1000 (by decide) (tyU l)
  clear hR
  have S0 : Hid (DR (w.alloc (.cells #[.bool false, .slice none 0 0, .int .i64 0, .slice none 0 0, .slice none 0 0, .slice none 0 0] 63)) b v l (.ok p)) := H.out.grew ((Grew.refl w).alloc _)
  have T0 : Hid (Turn [b] w (w.alloc (.cells #[.bool false, .slice none 0 0, .int .i64 0, .slice none 0 0, .slice none 0 0, .slice none 0 0] 63))) := (Turn.refl [b] w).alloc _
  have N0 : Hid ((w.alloc (.cells #[.bool false, .slice none 0 0, .int .i64 0, .slice none 0 0, .slice none 0 0, .slice none 0 0] 63)).heap[w.heap.size]? = some (.cells #[.bool false, .slice none 0 0, .int .i64 0, .slice none 0 0, .slice none 0 0, .slice none 0 0] 63 (0, 0))) := heap_alloc_last _ _
  go_enter Tryd.func74, Tryd.ntmps74
  go_wp2_with fail
  refine (P.out _ S0.out).mono ?_
  rintro en w1 ⟨rfl, g1⟩
  have T1 : Hid (Turn [b] w w1) := T0.out.trans (g1.turn _)
  have S1 : Hid (DR w1 b v l (.ok p)) := S0.out.grew g1
  have N1 : Hid (w1.heap[w.heap.size]? = some (.cells #[.bool false, .slice none 0 0, .int .i64 0, .slice none 0 0, .slice none 0 0, .slice none 0 0] 63 (0, 0))) := (g1.turn []).other N0.out (by simp)
  clear g1 T0 S0 N0
  have c1_1 := cell_of S1.out.st.1 1
  have z1_1 := free_of S1.out.st.1 1
  simp at c1_1
  have hq2 : p + 1 ≤ l.length := by omega
  go_wp2_with fail
  generalize hw2 : w1.setCell { block := b, off := 1 } (Value.int IntKind.i64 ((p : Int) + 1)) = w2
  have hsz : w2.heap.size = w1.heap.size := by rw [← hw2]; simp
  have f2 : FinD b v l w w2 (.ok (p + 1)) := by rw [← hw2]; exact (FinD.mk_ T1.out S1.out).inc hq2
  have T2 : Hid (Turn [b] w w2) := f2.1
  have S2 : Hid (DR w2 b v l (.ok (p + 1))) := f2.2
  have N2 : Hid (w2.heap[w.heap.size]? = some (.cells #[.bool false, .slice none 0 0, .int .i64 0, .slice none 0 0, .slice none 0 0, .slice none 0 0] 63 (0, 0))) := by rw [← hw2]; exact heap_other N1.out (by simp; omega) _
  clear f2 hw2 c1_1 z1_1 T1 S1 N1
  have hNM : w.heap.size < w1.heap.size := by rw [← hsz]; exact lt_of_obj N2.out
  generalize hw3 : w2.alloc (.cells #[.bool false, .slice none 0 0, .int .i64 0, .slice none 0 0, .slice none 0 0, .slice none 0 0] 63) = w3
  have X3 : Hid (CX w b w1.heap.size v l (.cells #[.bool false, .slice none 0 0, .int .i64 0, .slice none 0 0, .slice none 0 0, .slice none 0 0] 63 (0, 0)) (.cells #[.bool false, .slice none 0 0, .int .i64 0, .slice none 0 0, .slice none 0 0, .slice none 0 0] 63 (0, 0)) (.ok (p + 1)) w3) := by
    rw [← hw3, ← hsz]
    exact ⟨heap_alloc_last _ _, (((Grew.refl w2).alloc _).turn []).other N2.out (by simp), by simp, T2.out.alloc _, S2.out.grew ((Grew.refl w2).alloc _)⟩
  clear hw3 T2 S2 N2 hsz
  generalize w1.heap.size = M at *
  refine (C.out _ X3.out.2.2.2.2).mono ?_
  rintro en w4 ⟨N, st1, rfl, hN, ⟨t4, s4⟩, e4⟩
  have X4 : Hid (CX w b M v l (.cells #[.bool false, .slice none 0 0, .int .i64 0, .slice none 0 0, .slice none 0 0, .slice none 0 0] 63 (0, 0)) (.cells #[.bool false, .slice none 0 0, .int .i64 0, .slice none 0 0, .slice none 0 0, .slice none 0 0] 63 (0, 0)) st1 w4) := X3.out.next t4 s4 hb hNM
  have E3 : Hid (Left R (tyU l) N [] st1) := e4
  clear t4 s4 e4 X3
  go_wp2_with fail
  go_loopw [7] (fun i_ wr => ∃ (k : Nat) (acc : List Int) (fv : Value) (stq : Except (Nat × Nat) Nat), i_ = .int .i64 k ∧ k ≤ N ∧ acc.length = k ∧ Hid (CX w b M v l (.cells #[.bool false, .slice none 0 0, .int .i64 0, .slice none 0 0, .slice none 0 0, .slice none 0 0] 63 (0, 0)) (.cells #[.bool false, fv, .int .i64 0, .slice none 0 0, .slice none 0 0, .slice none 0 0] 63 (0, 0)) stq wr) ∧ Hid (RowI (M + 1) wr fv acc) ∧ Hid (Left R (tyU l) (N - k) acc stq)) (fun i_ _ => N - (intOf i_).toNat)
  case atStart => exact ⟨0, [], .slice none 0 0, st1, rfl, by omega, rfl, X4, World.ownsRow_nil _ _ _ _, E3⟩
  case round =>
    obtain ⟨k, acc, fv, stq, rfl, hk, hacc, XR, FR, ER⟩ := hrel
    subst hacc
    obtain ⟨aa, cc, hv⟩ := row_one FR.out
    subst hv
    obtain ⟨w0, hw0⟩ : ∃ w0, w0 = wr := ⟨_, rfl⟩
    rw [← hw0] at XR FR ⊢
    clear hw0 X4 E3
    rcases ER.out with ⟨q, rfl, hE⟩ | ⟨e, rfl, hE⟩
    · have c3 := cell_of XR.out.2.2.2.2.st.1 3
      simp at c3
      by_cases hkn : acc.length < N
      · have d4 : decide ((acc.length : Int) < (N : Int)) = true := by simp; omega
        have d4' : decide (acc.length < N) = true := by simpa using hkn
        rw [show N - acc.length = (N - (acc.length + 1)) + 1 by omega] at hE
        have HE : Hid (∀ x st', TieD (runR (tyU l) (.ok q)) x st' → Left R (tyU l) (N - (acc.length + 1)) (acc ++ [x]) st') := fun x st' t => Left.next hE t
        have NC : Hid (∀ w', Grew w0 w' → Calls Tryd.prog 137 #[.pointer (some ⟨b, 0, none⟩)] w' fun en w'' => ∃ x st', en = .returned (.int .i64 x) ∧ Turn [b] w0 w'' ∧ DR w'' b v l st' ∧ TieD (runR (tyU l) (.ok q)) x st') := by
          intro w' g
          refine (DAns.tie (dtypeAt_any (XR.out.2.2.2.2.grew g))).mono ?_
          rintro en w'' ⟨x, st', rfl, ⟨t, s'⟩, td⟩
          exact ⟨x, st', rfl, (g.turn _).trans t, s', td⟩
        have mq := cell_of XR.out.1 1
        have mz := free_of XR.out.1 1
        simp at mq
        clear hE ER
        go_wp2_with fail
        go_region_law (first
          | (refine step_typeAt (.tmp 52) rfl rfl rfl (NC.out _ (by first | exact Grew.refl _ | exact (Grew.refl _).drew | exact (Grew.refl _).drewN _ | exact ((Grew.refl _).drew).drew | exact ((Grew.refl _).drewN _).drew)) ?_
             rintro en w6 ⟨n6, st6, rfl, t6, s6, td6⟩
             refine ⟨_, rfl, ?_⟩
             have y6 := XR.out.next t6 s6 hb hNM
             have X6 : Hid (CX w b M v l (.cells #[.bool false, .slice none 0 0, .int .i64 0, .slice none 0 0, .slice none 0 0, .slice none 0 0] 63 (0, 0)) (.cells #[.bool false, .slice aa acc.length cc, .int .i64 0, .slice none 0 0, .slice none 0 0, .slice none 0 0] 63 (0, 0)) st6 w6) := y6
             have F6 : Hid (RowI (M + 1) w6 (.slice aa acc.length cc) acc) := FR.out.next t6 XR.out.2.2.2.2
             have TD6 : Hid (TieD (runR (tyU l) (.ok q)) n6 st6) := td6
             have q6 := cell_of y6.1 1
             have z6 := free_of y6.1 1
             simp at q6
             have q6a := cell_of (heap_alloc y6.1 (.cells #[.int .i64 n6] 3)) 1
             simp at q6a
             clear t6 s6 td6 y6)
          | (refine step_appI (w0 := w6) (B := M + 1) (b := M + 1) (v := (.slice aa acc.length cc)) (l := acc) (c := n6) (ad := ⟨w6.heap.size, 0, none⟩) rfl (.tmp 51) (.tmp 54) rfl rfl rfl (by first | exact ((Grew.refl _).alloc _) | exact ((Grew.refl _).alloc _).drew | exact ((Grew.refl _).alloc _).drewN _ | exact ((Grew.refl _).drew.alloc _) | exact ((Grew.refl _).drewN _).alloc _ | exact (((Grew.refl _).drew).alloc _).drew | exact (((Grew.refl _).drewN _).alloc _).drew) F6.out X6.out.2.2.1 (by simp) (by first | omega | simp) ?_
             intro v7 w7 I7' t7
             obtain ⟨a7, c7, hv7⟩ := row_one I7'
             subst hv7
             have F7 : Hid (RowI (M + 1) w7 (.slice a7 (acc ++ [n6]).length c7) (acc ++ [n6])) := I7'
             have y7 := X6.out.app H.out t7 hb hNM
             have X7 : Hid (CX w b M v l (.cells #[.bool false, .slice none 0 0, .int .i64 0, .slice none 0 0, .slice none 0 0, .slice none 0 0] 63 (0, 0)) (.cells #[.bool false, .slice aa acc.length cc, .int .i64 0, .slice none 0 0, .slice none 0 0, .slice none 0 0] 63 (0, 0)) st6 w7) := y7
             have q7 := cell_of y7.1 1
             have z7 := free_of y7.1 1
             simp at q7
             clear t7 y7 I7'))
        all_goals
          go_wp2_with fail
          have X8 := X7.out.set (o' := (.cells #[.bool false, .slice a7 (acc ++ [n6]).length c7, .int .i64 0, .slice none 0 0, .slice none 0 0, .slice none 0 0] 63 (0, 0))) H.out hNM 1 (.slice a7 (acc ++ [n6]).length c7) (by have hh := heap_set X7.out.1 1 (.slice a7 (acc ++ [n6]).length c7); simpa using hh)
          have F8 : RowI (M + 1) (w7.setCell ⟨M, 1, none⟩ (.slice a7 (acc ++ [n6]).length c7)) _ _ := row_set F7.out (NoT.of X7.out.1 (by decide)) (.slice a7 (acc ++ [n6]).length c7)
          have E8 := HE.out _ _ TD6.out
          simp only [List.length_append, List.length_cons, List.length_nil, Nat.zero_add] at X8 F8
          go_roundw
          case rel => exact ⟨acc.length + 1, acc ++ [n6], _, st6, by go_num, by omega, by simp, X8, F8, E8⟩
          case measure => simp [intOf]; omega
      · have d4 : decide ((acc.length : Int) < (N : Int)) = false := by simp; omega
        have d4' : decide (acc.length < N) = false := by simpa using hkn
        rw [show N - acc.length = 0 by omega] at hE
        have TE : Hid (TieD R acc (.ok q)) := hE
        clear hE ER
        go_wp2_with fail
        refine (dcomp_any XR.out.2.2.2.2).mono ?_
        rintro en w5 ⟨cs, x, st4, rfl, r4, ⟨t5, s5⟩, e4⟩
        have E4 : Hid _ := e4
        have Y : Hid (CX w b M v l (.cells #[.bool false, .slice none 0 0, .int .i64 0, .slice none 0 0, .slice none 0 0, .slice none 0 0] 63 (0, 0)) (.cells #[.bool false, .slice aa acc.length cc, .int .i64 0, .slice none 0 0, .slice none 0 0, .slice none 0 0] 63 (0, 0)) st4 w5) := XR.out.next t5 s5 hb hNM
        have Z0 : Hid (RowI w.heap.size w5 (.slice aa acc.length cc) acc) := row_low (FR.out.next t5 XR.out.2.2.2.2) (by omega)
        have hlo : w.heap.size ≤ w0.heap.size := XR.out.2.2.2.1.size
        obtain ⟨pv, rv, fv, hcs, z1, z2, z3⟩ := r4
        obtain ⟨pa, pc, hpv⟩ := row_one z1
        obtain ⟨ra, rc, hrv⟩ := row_one z2
        obtain ⟨fa, fc, hfv⟩ := row_one z3
        subst hpv
        subst hrv
        subst hfv
        subst hcs
        have Z1 : Hid (RowV w.heap.size w5 (.slice pa x.params.length pc) x.params) := z1.low hlo
        have Z2 : Hid (RowV w.heap.size w5 (.slice ra x.results.length rc) x.results) := z2.low hlo
        have Z3 : Hid (RowF w.heap.size w5 (.slice fa x.fields.length fc) x.fields) := z3.low hlo
        clear z1 z2 z3 t5 s5 e4 XR FR
        have hne : ¬ b = w.heap.size := by omega
        have hn2 : ¬ M = w.heap.size := by omega
        have hn3 : ¬ w.heap.size = M := by omega
        have m0 := cell_of Y.out.1 0
        have x0 := free_of Y.out.1 0
        have n0 := cell_of Y.out.2.1 0
        have y0 := free_of Y.out.2.1 0
        have m1 := cell_of Y.out.1 1
        have x1 := free_of Y.out.1 1
        have n1 := cell_of Y.out.2.1 1
        have y1 := free_of Y.out.2.1 1
        have m2 := cell_of Y.out.1 2
        have x2 := free_of Y.out.1 2
        have n2 := cell_of Y.out.2.1 2
        have y2 := free_of Y.out.2.1 2
        have m3 := cell_of Y.out.1 3
        have x3 := free_of Y.out.1 3
        have n3 := cell_of Y.out.2.1 3
        have y3 := free_of Y.out.2.1 3
        have m4 := cell_of Y.out.1 4
        have x4 := free_of Y.out.1 4
        have n4 := cell_of Y.out.2.1 4
        have y4 := free_of Y.out.2.1 4
        have m5 := cell_of Y.out.1 5
        have x5 := free_of Y.out.1 5
        have n5 := cell_of Y.out.2.1 5
        have y5 := free_of Y.out.2.1 5
        simp at m0 n0 m1 n1 m2 n2 m3 n3 m4 n4 m5 n5
        go_wp2_with fail
        have tN : Turn [M, w.heap.size] w5 ((((((((((w5.setCell ⟨M, 2, none⟩ (.int .i64 x.kind)).setCell ⟨M, 3, none⟩ (.slice pa x.params.length pc)).setCell ⟨M, 4, none⟩ (.slice ra x.results.length rc)).setCell ⟨M, 5, none⟩ (.slice fa x.fields.length fc)).setCell ⟨w.heap.size, 0, none⟩ (.bool false)).setCell ⟨w.heap.size, 1, none⟩ (.slice aa acc.length cc)).setCell ⟨w.heap.size, 2, none⟩ (.int .i64 x.kind)).setCell ⟨w.heap.size, 3, none⟩ (.slice pa x.params.length pc)).setCell ⟨w.heap.size, 4, none⟩ (.slice ra x.results.length rc)).setCell ⟨w.heap.size, 5, none⟩ (.slice fa x.fields.length fc)) := ((((((((((Turn.refl [M, w.heap.size] w5).set (Or.inl (by simp)) _).set (Or.inl (by simp)) _).set (Or.inl (by simp)) _).set (Or.inl (by simp)) _).set (Or.inl (by simp)) _).set (Or.inl (by simp)) _).set (Or.inl (by simp)) _).set (Or.inl (by simp)) _).set (Or.inl (by simp)) _).set (Or.inl (by simp)) _
        have nI : ∀ y ∈ [M, w.heap.size], NoT w5 y 3 := fun y hy => by
          simp at hy
          rcases hy with rfl | rfl
          · exact NoT.of Y.out.1 (by decide)
          · exact NoT.of Y.out.2.1 (by decide)
        have nV : ∀ y ∈ [M, w.heap.size], NoT w5 y 29 := fun y hy => by
          simp at hy
          rcases hy with rfl | rfl
          · exact NoT.of Y.out.1 (by decide)
          · exact NoT.of Y.out.2.1 (by decide)
        have nF : ∀ y ∈ [M, w.heap.size], NoT w5 y 48 := fun y hy => by
          simp at hy
          rcases hy with rfl | rfl
          · exact NoT.of Y.out.1 (by decide)
          · exact NoT.of Y.out.2.1 (by decide)
        have FF := (((((((((((FinD.mk_ Y.out.2.2.2.1 Y.out.2.2.2.2).set (N := M) (j := 2) H.out (by omega) (x := .int .i64 x.kind)).set (N := M) (j := 3) H.out (by omega) (x := .slice pa x.params.length pc)).set (N := M) (j := 4) H.out (by omega) (x := .slice ra x.results.length rc)).set (N := M) (j := 5) H.out (by omega) (x := .slice fa x.fields.length fc)).set (N := w.heap.size) (j := 0) H.out (Nat.le_refl _) (x := .bool false)).set (N := w.heap.size) (j := 1) H.out (Nat.le_refl _) (x := .slice aa acc.length cc)).set (N := w.heap.size) (j := 2) H.out (Nat.le_refl _) (x := .int .i64 x.kind)).set (N := w.heap.size) (j := 3) H.out (Nat.le_refl _) (x := .slice pa x.params.length pc)).set (N := w.heap.size) (j := 4) H.out (Nat.le_refl _) (x := .slice ra x.results.length rc)).set (N := w.heap.size) (j := 5) H.out (Nat.le_refl _) (x := .slice fa x.fields.length fc))
        refine bodyPost_ret (v := .agg #[.bool false, .slice aa acc.length cc, .int .i64 x.kind, .slice pa x.params.length pc, .slice ra x.results.length rc, .slice fa x.fields.length fc]) (by simp [results, Tryd.results74, go_sem, n0, n1, n2, n3, n4, n5, hn2, hn3]) rfl ?_
        exact ⟨[.bool false, .slice aa acc.length cc, .int .i64 x.kind, .slice pa x.params.length pc, .slice ra x.results.length rc, .slice fa x.fields.length fc], ⟨false, acc, x⟩, st4, rfl, ⟨_, _, _, _, rfl, Z0.out.turn tN nI, Z1.out.turn tN nV, Z2.out.turn tN nV, Z3.out.turn tN nF⟩, FF, TieD.then2 (fun ss t => (⟨false, ss, t⟩ : SB)) TE.out E4.out⟩
    · have TE : Hid (TieD R acc (.error e)) := hE
      obtain ⟨fe, ee⟩ := e
      obtain ⟨a1, o1, _, he1⟩ := XR.out.2.2.2.2.st
      have c3 := cell_of o1 3
      simp at c3
      have de : ((ee : Int) == 0) = false := by simp; exact he1
      clear hE ER o1
      by_cases hkn : acc.length < N
      · have d4 : decide ((acc.length : Int) < (N : Int)) = true := by simp; omega
        have d4' : decide (acc.length < N) = true := by simpa using hkn
        go_wp2_with fail
        refine (dcomp_any XR.out.2.2.2.2).mono ?_
        rintro en w5 ⟨cs, x, st4, rfl, r4, ⟨t5, s5⟩, e4⟩
        have E4 : Hid _ := e4
        have Y : Hid (CX w b M v l (.cells #[.bool false, .slice none 0 0, .int .i64 0, .slice none 0 0, .slice none 0 0, .slice none 0 0] 63 (0, 0)) (.cells #[.bool false, .slice aa acc.length cc, .int .i64 0, .slice none 0 0, .slice none 0 0, .slice none 0 0] 63 (0, 0)) st4 w5) := XR.out.next t5 s5 hb hNM
        have Z0 : Hid (RowI w.heap.size w5 (.slice aa acc.length cc) acc) := row_low (FR.out.next t5 XR.out.2.2.2.2) (by omega)
        have hlo : w.heap.size ≤ w0.heap.size := XR.out.2.2.2.1.size
        obtain ⟨pv, rv, fv, hcs, z1, z2, z3⟩ := r4
        obtain ⟨pa, pc, hpv⟩ := row_one z1
        obtain ⟨ra, rc, hrv⟩ := row_one z2
        obtain ⟨fa, fc, hfv⟩ := row_one z3
        subst hpv
        subst hrv
        subst hfv
        subst hcs
        have Z1 : Hid (RowV w.heap.size w5 (.slice pa x.params.length pc) x.params) := z1.low hlo
        have Z2 : Hid (RowV w.heap.size w5 (.slice ra x.results.length rc) x.results) := z2.low hlo
        have Z3 : Hid (RowF w.heap.size w5 (.slice fa x.fields.length fc) x.fields) := z3.low hlo
        clear z1 z2 z3 t5 s5 e4 XR FR
        have hne : ¬ b = w.heap.size := by omega
        have hn2 : ¬ M = w.heap.size := by omega
        have hn3 : ¬ w.heap.size = M := by omega
        have m0 := cell_of Y.out.1 0
        have x0 := free_of Y.out.1 0
        have n0 := cell_of Y.out.2.1 0
        have y0 := free_of Y.out.2.1 0
        have m1 := cell_of Y.out.1 1
        have x1 := free_of Y.out.1 1
        have n1 := cell_of Y.out.2.1 1
        have y1 := free_of Y.out.2.1 1
        have m2 := cell_of Y.out.1 2
        have x2 := free_of Y.out.1 2
        have n2 := cell_of Y.out.2.1 2
        have y2 := free_of Y.out.2.1 2
        have m3 := cell_of Y.out.1 3
        have x3 := free_of Y.out.1 3
        have n3 := cell_of Y.out.2.1 3
        have y3 := free_of Y.out.2.1 3
        have m4 := cell_of Y.out.1 4
        have x4 := free_of Y.out.1 4
        have n4 := cell_of Y.out.2.1 4
        have y4 := free_of Y.out.2.1 4
        have m5 := cell_of Y.out.1 5
        have x5 := free_of Y.out.1 5
        have n5 := cell_of Y.out.2.1 5
        have y5 := free_of Y.out.2.1 5
        simp at m0 n0 m1 n1 m2 n2 m3 n3 m4 n4 m5 n5
        go_wp2_with fail
        have tN : Turn [M, w.heap.size] w5 ((((((((((w5.setCell ⟨M, 2, none⟩ (.int .i64 x.kind)).setCell ⟨M, 3, none⟩ (.slice pa x.params.length pc)).setCell ⟨M, 4, none⟩ (.slice ra x.results.length rc)).setCell ⟨M, 5, none⟩ (.slice fa x.fields.length fc)).setCell ⟨w.heap.size, 0, none⟩ (.bool false)).setCell ⟨w.heap.size, 1, none⟩ (.slice aa acc.length cc)).setCell ⟨w.heap.size, 2, none⟩ (.int .i64 x.kind)).setCell ⟨w.heap.size, 3, none⟩ (.slice pa x.params.length pc)).setCell ⟨w.heap.size, 4, none⟩ (.slice ra x.results.length rc)).setCell ⟨w.heap.size, 5, none⟩ (.slice fa x.fields.length fc)) := ((((((((((Turn.refl [M, w.heap.size] w5).set (Or.inl (by simp)) _).set (Or.inl (by simp)) _).set (Or.inl (by simp)) _).set (Or.inl (by simp)) _).set (Or.inl (by simp)) _).set (Or.inl (by simp)) _).set (Or.inl (by simp)) _).set (Or.inl (by simp)) _).set (Or.inl (by simp)) _).set (Or.inl (by simp)) _
        have nI : ∀ y ∈ [M, w.heap.size], NoT w5 y 3 := fun y hy => by
          simp at hy
          rcases hy with rfl | rfl
          · exact NoT.of Y.out.1 (by decide)
          · exact NoT.of Y.out.2.1 (by decide)
        have nV : ∀ y ∈ [M, w.heap.size], NoT w5 y 29 := fun y hy => by
          simp at hy
          rcases hy with rfl | rfl
          · exact NoT.of Y.out.1 (by decide)
          · exact NoT.of Y.out.2.1 (by decide)
        have nF : ∀ y ∈ [M, w.heap.size], NoT w5 y 48 := fun y hy => by
          simp at hy
          rcases hy with rfl | rfl
          · exact NoT.of Y.out.1 (by decide)
          · exact NoT.of Y.out.2.1 (by decide)
        have FF := (((((((((((FinD.mk_ Y.out.2.2.2.1 Y.out.2.2.2.2).set (N := M) (j := 2) H.out (by omega) (x := .int .i64 x.kind)).set (N := M) (j := 3) H.out (by omega) (x := .slice pa x.params.length pc)).set (N := M) (j := 4) H.out (by omega) (x := .slice ra x.results.length rc)).set (N := M) (j := 5) H.out (by omega) (x := .slice fa x.fields.length fc)).set (N := w.heap.size) (j := 0) H.out (Nat.le_refl _) (x := .bool false)).set (N := w.heap.size) (j := 1) H.out (Nat.le_refl _) (x := .slice aa acc.length cc)).set (N := w.heap.size) (j := 2) H.out (Nat.le_refl _) (x := .int .i64 x.kind)).set (N := w.heap.size) (j := 3) H.out (Nat.le_refl _) (x := .slice pa x.params.length pc)).set (N := w.heap.size) (j := 4) H.out (Nat.le_refl _) (x := .slice ra x.results.length rc)).set (N := w.heap.size) (j := 5) H.out (Nat.le_refl _) (x := .slice fa x.fields.length fc))
        refine bodyPost_ret (v := .agg #[.bool false, .slice aa acc.length cc, .int .i64 x.kind, .slice pa x.params.length pc, .slice ra x.results.length rc, .slice fa x.fields.length fc]) (by simp [results, Tryd.results74, go_sem, n0, n1, n2, n3, n4, n5, hn2, hn3]) rfl ?_
        exact ⟨[.bool false, .slice aa acc.length cc, .int .i64 x.kind, .slice pa x.params.length pc, .slice ra x.results.length rc, .slice fa x.fields.length fc], ⟨false, acc, x⟩, st4, rfl, ⟨_, _, _, _, rfl, Z0.out.turn tN nI, Z1.out.turn tN nV, Z2.out.turn tN nV, Z3.out.turn tN nF⟩, FF, TieD.then2 (fun ss t => (⟨false, ss, t⟩ : SB)) TE.out E4.out⟩
      · have d4 : decide ((acc.length : Int) < (N : Int)) = false := by simp; omega
        have d4' : decide (acc.length < N) = false := by simpa using hkn
        go_wp2_with fail
        refine (dcomp_any XR.out.2.2.2.2).mono ?_
        rintro en w5 ⟨cs, x, st4, rfl, r4, ⟨t5, s5⟩, e4⟩
        have E4 : Hid _ := e4
        have Y : Hid (CX w b M v l (.cells #[.bool false, .slice none 0 0, .int .i64 0, .slice none 0 0, .slice none 0 0, .slice none 0 0] 63 (0, 0)) (.cells #[.bool false, .slice aa acc.length cc, .int .i64 0, .slice none 0 0, .slice none 0 0, .slice none 0 0] 63 (0, 0)) st4 w5) := XR.out.next t5 s5 hb hNM
        have Z0 : Hid (RowI w.heap.size w5 (.slice aa acc.length cc) acc) := row_low (FR.out.next t5 XR.out.2.2.2.2) (by omega)
        have hlo : w.heap.size ≤ w0.heap.size := XR.out.2.2.2.1.size
        obtain ⟨pv, rv, fv, hcs, z1, z2, z3⟩ := r4
        obtain ⟨pa, pc, hpv⟩ := row_one z1
        obtain ⟨ra, rc, hrv⟩ := row_one z2
        obtain ⟨fa, fc, hfv⟩ := row_one z3
        subst hpv
        subst hrv
        subst hfv
        subst hcs
        have Z1 : Hid (RowV w.heap.size w5 (.slice pa x.params.length pc) x.params) := z1.low hlo
        have Z2 : Hid (RowV w.heap.size w5 (.slice ra x.results.length rc) x.results) := z2.low hlo
        have Z3 : Hid (RowF w.heap.size w5 (.slice fa x.fields.length fc) x.fields) := z3.low hlo
        clear z1 z2 z3 t5 s5 e4 XR FR
        have hne : ¬ b = w.heap.size := by omega
        have hn2 : ¬ M = w.heap.size := by omega
        have hn3 : ¬ w.heap.size = M := by omega
        have m0 := cell_of Y.out.1 0
        have x0 := free_of Y.out.1 0
        have n0 := cell_of Y.out.2.1 0
        have y0 := free_of Y.out.2.1 0
        have m1 := cell_of Y.out.1 1
        have x1 := free_of Y.out.1 1
        have n1 := cell_of Y.out.2.1 1
        have y1 := free_of Y.out.2.1 1
        have m2 := cell_of Y.out.1 2
        have x2 := free_of Y.out.1 2
        have n2 := cell_of Y.out.2.1 2
        have y2 := free_of Y.out.2.1 2
        have m3 := cell_of Y.out.1 3
        have x3 := free_of Y.out.1 3
        have n3 := cell_of Y.out.2.1 3
        have y3 := free_of Y.out.2.1 3
        have m4 := cell_of Y.out.1 4
        have x4 := free_of Y.out.1 4
        have n4 := cell_of Y.out.2.1 4
        have y4 := free_of Y.out.2.1 4
        have m5 := cell_of Y.out.1 5
        have x5 := free_of Y.out.1 5
        have n5 := cell_of Y.out.2.1 5
        have y5 := free_of Y.out.2.1 5
        simp at m0 n0 m1 n1 m2 n2 m3 n3 m4 n4 m5 n5
        go_wp2_with fail
        have tN : Turn [M, w.heap.size] w5 ((((((((((w5.setCell ⟨M, 2, none⟩ (.int .i64 x.kind)).setCell ⟨M, 3, none⟩ (.slice pa x.params.length pc)).setCell ⟨M, 4, none⟩ (.slice ra x.results.length rc)).setCell ⟨M, 5, none⟩ (.slice fa x.fields.length fc)).setCell ⟨w.heap.size, 0, none⟩ (.bool false)).setCell ⟨w.heap.size, 1, none⟩ (.slice aa acc.length cc)).setCell ⟨w.heap.size, 2, none⟩ (.int .i64 x.kind)).setCell ⟨w.heap.size, 3, none⟩ (.slice pa x.params.length pc)).setCell ⟨w.heap.size, 4, none⟩ (.slice ra x.results.length rc)).setCell ⟨w.heap.size, 5, none⟩ (.slice fa x.fields.length fc)) := ((((((((((Turn.refl [M, w.heap.size] w5).set (Or.inl (by simp)) _).set (Or.inl (by simp)) _).set (Or.inl (by simp)) _).set (Or.inl (by simp)) _).set (Or.inl (by simp)) _).set (Or.inl (by simp)) _).set (Or.inl (by simp)) _).set (Or.inl (by simp)) _).set (Or.inl (by simp)) _).set (Or.inl (by simp)) _
        have nI : ∀ y ∈ [M, w.heap.size], NoT w5 y 3 := fun y hy => by
          simp at hy
          rcases hy with rfl | rfl
          · exact NoT.of Y.out.1 (by decide)
          · exact NoT.of Y.out.2.1 (by decide)
        have nV : ∀ y ∈ [M, w.heap.size], NoT w5 y 29 := fun y hy => by
          simp at hy
          rcases hy with rfl | rfl
          · exact NoT.of Y.out.1 (by decide)
          · exact NoT.of Y.out.2.1 (by decide)
        have nF : ∀ y ∈ [M, w.heap.size], NoT w5 y 48 := fun y hy => by
          simp at hy
          rcases hy with rfl | rfl
          · exact NoT.of Y.out.1 (by decide)
          · exact NoT.of Y.out.2.1 (by decide)
        have FF := (((((((((((FinD.mk_ Y.out.2.2.2.1 Y.out.2.2.2.2).set (N := M) (j := 2) H.out (by omega) (x := .int .i64 x.kind)).set (N := M) (j := 3) H.out (by omega) (x := .slice pa x.params.length pc)).set (N := M) (j := 4) H.out (by omega) (x := .slice ra x.results.length rc)).set (N := M) (j := 5) H.out (by omega) (x := .slice fa x.fields.length fc)).set (N := w.heap.size) (j := 0) H.out (Nat.le_refl _) (x := .bool false)).set (N := w.heap.size) (j := 1) H.out (Nat.le_refl _) (x := .slice aa acc.length cc)).set (N := w.heap.size) (j := 2) H.out (Nat.le_refl _) (x := .int .i64 x.kind)).set (N := w.heap.size) (j := 3) H.out (Nat.le_refl _) (x := .slice pa x.params.length pc)).set (N := w.heap.size) (j := 4) H.out (Nat.le_refl _) (x := .slice ra x.results.length rc)).set (N := w.heap.size) (j := 5) H.out (Nat.le_refl _) (x := .slice fa x.fields.length fc))
        refine bodyPost_ret (v := .agg #[.bool false, .slice aa acc.length cc, .int .i64 x.kind, .slice pa x.params.length pc, .slice ra x.results.length rc, .slice fa x.fields.length fc]) (by simp [results, Tryd.results74, go_sem, n0, n1, n2, n3, n4, n5, hn2, hn3]) rfl ?_
        exact ⟨[.bool false, .slice aa acc.length cc, .int .i64 x.kind, .slice pa x.params.length pc, .slice ra x.results.length rc, .slice fa x.fields.length fc], ⟨false, acc, x⟩, st4, rfl, ⟨_, _, _, _, rfl, Z0.out.turn tN nI, Z1.out.turn tN nV, Z2.out.turn tN nV, Z3.out.turn tN nF⟩, FF, TieD.then2 (fun ss t => (⟨false, ss, t⟩ : SB)) TE.out E4.out⟩
set_option maxRecDepth 100000 in
set_option maxHeartbeats 1000000 in
theorem dsub_79 {w : World} {b : Nat} {v : Value} {l : List Int} {p : Nat} (h : DR w b v l (.ok p)) (hp : p < l.length) (c : Int) (hcv : l.getD p 0 = c) (hn : c = 79) :
    Calls Tryd.prog 74 #[.pointer (some ⟨b, 0, none⟩)] w (TAns SubC b v l w (thenR (listR 1000 (tyU l) l (p + 1)) fun ss q => mapR (fun t => ⟨true, ss, t⟩) (compR l q))) := by
  have H : Hid (DR w b v l (.ok p)) := h
  have hb : b < w.heap.size := h.lt
  have hl := h.len
  have P : Hid (∀ w', DR w' b v l (.ok p) → Calls Tryd.prog 116 #[.pointer (some ⟨b, 0, none⟩)] w' fun en w'' => en = .returned (.tuple #[.int .u8 c, .bool true]) ∧ Grew w' w'') := fun w' u => by rw [← hcv]; exact dpeek_ok u hp
  clear h hcv
  subst hn
  obtain ⟨R, hR⟩ : ∃ R, R = listR 1000 (tyU l) l (p + 1) := ⟨_, rfl⟩
  rw [← hR]
  have C : Hid (∀ w', DR w' b v l (.ok (p + 1)) → Calls Tryd.prog 126 #[.pointer (some ⟨b, 0, none⟩), .int .i64 1000] w' fun en w'' => ∃ (N : Nat) (st1 : Except (Nat × Nat) Nat), en = .returned (.int .i64 (N : Int)) ∧ N ≤ 1000 ∧ FinD b v l w' w'' st1 ∧ Left R (tyU l) N [] st1) := fun w' u => by rw [hR]; exact many_tie u 1000 (by decide) (tyU l)
  clear hR
  have S0 : Hid (DR (w.alloc (.cells #[.bool false, .slice none 0 0, .int .i64 0, .slice none 0 0, .slice none 0 0, .slice none 0 0] 63)) b v l (.ok p)) := H.out.grew ((Grew.refl w).alloc _)
  have T0 : Hid (Turn [b] w (w.alloc (.cells #[.bool false, .slice none 0 0, .int .i64 0, .slice none 0 0, .slice none 0 0, .slice none 0 0] 63))) := (Turn.refl [b] w).alloc _
  have N0 : Hid ((w.alloc (.cells #[.bool false, .slice none 0 0, .int .i64 0, .slice none 0 0, .slice none 0 0, .slice none 0 0] 63)).heap[w.heap.size]? = some (.cells #[.bool false, .slice none 0 0, .int .i64 0, .slice none 0 0, .slice none 0 0, .slice none 0 0] 63 (0, 0))) := heap_alloc_last _ _
  go_enter Tryd.func74, Tryd.ntmps74
  go_wp2_with fail
  refine (P.out _ S0.out).mono ?_
  rintro en w1 ⟨rfl, g1⟩
  have T1 : Hid (Turn [b] w w1) := T0.out.trans (g1.turn _)
  have S1 : Hid (DR w1 b v l (.ok p)) := S0.out.grew g1
  have N1 : Hid (w1.heap[w.heap.size]? = some (.cells #[.bool false, .slice none 0 0, .int .i64 0, .slice none 0 0, .slice none 0 0, .slice none 0 0] 63 (0, 0))) := (g1.turn []).other N0.out (by simp)
  clear g1 T0 S0 N0
  have c1_1 := cell_of S1.out.st.1 1
  have z1_1 := free_of S1.out.st.1 1
  simp at c1_1
  have hq2 : p + 1 ≤ l.length := by omega
  go_wp2_with fail
  generalize hw2 : w1.setCell { block := b, off := 1 } (Value.int IntKind.i64 ((p : Int) + 1)) = w2
  have hsz : w2.heap.size = w1.heap.size := by rw [← hw2]; simp
  have f2 : FinD b v l w w2 (.ok (p + 1)) := by rw [← hw2]; exact (FinD.mk_ T1.out S1.out).inc hq2
  have T2 : Hid (Turn [b] w w2) := f2.1
  have S2 : Hid (DR w2 b v l (.ok (p + 1))) := f2.2
  have N2 : Hid (w2.heap[w.heap.size]? = some (.cells #[.bool false, .slice none 0 0, .int .i64 0, .slice none 0 0, .slice none 0 0, .slice none 0 0] 63 (0, 0))) := by rw [← hw2]; exact heap_other N1.out (by simp; omega) _
  clear f2 hw2 c1_1 z1_1 T1 S1 N1
  have hNM : w.heap.size < w1.heap.size := by rw [← hsz]; exact lt_of_obj N2.out
  generalize hw3 : w2.alloc (.cells #[.bool true, .slice none 0 0, .int .i64 0, .slice none 0 0, .slice none 0 0, .slice none 0 0] 63) = w3
  have X3 : Hid (CX w b w1.heap.size v l (.cells #[.bool false, .slice none 0 0, .int .i64 0, .slice none 0 0, .slice none 0 0, .slice none 0 0] 63 (0, 0)) (.cells #[.bool true, .slice none 0 0, .int .i64 0, .slice none 0 0, .slice none 0 0, .slice none 0 0] 63 (0, 0)) (.ok (p + 1)) w3) := by
    rw [← hw3, ← hsz]
    exact ⟨heap_alloc_last _ _, (((Grew.refl w2).alloc _).turn []).other N2.out (by simp), by simp, T2.out.alloc _, S2.out.grew ((Grew.refl w2).alloc _)⟩
  clear hw3 T2 S2 N2 hsz
  generalize w1.heap.size = M at *
  refine (C.out _ X3.out.2.2.2.2).mono ?_
  rintro en w4 ⟨N, st1, rfl, hN, ⟨t4, s4⟩, e4⟩
  have X4 : Hid (CX w b M v l (.cells #[.bool false, .slice none 0 0, .int .i64 0, .slice none 0 0, .slice none 0 0, .slice none 0 0] 63 (0, 0)) (.cells #[.bool true, .slice none 0 0, .int .i64 0, .slice none 0 0, .slice none 0 0, .slice none 0 0] 63 (0, 0)) st1 w4) := X3.out.next t4 s4 hb hNM
  have E3 : Hid (Left R (tyU l) N [] st1) := e4
  clear t4 s4 e4 X3
  go_wp2_with fail
  go_loopw [7] (fun i_ wr => ∃ (k : Nat) (acc : List Int) (fv : Value) (stq : Except (Nat × Nat) Nat), i_ = .int .i64 k ∧ k ≤ N ∧ acc.length = k ∧ Hid (CX w b M v l (.cells #[.bool false, .slice none 0 0, .int .i64 0, .slice none 0 0, .slice none 0 0, .slice none 0 0] 63 (0, 0)) (.cells #[.bool true, fv, .int .i64 0, .slice none 0 0, .slice none 0 0, .slice none 0 0] 63 (0, 0)) stq wr) ∧ Hid (RowI (M + 1) wr fv acc) ∧ Hid (Left R (tyU l) (N - k) acc stq)) (fun i_ _ => N - (intOf i_).toNat)
  case atStart => exact ⟨0, [], .slice none 0 0, st1, rfl, by omega, rfl, X4, World.ownsRow_nil _ _ _ _, E3⟩
  case round =>
    obtain ⟨k, acc, fv, stq, rfl, hk, hacc, XR, FR, ER⟩ := hrel
    subst hacc
    obtain ⟨aa, cc, hv⟩ := row_one FR.out
    subst hv
    obtain ⟨w0, hw0⟩ : ∃ w0, w0 = wr := ⟨_, rfl⟩
    rw [← hw0] at XR FR ⊢
    clear hw0 X4 E3
    rcases ER.out with ⟨q, rfl, hE⟩ | ⟨e, rfl, hE⟩
    · have c3 := cell_of XR.out.2.2.2.2.st.1 3
      simp at c3
      by_cases hkn : acc.length < N
      · have d4 : decide ((acc.length : Int) < (N : Int)) = true := by simp; omega
        have d4' : decide (acc.length < N) = true := by simpa using hkn
        rw [show N - acc.length = (N - (acc.length + 1)) + 1 by omega] at hE
        have HE : Hid (∀ x st', TieD (runR (tyU l) (.ok q)) x st' → Left R (tyU l) (N - (acc.length + 1)) (acc ++ [x]) st') := fun x st' t => Left.next hE t
        have NC : Hid (∀ w', Grew w0 w' → Calls Tryd.prog 137 #[.pointer (some ⟨b, 0, none⟩)] w' fun en w'' => ∃ x st', en = .returned (.int .i64 x) ∧ Turn [b] w0 w'' ∧ DR w'' b v l st' ∧ TieD (runR (tyU l) (.ok q)) x st') := by
          intro w' g
          refine (DAns.tie (dtypeAt_any (XR.out.2.2.2.2.grew g))).mono ?_
          rintro en w'' ⟨x, st', rfl, ⟨t, s'⟩, td⟩
          exact ⟨x, st', rfl, (g.turn _).trans t, s', td⟩
        have mq := cell_of XR.out.1 1
        have mz := free_of XR.out.1 1
        simp at mq
        clear hE ER
        go_wp2_with fail
        go_region_law (first
          | (refine step_typeAt (.tmp 52) rfl rfl rfl (NC.out _ (by first | exact Grew.refl _ | exact (Grew.refl _).drew | exact (Grew.refl _).drewN _ | exact ((Grew.refl _).drew).drew | exact ((Grew.refl _).drewN _).drew)) ?_
             rintro en w6 ⟨n6, st6, rfl, t6, s6, td6⟩
             refine ⟨_, rfl, ?_⟩
             have y6 := XR.out.next t6 s6 hb hNM
             have X6 : Hid (CX w b M v l (.cells #[.bool false, .slice none 0 0, .int .i64 0, .slice none 0 0, .slice none 0 0, .slice none 0 0] 63 (0, 0)) (.cells #[.bool true, .slice aa acc.length cc, .int .i64 0, .slice none 0 0, .slice none 0 0, .slice none 0 0] 63 (0, 0)) st6 w6) := y6
             have F6 : Hid (RowI (M + 1) w6 (.slice aa acc.length cc) acc) := FR.out.next t6 XR.out.2.2.2.2
             have TD6 : Hid (TieD (runR (tyU l) (.ok q)) n6 st6) := td6
             have q6 := cell_of y6.1 1
             have z6 := free_of y6.1 1
             simp at q6
             have q6a := cell_of (heap_alloc y6.1 (.cells #[.int .i64 n6] 3)) 1
             simp at q6a
             clear t6 s6 td6 y6)
          | (refine step_appI (w0 := w6) (B := M + 1) (b := M + 1) (v := (.slice aa acc.length cc)) (l := acc) (c := n6) (ad := ⟨w6.heap.size, 0, none⟩) rfl (.tmp 51) (.tmp 54) rfl rfl rfl (by first | exact ((Grew.refl _).alloc _) | exact ((Grew.refl _).alloc _).drew | exact ((Grew.refl _).alloc _).drewN _ | exact ((Grew.refl _).drew.alloc _) | exact ((Grew.refl _).drewN _).alloc _ | exact (((Grew.refl _).drew).alloc _).drew | exact (((Grew.refl _).drewN _).alloc _).drew) F6.out X6.out.2.2.1 (by simp) (by first | omega | simp) ?_
             intro v7 w7 I7' t7
             obtain ⟨a7, c7, hv7⟩ := row_one I7'
             subst hv7
             have F7 : Hid (RowI (M + 1) w7 (.slice a7 (acc ++ [n6]).length c7) (acc ++ [n6])) := I7'
             have y7 := X6.out.app H.out t7 hb hNM
             have X7 : Hid (CX w b M v l (.cells #[.bool false, .slice none 0 0, .int .i64 0, .slice none 0 0, .slice none 0 0, .slice none 0 0] 63 (0, 0)) (.cells #[.bool true, .slice aa acc.length cc, .int .i64 0, .slice none 0 0, .slice none 0 0, .slice none 0 0] 63 (0, 0)) st6 w7) := y7
             have q7 := cell_of y7.1 1
             have z7 := free_of y7.1 1
             simp at q7
             clear t7 y7 I7'))
        all_goals
          go_wp2_with fail
          have X8 := X7.out.set (o' := (.cells #[.bool true, .slice a7 (acc ++ [n6]).length c7, .int .i64 0, .slice none 0 0, .slice none 0 0, .slice none 0 0] 63 (0, 0))) H.out hNM 1 (.slice a7 (acc ++ [n6]).length c7) (by have hh := heap_set X7.out.1 1 (.slice a7 (acc ++ [n6]).length c7); simpa using hh)
          have F8 : RowI (M + 1) (w7.setCell ⟨M, 1, none⟩ (.slice a7 (acc ++ [n6]).length c7)) _ _ := row_set F7.out (NoT.of X7.out.1 (by decide)) (.slice a7 (acc ++ [n6]).length c7)
          have E8 := HE.out _ _ TD6.out
          simp only [List.length_append, List.length_cons, List.length_nil, Nat.zero_add] at X8 F8
          go_roundw
          case rel => exact ⟨acc.length + 1, acc ++ [n6], _, st6, by go_num, by omega, by simp, X8, F8, E8⟩
          case measure => simp [intOf]; omega
      · have d4 : decide ((acc.length : Int) < (N : Int)) = false := by simp; omega
        have d4' : decide (acc.length < N) = false := by simpa using hkn
        rw [show N - acc.length = 0 by omega] at hE
        have TE : Hid (TieD R acc (.ok q)) := hE
        clear hE ER
        go_wp2_with fail
        refine (dcomp_any XR.out.2.2.2.2).mono ?_
        rintro en w5 ⟨cs, x, st4, rfl, r4, ⟨t5, s5⟩, e4⟩
        have E4 : Hid _ := e4
        have Y : Hid (CX w b M v l (.cells #[.bool false, .slice none 0 0, .int .i64 0, .slice none 0 0, .slice none 0 0, .slice none 0 0] 63 (0, 0)) (.cells #[.bool true, .slice aa acc.length cc, .int .i64 0, .slice none 0 0, .slice none 0 0, .slice none 0 0] 63 (0, 0)) st4 w5) := XR.out.next t5 s5 hb hNM
        have Z0 : Hid (RowI w.heap.size w5 (.slice aa acc.length cc) acc) := row_low (FR.out.next t5 XR.out.2.2.2.2) (by omega)
        have hlo : w.heap.size ≤ w0.heap.size := XR.out.2.2.2.1.size
        obtain ⟨pv, rv, fv, hcs, z1, z2, z3⟩ := r4
        obtain ⟨pa, pc, hpv⟩ := row_one z1
        obtain ⟨ra, rc, hrv⟩ := row_one z2
        obtain ⟨fa, fc, hfv⟩ := row_one z3
        subst hpv
        subst hrv
        subst hfv
        subst hcs
        have Z1 : Hid (RowV w.heap.size w5 (.slice pa x.params.length pc) x.params) := z1.low hlo
        have Z2 : Hid (RowV w.heap.size w5 (.slice ra x.results.length rc) x.results) := z2.low hlo
        have Z3 : Hid (RowF w.heap.size w5 (.slice fa x.fields.length fc) x.fields) := z3.low hlo
        clear z1 z2 z3 t5 s5 e4 XR FR
        have hne : ¬ b = w.heap.size := by omega
        have hn2 : ¬ M = w.heap.size := by omega
        have hn3 : ¬ w.heap.size = M := by omega
        have m0 := cell_of Y.out.1 0
        have x0 := free_of Y.out.1 0
        have n0 := cell_of Y.out.2.1 0
        have y0 := free_of Y.out.2.1 0
        have m1 := cell_of Y.out.1 1
        have x1 := free_of Y.out.1 1
        have n1 := cell_of Y.out.2.1 1
        have y1 := free_of Y.out.2.1 1
        have m2 := cell_of Y.out.1 2
        have x2 := free_of Y.out.1 2
        have n2 := cell_of Y.out.2.1 2
        have y2 := free_of Y.out.2.1 2
        have m3 := cell_of Y.out.1 3
        have x3 := free_of Y.out.1 3
        have n3 := cell_of Y.out.2.1 3
        have y3 := free_of Y.out.2.1 3
        have m4 := cell_of Y.out.1 4
        have x4 := free_of Y.out.1 4
        have n4 := cell_of Y.out.2.1 4
        have y4 := free_of Y.out.2.1 4
        have m5 := cell_of Y.out.1 5
        have x5 := free_of Y.out.1 5
        have n5 := cell_of Y.out.2.1 5
        have y5 := free_of Y.out.2.1 5
        simp at m0 n0 m1 n1 m2 n2 m3 n3 m4 n4 m5 n5
        go_wp2_with fail
        have tN : Turn [M, w.heap.size] w5 ((((((((((w5.setCell ⟨M, 2, none⟩ (.int .i64 x.kind)).setCell ⟨M, 3, none⟩ (.slice pa x.params.length pc)).setCell ⟨M, 4, none⟩ (.slice ra x.results.length rc)).setCell ⟨M, 5, none⟩ (.slice fa x.fields.length fc)).setCell ⟨w.heap.size, 0, none⟩ (.bool true)).setCell ⟨w.heap.size, 1, none⟩ (.slice aa acc.length cc)).setCell ⟨w.heap.size, 2, none⟩ (.int .i64 x.kind)).setCell ⟨w.heap.size, 3, none⟩ (.slice pa x.params.length pc)).setCell ⟨w.heap.size, 4, none⟩ (.slice ra x.results.length rc)).setCell ⟨w.heap.size, 5, none⟩ (.slice fa x.fields.length fc)) := ((((((((((Turn.refl [M, w.heap.size] w5).set (Or.inl (by simp)) _).set (Or.inl (by simp)) _).set (Or.inl (by simp)) _).set (Or.inl (by simp)) _).set (Or.inl (by simp)) _).set (Or.inl (by simp)) _).set (Or.inl (by simp)) _).set (Or.inl (by simp)) _).set (Or.inl (by simp)) _).set (Or.inl (by simp)) _
        have nI : ∀ y ∈ [M, w.heap.size], NoT w5 y 3 := fun y hy => by
          simp at hy
          rcases hy with rfl | rfl
          · exact NoT.of Y.out.1 (by decide)
          · exact NoT.of Y.out.2.1 (by decide)
        have nV : ∀ y ∈ [M, w.heap.size], NoT w5 y 29 := fun y hy => by
          simp at hy
          rcases hy with rfl | rfl
          · exact NoT.of Y.out.1 (by decide)
          · exact NoT.of Y.out.2.1 (by decide)
        have nF : ∀ y ∈ [M, w.heap.size], NoT w5 y 48 := fun y hy => by
          simp at hy
          rcases hy with rfl | rfl
          · exact NoT.of Y.out.1 (by decide)
          · exact NoT.of Y.out.2.1 (by decide)
        have FF := (((((((((((FinD.mk_ Y.out.2.2.2.1 Y.out.2.2.2.2).set (N := M) (j := 2) H.out (by omega) (x := .int .i64 x.kind)).set (N := M) (j := 3) H.out (by omega) (x := .slice pa x.params.length pc)).set (N := M) (j := 4) H.out (by omega) (x := .slice ra x.results.length rc)).set (N := M) (j := 5) H.out (by omega) (x := .slice fa x.fields.length fc)).set (N := w.heap.size) (j := 0) H.out (Nat.le_refl _) (x := .bool true)).set (N := w.heap.size) (j := 1) H.out (Nat.le_refl _) (x := .slice aa acc.length cc)).set (N := w.heap.size) (j := 2) H.out (Nat.le_refl _) (x := .int .i64 x.kind)).set (N := w.heap.size) (j := 3) H.out (Nat.le_refl _) (x := .slice pa x.params.length pc)).set (N := w.heap.size) (j := 4) H.out (Nat.le_refl _) (x := .slice ra x.results.length rc)).set (N := w.heap.size) (j := 5) H.out (Nat.le_refl _) (x := .slice fa x.fields.length fc))
        refine bodyPost_ret (v := .agg #[.bool true, .slice aa acc.length cc, .int .i64 x.kind, .slice pa x.params.length pc, .slice ra x.results.length rc, .slice fa x.fields.length fc]) (by simp [results, Tryd.results74, go_sem, n0, n1, n2, n3, n4, n5, hn2, hn3]) rfl ?_
        exact ⟨[.bool true, .slice aa acc.length cc, .int .i64 x.kind, .slice pa x.params.length pc, .slice ra x.results.length rc, .slice fa x.fields.length fc], ⟨true, acc, x⟩, st4, rfl, ⟨_, _, _, _, rfl, Z0.out.turn tN nI, Z1.out.turn tN nV, Z2.out.turn tN nV, Z3.out.turn tN nF⟩, FF, TieD.then2 (fun ss t => (⟨true, ss, t⟩ : SB)) TE.out E4.out⟩
    · have TE : Hid (TieD R acc (.error e)) := hE
      obtain ⟨fe, ee⟩ := e
      obtain ⟨a1, o1, _, he1⟩ := XR.out.2.2.2.2.st
      have c3 := cell_of o1 3
      simp at c3
      have de : ((ee : Int) == 0) = false := by simp; exact he1
      clear hE ER o1
      by_cases hkn : acc.length < N
      · have d4 : decide ((acc.length : Int) < (N : Int)) = true := by simp; omega
        have d4' : decide (acc.length < N) = true := by simpa using hkn
        go_wp2_with fail
        refine (dcomp_any XR.out.2.2.2.2).mono ?_
        rintro en w5 ⟨cs, x, st4, rfl, r4, ⟨t5, s5⟩, e4⟩
        have E4 : Hid _ := e4
        have Y : Hid (CX w b M v l (.cells #[.bool false, .slice none 0 0, .int .i64 0, .slice none 0 0, .slice none 0 0, .slice none 0 0] 63 (0, 0)) (.cells #[.bool true, .slice aa acc.length cc, .int .i64 0, .slice none 0 0, .slice none 0 0, .slice none 0 0] 63 (0, 0)) st4 w5) := XR.out.next t5 s5 hb hNM
        have Z0 : Hid (RowI w.heap.size w5 (.slice aa acc.length cc) acc) := row_low (FR.out.next t5 XR.out.2.2.2.2) (by omega)
        have hlo : w.heap.size ≤ w0.heap.size := XR.out.2.2.2.1.size
        obtain ⟨pv, rv, fv, hcs, z1, z2, z3⟩ := r4
        obtain ⟨pa, pc, hpv⟩ := row_one z1
        obtain ⟨ra, rc, hrv⟩ := row_one z2
        obtain ⟨fa, fc, hfv⟩ := row_one z3
        subst hpv
        subst hrv
        subst hfv
        subst hcs
        have Z1 : Hid (RowV w.heap.size w5 (.slice pa x.params.length pc) x.params) := z1.low hlo
        have Z2 : Hid (RowV w.heap.size w5 (.slice ra x.results.length rc) x.results) := z2.low hlo
        have Z3 : Hid (RowF w.heap.size w5 (.slice fa x.fields.length fc) x.fields) := z3.low hlo
        clear z1 z2 z3 t5 s5 e4 XR FR
        have hne : ¬ b = w.heap.size := by omega
        have hn2 : ¬ M = w.heap.size := by omega
        have hn3 : ¬ w.heap.size = M := by omega
        have m0 := cell_of Y.out.1 0
        have x0 := free_of Y.out.1 0
        have n0 := cell_of Y.out.2.1 0
        have y0 := free_of Y.out.2.1 0
        have m1 := cell_of Y.out.1 1
        have x1 := free_of Y.out.1 1
        have n1 := cell_of Y.out.2.1 1
        have y1 := free_of Y.out.2.1 1
        have m2 := cell_of Y.out.1 2
        have x2 := free_of Y.out.1 2
        have n2 := cell_of Y.out.2.1 2
        have y2 := free_of Y.out.2.1 2
        have m3 := cell_of Y.out.1 3
        have x3 := free_of Y.out.1 3
        have n3 := cell_of Y.out.2.1 3
        have y3 := free_of Y.out.2.1 3
        have m4 := cell_of Y.out.1 4
        have x4 := free_of Y.out.1 4
        have n4 := cell_of Y.out.2.1 4
        have y4 := free_of Y.out.2.1 4
        have m5 := cell_of Y.out.1 5
        have x5 := free_of Y.out.1 5
        have n5 := cell_of Y.out.2.1 5
        have y5 := free_of Y.out.2.1 5
        simp at m0 n0 m1 n1 m2 n2 m3 n3 m4 n4 m5 n5
        go_wp2_with fail
        have tN : Turn [M, w.heap.size] w5 ((((((((((w5.setCell ⟨M, 2, none⟩ (.int .i64 x.kind)).setCell ⟨M, 3, none⟩ (.slice pa x.params.length pc)).setCell ⟨M, 4, none⟩ (.slice ra x.results.length rc)).setCell ⟨M, 5, none⟩ (.slice fa x.fields.length fc)).setCell ⟨w.heap.size, 0, none⟩ (.bool true)).setCell ⟨w.heap.size, 1, none⟩ (.slice aa acc.length cc)).setCell ⟨w.heap.size, 2, none⟩ (.int .i64 x.kind)).setCell ⟨w.heap.size, 3, none⟩ (.slice pa x.params.length pc)).setCell ⟨w.heap.size, 4, none⟩ (.slice ra x.results.length rc)).setCell ⟨w.heap.size, 5, none⟩ (.slice fa x.fields.length fc)) := ((((((((((Turn.refl [M, w.heap.size] w5).set (Or.inl (by simp)) _).set (Or.inl (by simp)) _).set (Or.inl (by simp)) _).set (Or.inl (by simp)) _).set (Or.inl (by simp)) _).set (Or.inl (by simp)) _).set (Or.inl (by simp)) _).set (Or.inl (by simp)) _).set (Or.inl (by simp)) _).set (Or.inl (by simp)) _
        have nI : ∀ y ∈ [M, w.heap.size], NoT w5 y 3 := fun y hy => by
          simp at hy
          rcases hy with rfl | rfl
          · exact NoT.of Y.out.1 (by decide)
          · exact NoT.of Y.out.2.1 (by decide)
        have nV : ∀ y ∈ [M, w.heap.size], NoT w5 y 29 := fun y hy => by
          simp at hy
          rcases hy with rfl | rfl
          · exact NoT.of Y.out.1 (by decide)
          · exact NoT.of Y.out.2.1 (by decide)
        have nF : ∀ y ∈ [M, w.heap.size], NoT w5 y 48 := fun y hy => by
          simp at hy
          rcases hy with rfl | rfl
          · exact NoT.of Y.out.1 (by decide)
          · exact NoT.of Y.out.2.1 (by decide)
        have FF := (((((((((((FinD.mk_ Y.out.2.2.2.1 Y.out.2.2.2.2).set (N := M) (j := 2) H.out (by omega) (x := .int .i64 x.kind)).set (N := M) (j := 3) H.out (by omega) (x := .slice pa x.params.length pc)).set (N := M) (j := 4) H.out (by omega) (x := .slice ra x.results.length rc)).set (N := M) (j := 5) H.out (by omega) (x := .slice fa x.fields.length fc)).set (N := w.heap.size) (j := 0) H.out (Nat.le_refl _) (x := .bool true)).set (N := w.heap.size) (j := 1) H.out (Nat.le_refl _) (x := .slice aa acc.length cc)).set (N := w.heap.size) (j := 2) H.out (Nat.le_refl _) (x := .int .i64 x.kind)).set (N := w.heap.size) (j := 3) H.out (Nat.le_refl _) (x := .slice pa x.params.length pc)).set (N := w.heap.size) (j := 4) H.out (Nat.le_refl _) (x := .slice ra x.results.length rc)).set (N := w.heap.size) (j := 5) H.out (Nat.le_refl _) (x := .slice fa x.fields.length fc))
        refine bodyPost_ret (v := .agg #[.bool true, .slice aa acc.length cc, .int .i64 x.kind, .slice pa x.params.length pc, .slice ra x.results.length rc, .slice fa x.fields.length fc]) (by simp [results, Tryd.results74, go_sem, n0, n1, n2, n3, n4, n5, hn2, hn3]) rfl ?_
        exact ⟨[.bool true, .slice aa acc.length cc, .int .i64 x.kind, .slice pa x.params.length pc, .slice ra x.results.length rc, .slice fa x.fields.length fc], ⟨true, acc, x⟩, st4, rfl, ⟨_, _, _, _, rfl, Z0.out.turn tN nI, Z1.out.turn tN nV, Z2.out.turn tN nV, Z3.out.turn tN nF⟩, FF, TieD.then2 (fun ss t => (⟨true, ss, t⟩ : SB)) TE.out E4.out⟩
      · have d4 : decide ((acc.length : Int) < (N : Int)) = false := by simp; omega
        have d4' : decide (acc.length < N) = false := by simpa using hkn
        go_wp2_with fail
        refine (dcomp_any XR.out.2.2.2.2).mono ?_
        rintro en w5 ⟨cs, x, st4, rfl, r4, ⟨t5, s5⟩, e4⟩
        have E4 : Hid _ := e4
        have Y : Hid (CX w b M v l (.cells #[.bool false, .slice none 0 0, .int .i64 0, .slice none 0 0, .slice none 0 0, .slice none 0 0] 63 (0, 0)) (.cells #[.bool true, .slice aa acc.length cc, .int .i64 0, .slice none 0 0, .slice none 0 0, .slice none 0 0] 63 (0, 0)) st4 w5) := XR.out.next t5 s5 hb hNM
        have Z0 : Hid (RowI w.heap.size w5 (.slice aa acc.length cc) acc) := row_low (FR.out.next t5 XR.out.2.2.2.2) (by omega)
        have hlo : w.heap.size ≤ w0.heap.size := XR.out.2.2.2.1.size
        obtain ⟨pv, rv, fv, hcs, z1, z2, z3⟩ := r4
        obtain ⟨pa, pc, hpv⟩ := row_one z1
        obtain ⟨ra, rc, hrv⟩ := row_one z2
        obtain ⟨fa, fc, hfv⟩ := row_one z3
        subst hpv
        subst hrv
        subst hfv
        subst hcs
        have Z1 : Hid (RowV w.heap.size w5 (.slice pa x.params.length pc) x.params) := z1.low hlo
        have Z2 : Hid (RowV w.heap.size w5 (.slice ra x.results.length rc) x.results) := z2.low hlo
        have Z3 : Hid (RowF w.heap.size w5 (.slice fa x.fields.length fc) x.fields) := z3.low hlo
        clear z1 z2 z3 t5 s5 e4 XR FR
        have hne : ¬ b = w.heap.size := by omega
        have hn2 : ¬ M = w.heap.size := by omega
        have hn3 : ¬ w.heap.size = M := by omega
        have m0 := cell_of Y.out.1 0
        have x0 := free_of Y.out.1 0
        have n0 := cell_of Y.out.2.1 0
        have y0 := free_of Y.out.2.1 0
        have m1 := cell_of Y.out.1 1
        have x1 := free_of Y.out.1 1
        have n1 := cell_of Y.out.2.1 1
        have y1 := free_of Y.out.2.1 1
        have m2 := cell_of Y.out.1 2
        have x2 := free_of Y.out.1 2
        have n2 := cell_of Y.out.2.1 2
        have y2 := free_of Y.out.2.1 2
        have m3 := cell_of Y.out.1 3
        have x3 := free_of Y.out.1 3
        have n3 := cell_of Y.out.2.1 3
        have y3 := free_of Y.out.2.1 3
        have m4 := cell_of Y.out.1 4
        have x4 := free_of Y.out.1 4
        have n4 := cell_of Y.out.2.1 4
        have y4 := free_of Y.out.2.1 4
        have m5 := cell_of Y.out.1 5
        have x5 := free_of Y.out.1 5
        have n5 := cell_of Y.out.2.1 5
        have y5 := free_of Y.out.2.1 5
        simp at m0 n0 m1 n1 m2 n2 m3 n3 m4 n4 m5 n5
        go_wp2_with fail
        have tN : Turn [M, w.heap.size] w5 ((((((((((w5.setCell ⟨M, 2, none⟩ (.int .i64 x.kind)).setCell ⟨M, 3, none⟩ (.slice pa x.params.length pc)).setCell ⟨M, 4, none⟩ (.slice ra x.results.length rc)).setCell ⟨M, 5, none⟩ (.slice fa x.fields.length fc)).setCell ⟨w.heap.size, 0, none⟩ (.bool true)).setCell ⟨w.heap.size, 1, none⟩ (.slice aa acc.length cc)).setCell ⟨w.heap.size, 2, none⟩ (.int .i64 x.kind)).setCell ⟨w.heap.size, 3, none⟩ (.slice pa x.params.length pc)).setCell ⟨w.heap.size, 4, none⟩ (.slice ra x.results.length rc)).setCell ⟨w.heap.size, 5, none⟩ (.slice fa x.fields.length fc)) := ((((((((((Turn.refl [M, w.heap.size] w5).set (Or.inl (by simp)) _).set (Or.inl (by simp)) _).set (Or.inl (by simp)) _).set (Or.inl (by simp)) _).set (Or.inl (by simp)) _).set (Or.inl (by simp)) _).set (Or.inl (by simp)) _).set (Or.inl (by simp)) _).set (Or.inl (by simp)) _).set (Or.inl (by simp)) _
        have nI : ∀ y ∈ [M, w.heap.size], NoT w5 y 3 := fun y hy => by
          simp at hy
          rcases hy with rfl | rfl
          · exact NoT.of Y.out.1 (by decide)
          · exact NoT.of Y.out.2.1 (by decide)
        have nV : ∀ y ∈ [M, w.heap.size], NoT w5 y 29 := fun y hy => by
          simp at hy
          rcases hy with rfl | rfl
          · exact NoT.of Y.out.1 (by decide)
          · exact NoT.of Y.out.2.1 (by decide)
        have nF : ∀ y ∈ [M, w.heap.size], NoT w5 y 48 := fun y hy => by
          simp at hy
          rcases hy with rfl | rfl
          · exact NoT.of Y.out.1 (by decide)
          · exact NoT.of Y.out.2.1 (by decide)
        have FF := (((((((((((FinD.mk_ Y.out.2.2.2.1 Y.out.2.2.2.2).set (N := M) (j := 2) H.out (by omega) (x := .int .i64 x.kind)).set (N := M) (j := 3) H.out (by omega) (x := .slice pa x.params.length pc)).set (N := M) (j := 4) H.out (by omega) (x := .slice ra x.results.length rc)).set (N := M) (j := 5) H.out (by omega) (x := .slice fa x.fields.length fc)).set (N := w.heap.size) (j := 0) H.out (Nat.le_refl _) (x := .bool true)).set (N := w.heap.size) (j := 1) H.out (Nat.le_refl _) (x := .slice aa acc.length cc)).set (N := w.heap.size) (j := 2) H.out (Nat.le_refl _) (x := .int .i64 x.kind)).set (N := w.heap.size) (j := 3) H.out (Nat.le_refl _) (x := .slice pa x.params.length pc)).set (N := w.heap.size) (j := 4) H.out (Nat.le_refl _) (x := .slice ra x.results.length rc)).set (N := w.heap.size) (j := 5) H.out (Nat.le_refl _) (x := .slice fa x.fields.length fc))
        refine bodyPost_ret (v := .agg #[.bool true, .slice aa acc.length cc, .int .i64 x.kind, .slice pa x.params.length pc, .slice ra x.results.length rc, .slice fa x.fields.length fc]) (by simp [results, Tryd.results74, go_sem, n0, n1, n2, n3, n4, n5, hn2, hn3]) rfl ?_
        exact ⟨[.bool true, .slice aa acc.length cc, .int .i64 x.kind, .slice pa x.params.length pc, .slice ra x.results.length rc, .slice fa x.fields.length fc], ⟨true, acc, x⟩, st4, rfl, ⟨_, _, _, _, rfl, Z0.out.turn tN nI, Z1.out.turn tN nV, Z2.out.turn tN nV, Z3.out.turn tN nF⟩, FF, TieD.then2 (fun ss t => (⟨true, ss, t⟩ : SB)) TE.out E4.out⟩
theorem dsub_any {w : World} {b : Nat} {v : Value} {l : List Int} {st : Except (Nat × Nat) Nat} (h : DR w b v l st) :
    Calls Tryd.prog 74 #[.pointer (some ⟨b, 0, none⟩)] w (TAns SubC b v l w (runR (subR l) st)) := by
  by_cases hp : Ahead l st
  · obtain ⟨p, rfl, hp⟩ := hp
    show Calls _ _ _ _ (TAns _ _ _ _ _ (subR l p))
    unfold subR
    rw [atR_in hp]
    generalize hc : l.getD p 0 = c at *
    by_cases h1 : c = 80
    · subst h1
      exact dsub_80 h hp 80 hc rfl
    · by_cases h2 : c = 79
      · subst h2
        exact dsub_79 h hp 79 hc rfl
      · rw [if_neg (show ¬ (c = 80 ∨ c = 79) by omega)]
        exact dsub_else h hp c hc (by simpa using h1) (by simpa using h2)
  · exact dsub_no h hp
end Go.Proofs.YtgdhocdbcgmokaaDoor
