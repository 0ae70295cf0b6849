/-
  The document's reading: the walk of comp at a struct, and comp whole; no statement is proved here.
-/
import Derived.Test.YtgdhocdbcgmokaaDoorDStW
import Derived.Deep.RegionLaw
namespace Go.Proofs.YtgdhocdbcgmokaaDoor
open Go.RowKit
set_option linter.unusedVariables false
set_option linter.unusedSimpArgs false
set_option linter.constructorNameAsVariable false

set_option maxRecDepth 100000 in
set_option maxHeartbeats 1000000 in
theorem dcomp_str {w : World} {b : Nat} {v : Value} {l : List Int} {p : Nat} (h : DR w b v l (.ok p)) (hp : p < l.length) (c : Int) (hcv : l.getD p 0 = c) (hn : c = 95) :
    Calls Tryd.prog 69 #[.pointer (some ⟨b, 0, none⟩)] w (TAns CompC b v l w (mapR (fun fs => ⟨2, [], [], fs⟩) (listR 10000 (fieldR l) l (p + 1)))) := by
  have H : Hid (DR w b v l (.ok p)) := h
  have hb : b < w.heap.size := h.lt
  have hl := h.len
  have P : Hid (∀ w', DR w' b v l (.ok p) → Calls Tryd.prog 116 #[.pointer (some ⟨b, 0, none⟩)] w' fun en w'' => en = .returned (.tuple #[.int .u8 c, .bool true]) ∧ Grew w' w'') := fun w' u => by rw [← hcv]; exact dpeek_ok u hp
  clear h hcv
  subst hn
  obtain ⟨R, hR⟩ : ∃ R, R = listR 10000 (fieldR l) l (p + 1) := ⟨_, rfl⟩
  rw [← hR]
  have C : Hid (∀ w', DR w' b v l (.ok (p + 1)) → Calls Tryd.prog 126 #[.pointer (some ⟨b, 0, none⟩), .int .i64 10000] w' fun en w'' => ∃ (N : Nat) (st1 : Except (Nat × Nat) Nat), en = .returned (.int .i64 (N : Int)) ∧ N ≤ 10000 ∧ FinD b v l w' w'' st1 ∧ Left R (fieldR l) N [] st1) := fun w' u => by rw [hR]; exact many_tie u 10000 (by decide) (fieldR l)
  clear hR
  have S0 : Hid (DR (w.alloc (.cells #[.int .i64 0, .slice none 0 0, .slice none 0 0, .slice none 0 0] 55)) b v l (.ok p)) := H.out.grew ((Grew.refl w).alloc _)
  have T0 : Hid (Turn [b] w (w.alloc (.cells #[.int .i64 0, .slice none 0 0, .slice none 0 0, .slice none 0 0] 55))) := (Turn.refl [b] w).alloc _
  have N0 : Hid ((w.alloc (.cells #[.int .i64 0, .slice none 0 0, .slice none 0 0, .slice none 0 0] 55)).heap[w.heap.size]? = some (.cells #[.int .i64 0, .slice none 0 0, .slice none 0 0, .slice none 0 0] 55 (0, 0))) := heap_alloc_last _ _
  go_enter Tryd.func69, Tryd.ntmps69
  go_wp2_with fail
  refine (P.out _ S0.out).mono ?_
  rintro en w1 ⟨rfl, g1⟩
  have T1 : Hid (Turn [b] w w1) := T0.out.trans (g1.turn _)
  have S1 : Hid (DR w1 b v l (.ok p)) := S0.out.grew g1
  have N1 : Hid (w1.heap[w.heap.size]? = some (.cells #[.int .i64 0, .slice none 0 0, .slice none 0 0, .slice none 0 0] 55 (0, 0))) := (g1.turn []).other N0.out (by simp)
  clear g1 T0 S0 N0
  have c1_1 := cell_of S1.out.st.1 1
  have z1_1 := free_of S1.out.st.1 1
  simp at c1_1
  have hq2 : p + 1 ≤ l.length := by omega
  go_wp2_with fail
  generalize hw2 : w1.setCell { block := b, off := 1 } (Value.int IntKind.i64 ((p : Int) + 1)) = w2
  have f2 : FinD b v l w w2 (.ok (p + 1)) := by rw [← hw2]; exact (FinD.mk_ T1.out S1.out).inc hq2
  have T2 : Hid (Turn [b] w w2) := f2.1
  have S2 : Hid (DR w2 b v l (.ok (p + 1))) := f2.2
  have N2 : Hid (w2.heap[w.heap.size]? = some (.cells #[.int .i64 0, .slice none 0 0, .slice none 0 0, .slice none 0 0] 55 (0, 0))) := by rw [← hw2]; exact heap_other N1.out (by simp; omega) _
  clear f2 hw2 c1_1 z1_1 T1 S1 N1
  refine (C.out _ S2.out).mono ?_
  rintro en w3 ⟨N, st1, rfl, hN, ⟨t3, s3⟩, e3⟩
  have T3 : Hid (Turn [b] w w3) := T2.out.trans t3
  have S3 : Hid (DR w3 b v l st1) := s3
  have E3 : Hid (Left R (fieldR l) N [] st1) := e3
  have N3 : Hid (w3.heap[w.heap.size]? = some (.cells #[.int .i64 0, .slice none 0 0, .slice none 0 0, .slice none 0 0] 55 (0, 0))) := t3.other N2.out (by simp; omega)
  clear t3 s3 e3 T2 S2 N2
  have hNM : w.heap.size < w3.heap.size := lt_of_obj N3.out
  go_wp2_with fail
  generalize hw4 : w3.alloc (.cells #[.int .i64 2, .slice none 0 0, .slice none 0 0, .slice none 0 0] 55) = w4
  have X4 : Hid (CX w b w3.heap.size v l (.cells #[.int .i64 0, .slice none 0 0, .slice none 0 0, .slice none 0 0] 55 (0, 0)) (.cells #[.int .i64 2, .slice none 0 0, .slice none 0 0, .slice none 0 0] 55 (0, 0)) st1 w4) := by
    rw [← hw4]
    exact ⟨heap_alloc_last _ _, (((Grew.refl w3).alloc _).turn []).other N3.out (by simp), by simp, T3.out.alloc _, S3.out.grew ((Grew.refl w3).alloc _)⟩
  clear hw4 T3 S3 N3
  generalize w3.heap.size = M at *
  go_loopw [9] (fun i_ wr => ∃ (k : Nat) (acc : List FT) (fv : Value) (stq : Except (Nat × Nat) Nat), i_ = .int .i64 k ∧ k ≤ N ∧ acc.length = k ∧ Hid (CX w b M v l (.cells #[.int .i64 0, .slice none 0 0, .slice none 0 0, .slice none 0 0] 55 (0, 0)) (.cells #[.int .i64 2, .slice none 0 0, .slice none 0 0, fv] 55 (0, 0)) stq wr) ∧ Hid (RowF (M + 1) wr fv acc) ∧ Hid (Left R (fieldR l) (N - k) acc stq)) (fun i_ _ => N - (intOf i_).toNat)
  case atStart => exact ⟨0, [], .slice none 0 0, st1, rfl, by omega, rfl, X4, World.ownsRow_nil _ _ _ _, E3⟩
  case round =>
    obtain ⟨k, acc, fv, stq, rfl, hk, hacc, XR, FR, ER⟩ := hrel
    subst hacc
    obtain ⟨aa, cc, hv⟩ := row_one FR.out
    subst hv
    obtain ⟨w0, hw0⟩ : ∃ w0, w0 = wr := ⟨_, rfl⟩
    rw [← hw0] at XR FR ⊢
    clear hw0 X4 E3
    rcases ER.out with ⟨q, rfl, hE⟩ | ⟨e, rfl, hE⟩
    · have c3 := cell_of XR.out.2.2.2.2.st.1 3
      simp at c3
      by_cases hkn : acc.length < N
      · have d4 : decide ((acc.length : Int) < (N : Int)) = true := by simp; omega
        have d4' : decide (acc.length < N) = true := by simpa using hkn
        rw [show N - acc.length = (N - (acc.length + 1)) + 1 by omega] at hE
        have HE : Hid (∀ x st', TieD (runR (fieldR l) (.ok q)) x st' → Left R (fieldR l) (N - (acc.length + 1)) (acc ++ [x]) st') := fun x st' t => Left.next hE t
        have NC : Hid (∀ w', Grew w0 w' → Calls Tryd.prog 66 #[.pointer (some ⟨b, 0, none⟩)] w' fun en w'' => ∃ x st', en = .returned (FT.v x) ∧ Turn [b] w0 w'' ∧ DR w'' b v l st' ∧ TieD (runR (fieldR l) (.ok q)) x st') := by
          intro w' g
          refine (DAns.tie (dfield_any (XR.out.2.2.2.2.grew g))).mono ?_
          rintro en w'' ⟨x, st', rfl, ⟨t, s'⟩, td⟩
          exact ⟨x, st', rfl, (g.turn _).trans t, s', td⟩
        have mq := cell_of XR.out.1 3
        have mz := free_of XR.out.1 3
        simp at mq
        clear hE ER
        go_wp2_with fail
        go_region_law (first
          | (refine step_field (.tmp 64) rfl rfl rfl (NC.out _ (by first | exact Grew.refl _ | exact (Grew.refl _).drew | exact (Grew.refl _).drewN _ | exact ((Grew.refl _).drew).drew | exact ((Grew.refl _).drewN _).drew)) ?_
             rintro en w6 ⟨⟨⟨n6, nul6, h6⟩, m6⟩, st6, rfl, t6, s6, td6⟩
             refine ⟨_, rfl, ?_⟩
             unfold FT.v
             have y6 := XR.out.next t6 s6 hb hNM
             have X6 : Hid (CX w b M v l (.cells #[.int .i64 0, .slice none 0 0, .slice none 0 0, .slice none 0 0] 55 (0, 0)) (.cells #[.int .i64 2, .slice none 0 0, .slice none 0 0, .slice aa acc.length cc] 55 (0, 0)) st6 w6) := y6
             have F6 : Hid (RowF (M + 1) w6 (.slice aa acc.length cc) acc) := FR.out.next t6 XR.out.2.2.2.2
             have TD6 : Hid (TieD (runR (fieldR l) (.ok q)) (⟨⟨n6, nul6, h6⟩, m6⟩ : FT) st6) := td6
             have q6 := cell_of y6.1 3
             have z6 := free_of y6.1 3
             simp at q6
             have q6a := cell_of (heap_alloc y6.1 (.cells #[.int .i64 n6, .bool nul6, .int .i64 h6, .bool m6] 48)) 3
             simp at q6a
             clear t6 s6 td6 y6)
          | (refine step_appF (w0 := w6) (B := M + 1) (v := (.slice aa acc.length cc)) (l := acc) (c := (⟨⟨n6, nul6, h6⟩, m6⟩ : FT)) (gg := w6.heap.size) rfl (.tmp 63) (.tmp 66) rfl rfl rfl (by first | exact ((Grew.refl _).alloc _) | exact ((Grew.refl _).alloc _).drew | exact ((Grew.refl _).alloc _).drewN _ | exact ((Grew.refl _).drew.alloc _) | exact ((Grew.refl _).drewN _).alloc _ | exact (((Grew.refl _).drew).alloc _).drew | exact (((Grew.refl _).drewN _).alloc _).drew) F6.out X6.out.2.2.1 (by simp) (by simp) (by simp) (by simp) (by first | omega | simp) ?_
             intro v7 w7 I7' t7
             obtain ⟨a7, c7, hv7⟩ := row_one I7'
             subst hv7
             have F7 : Hid (RowF (M + 1) w7 (.slice a7 (acc ++ [(⟨⟨n6, nul6, h6⟩, m6⟩ : FT)]).length c7) (acc ++ [(⟨⟨n6, nul6, h6⟩, m6⟩ : FT)])) := I7'
             have y7 := X6.out.app H.out (t7 _) hb hNM
             have X7 : Hid (CX w b M v l (.cells #[.int .i64 0, .slice none 0 0, .slice none 0 0, .slice none 0 0] 55 (0, 0)) (.cells #[.int .i64 2, .slice none 0 0, .slice none 0 0, .slice aa acc.length cc] 55 (0, 0)) st6 w7) := y7
             have q7 := cell_of y7.1 3
             have z7 := free_of y7.1 3
             simp at q7
             clear t7 y7 I7'))
        all_goals
          go_wp2_with fail
          have X8 := X7.out.set (o' := (.cells #[.int .i64 2, .slice none 0 0, .slice none 0 0, .slice a7 (acc ++ [(⟨⟨n6, nul6, h6⟩, m6⟩ : FT)]).length c7] 55 (0, 0))) H.out hNM 3 (.slice a7 (acc ++ [(⟨⟨n6, nul6, h6⟩, m6⟩ : FT)]).length c7) (by have hh := heap_set X7.out.1 3 (.slice a7 (acc ++ [(⟨⟨n6, nul6, h6⟩, m6⟩ : FT)]).length c7); simpa using hh)
          have F8 : RowF (M + 1) (w7.setCell ⟨M, 3, none⟩ (.slice a7 (acc ++ [(⟨⟨n6, nul6, h6⟩, m6⟩ : FT)]).length c7)) _ _ := row_set F7.out (NoT.of X7.out.1 (by decide)) (.slice a7 (acc ++ [(⟨⟨n6, nul6, h6⟩, m6⟩ : FT)]).length c7)
          have E8 := HE.out _ _ TD6.out
          simp only [List.length_append, List.length_cons, List.length_nil, Nat.zero_add] at X8 F8
          go_roundw
          case rel => exact ⟨acc.length + 1, acc ++ [(⟨⟨n6, nul6, h6⟩, m6⟩ : FT)], _, st6, by go_num, by omega, by simp, X8, F8, E8⟩
          case measure => simp [intOf]; omega
      · have d4 : decide ((acc.length : Int) < (N : Int)) = false := by simp; omega
        have d4' : decide (acc.length < N) = false := by simpa using hkn
        rw [show N - acc.length = 0 by omega] at hE
        have TE : Hid (TieD R acc (.ok q)) := hE
        clear hE ER
        have m0 := cell_of XR.out.1 0
        have m1 := cell_of XR.out.1 1
        have m2 := cell_of XR.out.1 2
        have m3 := cell_of XR.out.1 3
        have n0 := cell_of XR.out.2.1 0
        have n1 := cell_of XR.out.2.1 1
        have n2 := cell_of XR.out.2.1 2
        have n3 := cell_of XR.out.2.1 3
        have y0 := free_of XR.out.2.1 0
        have y1 := free_of XR.out.2.1 1
        have y2 := free_of XR.out.2.1 2
        have y3 := free_of XR.out.2.1 3
        simp at m0 m1 m2 m3 n0 n1 n2 n3
        have hne : ¬ b = w.heap.size := by omega
        have hn2 : ¬ M = w.heap.size := by omega
        go_wp2_with fail
        have tN : Turn [w.heap.size] w0 ((((w0.setCell ⟨w.heap.size, 0, none⟩ (.int .i64 2)).setCell ⟨w.heap.size, 1, none⟩ (.slice none 0 0)).setCell ⟨w.heap.size, 2, none⟩ (.slice none 0 0)).setCell ⟨w.heap.size, 3, none⟩ (.slice aa acc.length cc)) := ((((Turn.refl [w.heap.size] w0).set (Or.inl (by simp)) _).set (Or.inl (by simp)) _).set (Or.inl (by simp)) _).set (Or.inl (by simp)) _
        have nF : ∀ y ∈ [w.heap.size], NoT w0 y 48 := fun y hy => by simp at hy; subst hy; exact NoT.of XR.out.2.1 (by decide)
        have R9 := row_low (FR.out.turn tN nF) (show w.heap.size ≤ M + 1 by omega)
        have FF := ((((FinD.mk_ XR.out.2.2.2.1 XR.out.2.2.2.2).set (N := w.heap.size) (j := 0) H.out (Nat.le_refl _) (x := .int .i64 2)).set (j := 1) H.out (Nat.le_refl _) (x := .slice none 0 0)).set (j := 2) H.out (Nat.le_refl _) (x := .slice none 0 0)).set (j := 3) H.out (Nat.le_refl _) (x := .slice aa acc.length cc)
        refine bodyPost_ret (v := .agg #[.int .i64 2, .slice none 0 0, .slice none 0 0, .slice aa acc.length cc]) (by simp [results, Tryd.results69, go_sem, n0, n1, n2, n3]) rfl ?_
        exact ⟨[.int .i64 2, .slice none 0 0, .slice none 0 0, .slice aa acc.length cc], ⟨2, [], [], acc⟩, _, rfl, ⟨_, _, _, rfl, World.ownsRow_nil _ _ _ _, World.ownsRow_nil _ _ _ _, R9⟩, FF, TieD.map (fun fs => (⟨2, [], [], fs⟩ : CT)) TE.out⟩
    · have TE : Hid (TieD R acc (.error e)) := hE
      obtain ⟨fe, ee⟩ := e
      obtain ⟨a1, o1, _, he1⟩ := XR.out.2.2.2.2.st
      have c3 := cell_of o1 3
      simp at c3
      have de : ((ee : Int) == 0) = false := by simp; exact he1
      clear hE ER o1
      by_cases hkn : acc.length < N
      · have d4 : decide ((acc.length : Int) < (N : Int)) = true := by simp; omega
        have d4' : decide (acc.length < N) = true := by simpa using hkn
        have m0 := cell_of XR.out.1 0
        have m1 := cell_of XR.out.1 1
        have m2 := cell_of XR.out.1 2
        have m3 := cell_of XR.out.1 3
        have n0 := cell_of XR.out.2.1 0
        have n1 := cell_of XR.out.2.1 1
        have n2 := cell_of XR.out.2.1 2
        have n3 := cell_of XR.out.2.1 3
        have y0 := free_of XR.out.2.1 0
        have y1 := free_of XR.out.2.1 1
        have y2 := free_of XR.out.2.1 2
        have y3 := free_of XR.out.2.1 3
        simp at m0 m1 m2 m3 n0 n1 n2 n3
        have hne : ¬ b = w.heap.size := by omega
        have hn2 : ¬ M = w.heap.size := by omega
        go_wp2_with fail
        have tN : Turn [w.heap.size] w0 ((((w0.setCell ⟨w.heap.size, 0, none⟩ (.int .i64 2)).setCell ⟨w.heap.size, 1, none⟩ (.slice none 0 0)).setCell ⟨w.heap.size, 2, none⟩ (.slice none 0 0)).setCell ⟨w.heap.size, 3, none⟩ (.slice aa acc.length cc)) := ((((Turn.refl [w.heap.size] w0).set (Or.inl (by simp)) _).set (Or.inl (by simp)) _).set (Or.inl (by simp)) _).set (Or.inl (by simp)) _
        have nF : ∀ y ∈ [w.heap.size], NoT w0 y 48 := fun y hy => by simp at hy; subst hy; exact NoT.of XR.out.2.1 (by decide)
        have R9 := row_low (FR.out.turn tN nF) (show w.heap.size ≤ M + 1 by omega)
        have FF := ((((FinD.mk_ XR.out.2.2.2.1 XR.out.2.2.2.2).set (N := w.heap.size) (j := 0) H.out (Nat.le_refl _) (x := .int .i64 2)).set (j := 1) H.out (Nat.le_refl _) (x := .slice none 0 0)).set (j := 2) H.out (Nat.le_refl _) (x := .slice none 0 0)).set (j := 3) H.out (Nat.le_refl _) (x := .slice aa acc.length cc)
        refine bodyPost_ret (v := .agg #[.int .i64 2, .slice none 0 0, .slice none 0 0, .slice aa acc.length cc]) (by simp [results, Tryd.results69, go_sem, n0, n1, n2, n3]) rfl ?_
        exact ⟨[.int .i64 2, .slice none 0 0, .slice none 0 0, .slice aa acc.length cc], ⟨2, [], [], acc⟩, _, rfl, ⟨_, _, _, rfl, World.ownsRow_nil _ _ _ _, World.ownsRow_nil _ _ _ _, R9⟩, FF, TieD.map (fun fs => (⟨2, [], [], fs⟩ : CT)) TE.out⟩
      · have d4 : decide ((acc.length : Int) < (N : Int)) = false := by simp; omega
        have d4' : decide (acc.length < N) = false := by simpa using hkn
        have m0 := cell_of XR.out.1 0
        have m1 := cell_of XR.out.1 1
        have m2 := cell_of XR.out.1 2
        have m3 := cell_of XR.out.1 3
        have n0 := cell_of XR.out.2.1 0
        have n1 := cell_of XR.out.2.1 1
        have n2 := cell_of XR.out.2.1 2
        have n3 := cell_of XR.out.2.1 3
        have y0 := free_of XR.out.2.1 0
        have y1 := free_of XR.out.2.1 1
        have y2 := free_of XR.out.2.1 2
        have y3 := free_of XR.out.2.1 3
        simp at m0 m1 m2 m3 n0 n1 n2 n3
        have hne : ¬ b = w.heap.size := by omega
        have hn2 : ¬ M = w.heap.size := by omega
        go_wp2_with fail
        have tN : Turn [w.heap.size] w0 ((((w0.setCell ⟨w.heap.size, 0, none⟩ (.int .i64 2)).setCell ⟨w.heap.size, 1, none⟩ (.slice none 0 0)).setCell ⟨w.heap.size, 2, none⟩ (.slice none 0 0)).setCell ⟨w.heap.size, 3, none⟩ (.slice aa acc.length cc)) := ((((Turn.refl [w.heap.size] w0).set (Or.inl (by simp)) _).set (Or.inl (by simp)) _).set (Or.inl (by simp)) _).set (Or.inl (by simp)) _
        have nF : ∀ y ∈ [w.heap.size], NoT w0 y 48 := fun y hy => by simp at hy; subst hy; exact NoT.of XR.out.2.1 (by decide)
        have R9 := row_low (FR.out.turn tN nF) (show w.heap.size ≤ M + 1 by omega)
        have FF := ((((FinD.mk_ XR.out.2.2.2.1 XR.out.2.2.2.2).set (N := w.heap.size) (j := 0) H.out (Nat.le_refl _) (x := .int .i64 2)).set (j := 1) H.out (Nat.le_refl _) (x := .slice none 0 0)).set (j := 2) H.out (Nat.le_refl _) (x := .slice none 0 0)).set (j := 3) H.out (Nat.le_refl _) (x := .slice aa acc.length cc)
        refine bodyPost_ret (v := .agg #[.int .i64 2, .slice none 0 0, .slice none 0 0, .slice aa acc.length cc]) (by simp [results, Tryd.results69, go_sem, n0, n1, n2, n3]) rfl ?_
        exact ⟨[.int .i64 2, .slice none 0 0, .slice none 0 0, .slice aa acc.length cc], ⟨2, [], [], acc⟩, _, rfl, ⟨_, _, _, rfl, World.ownsRow_nil _ _ _ _, World.ownsRow_nil _ _ _ _, R9⟩, FF, TieD.map (fun fs => (⟨2, [], [], fs⟩ : CT)) TE.out⟩
theorem mean_six : ∀ c : _root_.Fin 256, (mean (c.1 : Int)).1 = 6 → (c.1 : Int) = 96 ∨ (c.1 : Int) = 95 ∨ (c.1 : Int) = 94 := by decide +kernel
theorem dcomp_any {w : World} {b : Nat} {v : Value} {l : List Int} {st : Except (Nat × Nat) Nat} (h : DR w b v l st) :
    Calls Tryd.prog 69 #[.pointer (some ⟨b, 0, none⟩)] w (TAns CompC b v l w (runR (compR l) st)) := by
  by_cases hp : Ahead l st
  · obtain ⟨p, rfl, hp⟩ := hp
    show Calls _ _ _ _ (TAns _ _ _ _ _ (compR l p))
    unfold compR
    rw [atR_in hp]
    have hk := byte_all (P := fun c => (mean c).1 = 6 → c = 96 ∨ c = 95 ∨ c = 94) mean_six (h.byt p)
    have hcv : l.getD p 0 = l.getD p 0 := rfl
    generalize hc : l.getD p 0 = c at *
    by_cases h1 : c = 96
    · subst h1
      exact dcomp_fun h hp 96 hc rfl
    · by_cases h2 : c = 95
      · subst h2
        exact dcomp_str h hp 95 hc rfl
      · by_cases h3 : c = 94
        · subst h3
          exact dcomp_arr h hp 94 hc rfl
        · have h6 : (mean c).1 ≠ 6 := fun h6 => by have := hk h6; omega
          rw [if_pos h6]
          exact dcomp_bad h hp c hc (by simpa using h1) (by simpa using h2) (by simpa using h3)
  · exact dcomp_no h hp
end Go.Proofs.YtgdhocdbcgmokaaDoor
