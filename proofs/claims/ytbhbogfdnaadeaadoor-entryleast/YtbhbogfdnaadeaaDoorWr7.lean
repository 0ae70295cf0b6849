/-
  The writer: the walks of declared, subType, putList at types, recType; no statement is proved here.
-/
import Derived.Test.YtbhbogfdnaadeaaDoorWr6
namespace Go.Proofs.YtbhbogfdnaadeaaDoor
open Go.RowKit
set_option linter.unusedVariables false
set_option linter.unusedSimpArgs false
set_option linter.constructorNameAsVariable false

set_option maxRecDepth 100000 in
set_option maxHeartbeats 1000000 in
theorem declared2 {b B : Nat} {w : World} {l : List Int} (h : WS b B w l) {w0 : World} (g0 : Grew w0 w) (hb0 : w0.heap.size ≤ b) (fin : Bool) (sv : Value) (ss : List Int) (hs : LI w0 sv ss) (x : CT) (pv rv fv : Value) (hx : CompR w0 x pv rv fv) (hl : l.length ≤ 15000000000000) :
    Calls Tryd.prog 105 #[.pointer (some ⟨b, 0, none⟩), .agg #[.bool fin, sv, .int .i64 x.kind, pv, rv, fv]] w (W2 b B w l (declW ⟨fin, ss, x⟩)) := by
  have H : Hid (WS b B w l) := h
  have hb : b < w.heap.size := h.blt
  have hB0 : w0.heap.size ≤ B := by have := h.lt; omega
  have G0 : Hid (Grew w0 w) := g0
  clear h g0
  obtain ⟨sa, sc, rfl, _, _⟩ := hs.one
  have HS : Hid (LI w0 (.slice sa ss.length sc) ss) := hs
  have HX : Hid (CompR w0 x pv rv fv) := hx
  obtain ⟨pa, pc, ep, _, _⟩ := hx.1.one
  obtain ⟨ra, rc, er, _, _⟩ := hx.2.1.one
  obtain ⟨fa, fc, ef, _, _⟩ := hx.2.2.one
  subst ep
  subst er
  subst ef
  clear hs hx
  unfold declW
  simp only
  cases fin with
  | true =>
    cases hy : listW 1000 uidxW ss with
    | error e =>
      rw [thenW_ee rfl rfl]
      have S0 : Hid (WS b B (w.alloc (.cells #[.bool true, .slice sa ss.length sc, .int .i64 x.kind, .slice pa x.params.length pc, .slice ra x.results.length rc, .slice fa x.fields.length fc] 101)) l) := H.out.grew ((Grew.refl w).alloc _)
      have T0 : Hid (WT b B w (w.alloc (.cells #[.bool true, .slice sa ss.length sc, .int .i64 x.kind, .slice pa x.params.length pc, .slice ra x.results.length rc, .slice fa x.fields.length fc] 101))) := WT.of_grew ((Grew.refl w).alloc _)
      have N0 : Hid ((w.alloc (.cells #[.bool true, .slice sa ss.length sc, .int .i64 x.kind, .slice pa x.params.length pc, .slice ra x.results.length rc, .slice fa x.fields.length fc] 101)).heap[w.heap.size]? = some (.cells #[.bool true, .slice sa ss.length sc, .int .i64 x.kind, .slice pa x.params.length pc, .slice ra x.results.length rc, .slice fa x.fields.length fc] 101 (0, 0))) := heap_alloc_last _ _
      go_enter Tryd.func105, Tryd.ntmps105
      go_wp2_with fail
      have RN := reads_new (w.alloc (.cells #[.bool true, .slice sa ss.length sc, .int .i64 x.kind, .slice pa x.params.length pc, .slice ra x.results.length rc, .slice fa x.fields.length fc] 101)) 79 5
      rw [alloc_size] at RN
      refine (W2.okc (put2 (r := [79]) (S0.out.grew ((Grew.refl _).alloc _)) RN (by simp; omega)) rfl).mono ?_
      rintro en w1 ⟨rfl, t1, s1⟩
      have T1 : Hid (WT b B w w1) := (T0.out.trans (WT.of_grew ((Grew.refl _).alloc _))).trans t1
      have S1 : Hid (WS b B w1 (l ++ [79])) := s1
      have N1 : Hid (w1.heap[w.heap.size]? = some (.cells #[.bool true, .slice sa ss.length sc, .int .i64 x.kind, .slice pa x.params.length pc, .slice ra x.results.length rc, .slice fa x.fields.length fc] 101 (0, 0))) := t1.other (heap_alloc N0.out _) (by simp; omega) (NoT.of (heap_alloc N0.out _) (by decide))
      clear t1 s1 T0 S0 N0 RN
      have n0_1 := cell_of N1.out 0
      have n1_1 := cell_of N1.out 1
      have n2_1 := cell_of N1.out 2
      have n3_1 := cell_of N1.out 3
      have n4_1 := cell_of N1.out 4
      have n5_1 := cell_of N1.out 5
      simp at n0_1 n1_1 n2_1 n3_1 n4_1 n5_1
      go_wp2_with fail
      refine (W2.erc (putListI2 S1.out (T1.out.grew0 G0.out hb0 hB0) hb0 _ ss HS.out 1000 (by decide) (by simp; omega)) hy).mono ?_
      rintro en w2 ⟨⟨p, rfl⟩, t2⟩
      have T2 : Hid (WT b B w w2) := T1.out.trans t2
      clear t2
      go_wp2_with fail
      exact ⟨rfl, ⟨p, rfl⟩, T2.out⟩
    | ok m =>
      rw [thenW_ok rfl rfl]
      have S0 : Hid (WS b B (w.alloc (.cells #[.bool true, .slice sa ss.length sc, .int .i64 x.kind, .slice pa x.params.length pc, .slice ra x.results.length rc, .slice fa x.fields.length fc] 101)) l) := H.out.grew ((Grew.refl w).alloc _)
      have T0 : Hid (WT b B w (w.alloc (.cells #[.bool true, .slice sa ss.length sc, .int .i64 x.kind, .slice pa x.params.length pc, .slice ra x.results.length rc, .slice fa x.fields.length fc] 101))) := WT.of_grew ((Grew.refl w).alloc _)
      have N0 : Hid ((w.alloc (.cells #[.bool true, .slice sa ss.length sc, .int .i64 x.kind, .slice pa x.params.length pc, .slice ra x.results.length rc, .slice fa x.fields.length fc] 101)).heap[w.heap.size]? = some (.cells #[.bool true, .slice sa ss.length sc, .int .i64 x.kind, .slice pa x.params.length pc, .slice ra x.results.length rc, .slice fa x.fields.length fc] 101 (0, 0))) := heap_alloc_last _ _
      go_enter Tryd.func105, Tryd.ntmps105
      go_wp2_with fail
      have RN := reads_new (w.alloc (.cells #[.bool true, .slice sa ss.length sc, .int .i64 x.kind, .slice pa x.params.length pc, .slice ra x.results.length rc, .slice fa x.fields.length fc] 101)) 79 5
      rw [alloc_size] at RN
      refine (W2.okc (put2 (r := [79]) (S0.out.grew ((Grew.refl _).alloc _)) RN (by simp; omega)) rfl).mono ?_
      rintro en w1 ⟨rfl, t1, s1⟩
      have T1 : Hid (WT b B w w1) := (T0.out.trans (WT.of_grew ((Grew.refl _).alloc _))).trans t1
      have S1 : Hid (WS b B w1 (l ++ [79])) := s1
      have N1 : Hid (w1.heap[w.heap.size]? = some (.cells #[.bool true, .slice sa ss.length sc, .int .i64 x.kind, .slice pa x.params.length pc, .slice ra x.results.length rc, .slice fa x.fields.length fc] 101 (0, 0))) := t1.other (heap_alloc N0.out _) (by simp; omega) (NoT.of (heap_alloc N0.out _) (by decide))
      clear t1 s1 T0 S0 N0 RN
      have n0_1 := cell_of N1.out 0
      have n1_1 := cell_of N1.out 1
      have n2_1 := cell_of N1.out 2
      have n3_1 := cell_of N1.out 3
      have n4_1 := cell_of N1.out 4
      have n5_1 := cell_of N1.out 5
      simp at n0_1 n1_1 n2_1 n3_1 n4_1 n5_1
      go_wp2_with fail
      refine (W2.okc (putListI2 S1.out (T1.out.grew0 G0.out hb0 hB0) hb0 _ ss HS.out 1000 (by decide) (by simp; omega)) hy).mono ?_
      rintro en w2 ⟨rfl, t2, s2⟩
      have T2 : Hid (WT b B w w2) := T1.out.trans t2
      have S2 : Hid (WS b B w2 ((l ++ [79]) ++ m)) := s2
      have N2 : Hid (w2.heap[w.heap.size]? = some (.cells #[.bool true, .slice sa ss.length sc, .int .i64 x.kind, .slice pa x.params.length pc, .slice ra x.results.length rc, .slice fa x.fields.length fc] 101 (0, 0))) := t2.other N1.out (by simp; omega) (NoT.of N1.out (by decide))
      clear t2 s2 T1 S1 N1
      go_wp2_with fail
      go_end0
      exact ⟨rfl, T2.out, by have := S2.out; simpa [List.append_assoc] using this⟩
  | false =>
    cases hy : listW 1000 uidxW ss with
    | error e =>
      rw [thenW_ee rfl rfl]
      have S0 : Hid (WS b B (w.alloc (.cells #[.bool false, .slice sa ss.length sc, .int .i64 x.kind, .slice pa x.params.length pc, .slice ra x.results.length rc, .slice fa x.fields.length fc] 101)) l) := H.out.grew ((Grew.refl w).alloc _)
      have T0 : Hid (WT b B w (w.alloc (.cells #[.bool false, .slice sa ss.length sc, .int .i64 x.kind, .slice pa x.params.length pc, .slice ra x.results.length rc, .slice fa x.fields.length fc] 101))) := WT.of_grew ((Grew.refl w).alloc _)
      have N0 : Hid ((w.alloc (.cells #[.bool false, .slice sa ss.length sc, .int .i64 x.kind, .slice pa x.params.length pc, .slice ra x.results.length rc, .slice fa x.fields.length fc] 101)).heap[w.heap.size]? = some (.cells #[.bool false, .slice sa ss.length sc, .int .i64 x.kind, .slice pa x.params.length pc, .slice ra x.results.length rc, .slice fa x.fields.length fc] 101 (0, 0))) := heap_alloc_last _ _
      go_enter Tryd.func105, Tryd.ntmps105
      go_wp2_with fail
      have RN := reads_new (w.alloc (.cells #[.bool false, .slice sa ss.length sc, .int .i64 x.kind, .slice pa x.params.length pc, .slice ra x.results.length rc, .slice fa x.fields.length fc] 101)) 80 5
      rw [alloc_size] at RN
      refine (W2.okc (put2 (r := [80]) (S0.out.grew ((Grew.refl _).alloc _)) RN (by simp; omega)) rfl).mono ?_
      rintro en w1 ⟨rfl, t1, s1⟩
      have T1 : Hid (WT b B w w1) := (T0.out.trans (WT.of_grew ((Grew.refl _).alloc _))).trans t1
      have S1 : Hid (WS b B w1 (l ++ [80])) := s1
      have N1 : Hid (w1.heap[w.heap.size]? = some (.cells #[.bool false, .slice sa ss.length sc, .int .i64 x.kind, .slice pa x.params.length pc, .slice ra x.results.length rc, .slice fa x.fields.length fc] 101 (0, 0))) := t1.other (heap_alloc N0.out _) (by simp; omega) (NoT.of (heap_alloc N0.out _) (by decide))
      clear t1 s1 T0 S0 N0 RN
      have n0_1 := cell_of N1.out 0
      have n1_1 := cell_of N1.out 1
      have n2_1 := cell_of N1.out 2
      have n3_1 := cell_of N1.out 3
      have n4_1 := cell_of N1.out 4
      have n5_1 := cell_of N1.out 5
      simp at n0_1 n1_1 n2_1 n3_1 n4_1 n5_1
      go_wp2_with fail
      refine (W2.erc (putListI2 S1.out (T1.out.grew0 G0.out hb0 hB0) hb0 _ ss HS.out 1000 (by decide) (by simp; omega)) hy).mono ?_
      rintro en w2 ⟨⟨p, rfl⟩, t2⟩
      have T2 : Hid (WT b B w w2) := T1.out.trans t2
      clear t2
      go_wp2_with fail
      exact ⟨rfl, ⟨p, rfl⟩, T2.out⟩
    | ok m =>
      rw [thenW_ok rfl rfl]
      have S0 : Hid (WS b B (w.alloc (.cells #[.bool false, .slice sa ss.length sc, .int .i64 x.kind, .slice pa x.params.length pc, .slice ra x.results.length rc, .slice fa x.fields.length fc] 101)) l) := H.out.grew ((Grew.refl w).alloc _)
      have T0 : Hid (WT b B w (w.alloc (.cells #[.bool false, .slice sa ss.length sc, .int .i64 x.kind, .slice pa x.params.length pc, .slice ra x.results.length rc, .slice fa x.fields.length fc] 101))) := WT.of_grew ((Grew.refl w).alloc _)
      have N0 : Hid ((w.alloc (.cells #[.bool false, .slice sa ss.length sc, .int .i64 x.kind, .slice pa x.params.length pc, .slice ra x.results.length rc, .slice fa x.fields.length fc] 101)).heap[w.heap.size]? = some (.cells #[.bool false, .slice sa ss.length sc, .int .i64 x.kind, .slice pa x.params.length pc, .slice ra x.results.length rc, .slice fa x.fields.length fc] 101 (0, 0))) := heap_alloc_last _ _
      go_enter Tryd.func105, Tryd.ntmps105
      go_wp2_with fail
      have RN := reads_new (w.alloc (.cells #[.bool false, .slice sa ss.length sc, .int .i64 x.kind, .slice pa x.params.length pc, .slice ra x.results.length rc, .slice fa x.fields.length fc] 101)) 80 5
      rw [alloc_size] at RN
      refine (W2.okc (put2 (r := [80]) (S0.out.grew ((Grew.refl _).alloc _)) RN (by simp; omega)) rfl).mono ?_
      rintro en w1 ⟨rfl, t1, s1⟩
      have T1 : Hid (WT b B w w1) := (T0.out.trans (WT.of_grew ((Grew.refl _).alloc _))).trans t1
      have S1 : Hid (WS b B w1 (l ++ [80])) := s1
      have N1 : Hid (w1.heap[w.heap.size]? = some (.cells #[.bool false, .slice sa ss.length sc, .int .i64 x.kind, .slice pa x.params.length pc, .slice ra x.results.length rc, .slice fa x.fields.length fc] 101 (0, 0))) := t1.other (heap_alloc N0.out _) (by simp; omega) (NoT.of (heap_alloc N0.out _) (by decide))
      clear t1 s1 T0 S0 N0 RN
      have n0_1 := cell_of N1.out 0
      have n1_1 := cell_of N1.out 1
      have n2_1 := cell_of N1.out 2
      have n3_1 := cell_of N1.out 3
      have n4_1 := cell_of N1.out 4
      have n5_1 := cell_of N1.out 5
      simp at n0_1 n1_1 n2_1 n3_1 n4_1 n5_1
      go_wp2_with fail
      refine (W2.okc (putListI2 S1.out (T1.out.grew0 G0.out hb0 hB0) hb0 _ ss HS.out 1000 (by decide) (by simp; omega)) hy).mono ?_
      rintro en w2 ⟨rfl, t2, s2⟩
      have T2 : Hid (WT b B w w2) := T1.out.trans t2
      have S2 : Hid (WS b B w2 ((l ++ [80]) ++ m)) := s2
      have N2 : Hid (w2.heap[w.heap.size]? = some (.cells #[.bool false, .slice sa ss.length sc, .int .i64 x.kind, .slice pa x.params.length pc, .slice ra x.results.length rc, .slice fa x.fields.length fc] 101 (0, 0))) := t2.other N1.out (by simp; omega) (NoT.of N1.out (by decide))
      clear t2 s2 T1 S1 N1
      go_wp2_with fail
      go_end0
      exact ⟨rfl, T2.out, by have := S2.out; simpa [List.append_assoc] using this⟩
theorem declW_len {x : SB} {m : List Int} (h : declW x = .ok m) : m.length ≤ 12000 := by
  unfold declW at h
  cases hy : listW 1000 uidxW x.supers with
  | error e => rw [hy] at h; cases h
  | ok k =>
    have := listW_len (K := 11) (fun _ _ h => uidxW_len h) hy
    rw [hy] at h
    cases h
    simp
    omega
set_option maxRecDepth 100000 in
set_option maxHeartbeats 1000000 in
theorem subType2 {b B : Nat} {w : World} {l : List Int} (h : WS b B w l) {w0 : World} (g0 : Grew w0 w) (hb0 : w0.heap.size ≤ b) (fin : Bool) (sv : Value) (ss : List Int) (hs : LI w0 sv ss) (x : CT) (pv rv fv : Value) (hx : CompR w0 x pv rv fv) (hsm : x.params.length ≤ 1073741824 ∧ x.results.length ≤ 1073741824) (hl : l.length ≤ 14000000000000) :
    Calls Tryd.prog 77 #[.pointer (some ⟨b, 0, none⟩), .agg #[.bool fin, sv, .int .i64 x.kind, pv, rv, fv]] w (W2 b B w l (subW ⟨fin, ss, x⟩)) := by
  have H : Hid (WS b B w l) := h
  have hb : b < w.heap.size := h.blt
  have hB0 : w0.heap.size ≤ B := by have := h.lt; omega
  have G0 : Hid (Grew w0 w) := g0
  clear h g0
  have DD : Hid (∀ w1 (l1 : List Int), WS b B w1 l1 → Grew w0 w1 → l1.length ≤ 15000000000000 → Calls Tryd.prog 105 #[.pointer (some ⟨b, 0, none⟩), .agg #[.bool fin, sv, .int .i64 x.kind, pv, rv, fv]] w1 (W2 b B w1 l1 (declW ⟨fin, ss, x⟩))) := fun w1 l1 u g h => declared2 u g hb0 fin sv ss hs x pv rv fv hx h
  have CD : Hid (∀ w1 (l1 : List Int), WS b B w1 l1 → Grew w0 w1 → l1.length ≤ 16000000000000 → Calls Tryd.prog 106 #[.pointer (some ⟨b, 0, none⟩), .agg #[.int .i64 x.kind, pv, rv, fv]] w1 (W2 b B w1 l1 (compW x))) := fun w1 l1 u g h => compType2 u g hb0 x pv rv fv hx hsm h
  obtain ⟨sa, sc, rfl, _, _⟩ := hs.one
  obtain ⟨pa, pc, ep, _, _⟩ := hx.1.one
  obtain ⟨ra, rc, er, _, _⟩ := hx.2.1.one
  obtain ⟨fa, fc, ef, _, _⟩ := hx.2.2.one
  subst ep
  subst er
  subst ef
  clear hs hx
  unfold subW
  simp only
  have hdl := fun m => declW_len (x := ⟨fin, ss, x⟩) (m := m)
  generalize declW ⟨fin, ss, x⟩ = R1 at *
  generalize compW x = R2 at *
  cases fin with
  | false =>
    rw [if_pos (Or.inl rfl)]
    cases hy : R1 with
    | error e =>
      rw [thenW_er rfl]
      have S0 : Hid (WS b B (w.alloc (.cells #[.bool false, .slice sa ss.length sc, .int .i64 x.kind, .slice pa x.params.length pc, .slice ra x.results.length rc, .slice fa x.fields.length fc] 101)) l) := H.out.grew ((Grew.refl w).alloc _)
      have T0 : Hid (WT b B w (w.alloc (.cells #[.bool false, .slice sa ss.length sc, .int .i64 x.kind, .slice pa x.params.length pc, .slice ra x.results.length rc, .slice fa x.fields.length fc] 101))) := WT.of_grew ((Grew.refl w).alloc _)
      have N0 : Hid ((w.alloc (.cells #[.bool false, .slice sa ss.length sc, .int .i64 x.kind, .slice pa x.params.length pc, .slice ra x.results.length rc, .slice fa x.fields.length fc] 101)).heap[w.heap.size]? = some (.cells #[.bool false, .slice sa ss.length sc, .int .i64 x.kind, .slice pa x.params.length pc, .slice ra x.results.length rc, .slice fa x.fields.length fc] 101 (0, 0))) := heap_alloc_last _ _
      go_enter Tryd.func77, Tryd.ntmps77
      go_wp2_with fail
      refine (W2.erc (DD.out _ _ S0.out (T0.out.grew0 G0.out hb0 hB0) (by omega)) hy).mono ?_
      rintro en w1 ⟨⟨p, rfl⟩, t1⟩
      have T1 : Hid (WT b B w w1) := T0.out.trans t1
      clear t1
      go_wp2_with fail
      exact ⟨rfl, ⟨p, rfl⟩, T1.out⟩
    | ok m =>
      have hm := hdl m hy
      cases hz : R2 with
      | error e =>
        rw [thenW_ee rfl rfl]
        have S0 : Hid (WS b B (w.alloc (.cells #[.bool false, .slice sa ss.length sc, .int .i64 x.kind, .slice pa x.params.length pc, .slice ra x.results.length rc, .slice fa x.fields.length fc] 101)) l) := H.out.grew ((Grew.refl w).alloc _)
        have T0 : Hid (WT b B w (w.alloc (.cells #[.bool false, .slice sa ss.length sc, .int .i64 x.kind, .slice pa x.params.length pc, .slice ra x.results.length rc, .slice fa x.fields.length fc] 101))) := WT.of_grew ((Grew.refl w).alloc _)
        have N0 : Hid ((w.alloc (.cells #[.bool false, .slice sa ss.length sc, .int .i64 x.kind, .slice pa x.params.length pc, .slice ra x.results.length rc, .slice fa x.fields.length fc] 101)).heap[w.heap.size]? = some (.cells #[.bool false, .slice sa ss.length sc, .int .i64 x.kind, .slice pa x.params.length pc, .slice ra x.results.length rc, .slice fa x.fields.length fc] 101 (0, 0))) := heap_alloc_last _ _
        go_enter Tryd.func77, Tryd.ntmps77
        go_wp2_with fail
        refine (W2.okc (DD.out _ _ S0.out (T0.out.grew0 G0.out hb0 hB0) (by omega)) hy).mono ?_
        rintro en w1 ⟨rfl, t1, s1⟩
        have T1 : Hid (WT b B w w1) := T0.out.trans t1
        have S1 : Hid (WS b B w1 (l ++ m)) := s1
        have N1 : Hid (w1.heap[w.heap.size]? = some (.cells #[.bool false, .slice sa ss.length sc, .int .i64 x.kind, .slice pa x.params.length pc, .slice ra x.results.length rc, .slice fa x.fields.length fc] 101 (0, 0))) := t1.other N0.out (by simp; omega) (NoT.of N0.out (by decide))
        clear t1 s1 T0 S0 N0
        have n0_1 := cell_of N1.out 0
        have n1_1 := cell_of N1.out 1
        have n2_1 := cell_of N1.out 2
        have n3_1 := cell_of N1.out 3
        have n4_1 := cell_of N1.out 4
        have n5_1 := cell_of N1.out 5
        simp at n0_1 n1_1 n2_1 n3_1 n4_1 n5_1
        go_wp2_with fail
        refine (W2.erc (CD.out _ _ S1.out (T1.out.grew0 G0.out hb0 hB0) (by simp; omega)) hz).mono ?_
        rintro en w2 ⟨⟨p, rfl⟩, t2⟩
        have T2 : Hid (WT b B w w2) := T1.out.trans t2
        clear t2
        go_wp2_with fail
        exact ⟨rfl, ⟨p, rfl⟩, T2.out⟩
      | ok n =>
        rw [thenW_ok rfl rfl]
        have S0 : Hid (WS b B (w.alloc (.cells #[.bool false, .slice sa ss.length sc, .int .i64 x.kind, .slice pa x.params.length pc, .slice ra x.results.length rc, .slice fa x.fields.length fc] 101)) l) := H.out.grew ((Grew.refl w).alloc _)
        have T0 : Hid (WT b B w (w.alloc (.cells #[.bool false, .slice sa ss.length sc, .int .i64 x.kind, .slice pa x.params.length pc, .slice ra x.results.length rc, .slice fa x.fields.length fc] 101))) := WT.of_grew ((Grew.refl w).alloc _)
        have N0 : Hid ((w.alloc (.cells #[.bool false, .slice sa ss.length sc, .int .i64 x.kind, .slice pa x.params.length pc, .slice ra x.results.length rc, .slice fa x.fields.length fc] 101)).heap[w.heap.size]? = some (.cells #[.bool false, .slice sa ss.length sc, .int .i64 x.kind, .slice pa x.params.length pc, .slice ra x.results.length rc, .slice fa x.fields.length fc] 101 (0, 0))) := heap_alloc_last _ _
        go_enter Tryd.func77, Tryd.ntmps77
        go_wp2_with fail
        refine (W2.okc (DD.out _ _ S0.out (T0.out.grew0 G0.out hb0 hB0) (by omega)) hy).mono ?_
        rintro en w1 ⟨rfl, t1, s1⟩
        have T1 : Hid (WT b B w w1) := T0.out.trans t1
        have S1 : Hid (WS b B w1 (l ++ m)) := s1
        have N1 : Hid (w1.heap[w.heap.size]? = some (.cells #[.bool false, .slice sa ss.length sc, .int .i64 x.kind, .slice pa x.params.length pc, .slice ra x.results.length rc, .slice fa x.fields.length fc] 101 (0, 0))) := t1.other N0.out (by simp; omega) (NoT.of N0.out (by decide))
        clear t1 s1 T0 S0 N0
        have n0_1 := cell_of N1.out 0
        have n1_1 := cell_of N1.out 1
        have n2_1 := cell_of N1.out 2
        have n3_1 := cell_of N1.out 3
        have n4_1 := cell_of N1.out 4
        have n5_1 := cell_of N1.out 5
        simp at n0_1 n1_1 n2_1 n3_1 n4_1 n5_1
        go_wp2_with fail
        refine (W2.okc (CD.out _ _ S1.out (T1.out.grew0 G0.out hb0 hB0) (by simp; omega)) hz).mono ?_
        rintro en w2 ⟨rfl, t2, s2⟩
        have T2 : Hid (WT b B w w2) := T1.out.trans t2
        have S2 : Hid (WS b B w2 ((l ++ m) ++ n)) := s2
        have N2 : Hid (w2.heap[w.heap.size]? = some (.cells #[.bool false, .slice sa ss.length sc, .int .i64 x.kind, .slice pa x.params.length pc, .slice ra x.results.length rc, .slice fa x.fields.length fc] 101 (0, 0))) := t2.other N1.out (by simp; omega) (NoT.of N1.out (by decide))
        clear t2 s2 T1 S1 N1
        go_wp2_with fail
        go_end0
        exact ⟨rfl, T2.out, by have := S2.out; simpa [List.append_assoc] using this⟩
  | true =>
    by_cases hs0 : 0 < ss.length
    · rw [if_pos (Or.inr hs0)]
      have g1 : decide (0 < ss.length) = true := by simpa using hs0
      have g2 : decide ((0 : Int) < (ss.length : Int)) = true := by simpa using hs0
      cases hy : R1 with
      | error e =>
        rw [thenW_er rfl]
        have S0 : Hid (WS b B (w.alloc (.cells #[.bool true, .slice sa ss.length sc, .int .i64 x.kind, .slice pa x.params.length pc, .slice ra x.results.length rc, .slice fa x.fields.length fc] 101)) l) := H.out.grew ((Grew.refl w).alloc _)
        have T0 : Hid (WT b B w (w.alloc (.cells #[.bool true, .slice sa ss.length sc, .int .i64 x.kind, .slice pa x.params.length pc, .slice ra x.results.length rc, .slice fa x.fields.length fc] 101))) := WT.of_grew ((Grew.refl w).alloc _)
        have N0 : Hid ((w.alloc (.cells #[.bool true, .slice sa ss.length sc, .int .i64 x.kind, .slice pa x.params.length pc, .slice ra x.results.length rc, .slice fa x.fields.length fc] 101)).heap[w.heap.size]? = some (.cells #[.bool true, .slice sa ss.length sc, .int .i64 x.kind, .slice pa x.params.length pc, .slice ra x.results.length rc, .slice fa x.fields.length fc] 101 (0, 0))) := heap_alloc_last _ _
        go_enter Tryd.func77, Tryd.ntmps77
        go_wp2_with fail
        refine (W2.erc (DD.out _ _ S0.out (T0.out.grew0 G0.out hb0 hB0) (by omega)) hy).mono ?_
        rintro en w1 ⟨⟨p, rfl⟩, t1⟩
        have T1 : Hid (WT b B w w1) := T0.out.trans t1
        clear t1
        go_wp2_with fail
        exact ⟨rfl, ⟨p, rfl⟩, T1.out⟩
      | ok m =>
        have hm := hdl m hy
        cases hz : R2 with
        | error e =>
          rw [thenW_ee rfl rfl]
          have S0 : Hid (WS b B (w.alloc (.cells #[.bool true, .slice sa ss.length sc, .int .i64 x.kind, .slice pa x.params.length pc, .slice ra x.results.length rc, .slice fa x.fields.length fc] 101)) l) := H.out.grew ((Grew.refl w).alloc _)
          have T0 : Hid (WT b B w (w.alloc (.cells #[.bool true, .slice sa ss.length sc, .int .i64 x.kind, .slice pa x.params.length pc, .slice ra x.results.length rc, .slice fa x.fields.length fc] 101))) := WT.of_grew ((Grew.refl w).alloc _)
          have N0 : Hid ((w.alloc (.cells #[.bool true, .slice sa ss.length sc, .int .i64 x.kind, .slice pa x.params.length pc, .slice ra x.results.length rc, .slice fa x.fields.length fc] 101)).heap[w.heap.size]? = some (.cells #[.bool true, .slice sa ss.length sc, .int .i64 x.kind, .slice pa x.params.length pc, .slice ra x.results.length rc, .slice fa x.fields.length fc] 101 (0, 0))) := heap_alloc_last _ _
          go_enter Tryd.func77, Tryd.ntmps77
          go_wp2_with fail
          refine (W2.okc (DD.out _ _ S0.out (T0.out.grew0 G0.out hb0 hB0) (by omega)) hy).mono ?_
          rintro en w1 ⟨rfl, t1, s1⟩
          have T1 : Hid (WT b B w w1) := T0.out.trans t1
          have S1 : Hid (WS b B w1 (l ++ m)) := s1
          have N1 : Hid (w1.heap[w.heap.size]? = some (.cells #[.bool true, .slice sa ss.length sc, .int .i64 x.kind, .slice pa x.params.length pc, .slice ra x.results.length rc, .slice fa x.fields.length fc] 101 (0, 0))) := t1.other N0.out (by simp; omega) (NoT.of N0.out (by decide))
          clear t1 s1 T0 S0 N0
          have n0_1 := cell_of N1.out 0
          have n1_1 := cell_of N1.out 1
          have n2_1 := cell_of N1.out 2
          have n3_1 := cell_of N1.out 3
          have n4_1 := cell_of N1.out 4
          have n5_1 := cell_of N1.out 5
          simp at n0_1 n1_1 n2_1 n3_1 n4_1 n5_1
          go_wp2_with fail
          refine (W2.erc (CD.out _ _ S1.out (T1.out.grew0 G0.out hb0 hB0) (by simp; omega)) hz).mono ?_
          rintro en w2 ⟨⟨p, rfl⟩, t2⟩
          have T2 : Hid (WT b B w w2) := T1.out.trans t2
          clear t2
          go_wp2_with fail
          exact ⟨rfl, ⟨p, rfl⟩, T2.out⟩
        | ok n =>
          rw [thenW_ok rfl rfl]
          have S0 : Hid (WS b B (w.alloc (.cells #[.bool true, .slice sa ss.length sc, .int .i64 x.kind, .slice pa x.params.length pc, .slice ra x.results.length rc, .slice fa x.fields.length fc] 101)) l) := H.out.grew ((Grew.refl w).alloc _)
          have T0 : Hid (WT b B w (w.alloc (.cells #[.bool true, .slice sa ss.length sc, .int .i64 x.kind, .slice pa x.params.length pc, .slice ra x.results.length rc, .slice fa x.fields.length fc] 101))) := WT.of_grew ((Grew.refl w).alloc _)
          have N0 : Hid ((w.alloc (.cells #[.bool true, .slice sa ss.length sc, .int .i64 x.kind, .slice pa x.params.length pc, .slice ra x.results.length rc, .slice fa x.fields.length fc] 101)).heap[w.heap.size]? = some (.cells #[.bool true, .slice sa ss.length sc, .int .i64 x.kind, .slice pa x.params.length pc, .slice ra x.results.length rc, .slice fa x.fields.length fc] 101 (0, 0))) := heap_alloc_last _ _
          go_enter Tryd.func77, Tryd.ntmps77
          go_wp2_with fail
          refine (W2.okc (DD.out _ _ S0.out (T0.out.grew0 G0.out hb0 hB0) (by omega)) hy).mono ?_
          rintro en w1 ⟨rfl, t1, s1⟩
          have T1 : Hid (WT b B w w1) := T0.out.trans t1
          have S1 : Hid (WS b B w1 (l ++ m)) := s1
          have N1 : Hid (w1.heap[w.heap.size]? = some (.cells #[.bool true, .slice sa ss.length sc, .int .i64 x.kind, .slice pa x.params.length pc, .slice ra x.results.length rc, .slice fa x.fields.length fc] 101 (0, 0))) := t1.other N0.out (by simp; omega) (NoT.of N0.out (by decide))
          clear t1 s1 T0 S0 N0
          have n0_1 := cell_of N1.out 0
          have n1_1 := cell_of N1.out 1
          have n2_1 := cell_of N1.out 2
          have n3_1 := cell_of N1.out 3
          have n4_1 := cell_of N1.out 4
          have n5_1 := cell_of N1.out 5
          simp at n0_1 n1_1 n2_1 n3_1 n4_1 n5_1
          go_wp2_with fail
          refine (W2.okc (CD.out _ _ S1.out (T1.out.grew0 G0.out hb0 hB0) (by simp; omega)) hz).mono ?_
          rintro en w2 ⟨rfl, t2, s2⟩
          have T2 : Hid (WT b B w w2) := T1.out.trans t2
          have S2 : Hid (WS b B w2 ((l ++ m) ++ n)) := s2
          have N2 : Hid (w2.heap[w.heap.size]? = some (.cells #[.bool true, .slice sa ss.length sc, .int .i64 x.kind, .slice pa x.params.length pc, .slice ra x.results.length rc, .slice fa x.fields.length fc] 101 (0, 0))) := t2.other N1.out (by simp; omega) (NoT.of N1.out (by decide))
          clear t2 s2 T1 S1 N1
          go_wp2_with fail
          go_end0
          exact ⟨rfl, T2.out, by have := S2.out; simpa [List.append_assoc] using this⟩
    · rw [if_neg (show ¬ (true = false ∨ 0 < ss.length) by rintro (h | h); exact absurd h (by decide); exact hs0 h)]
      have g1 : decide (0 < ss.length) = false := by simpa using hs0
      have g2 : decide ((0 : Int) < (ss.length : Int)) = false := by simpa using hs0
      cases hz : R2 with
      | error e =>
        have S0 : Hid (WS b B (w.alloc (.cells #[.bool true, .slice sa ss.length sc, .int .i64 x.kind, .slice pa x.params.length pc, .slice ra x.results.length rc, .slice fa x.fields.length fc] 101)) l) := H.out.grew ((Grew.refl w).alloc _)
        have T0 : Hid (WT b B w (w.alloc (.cells #[.bool true, .slice sa ss.length sc, .int .i64 x.kind, .slice pa x.params.length pc, .slice ra x.results.length rc, .slice fa x.fields.length fc] 101))) := WT.of_grew ((Grew.refl w).alloc _)
        have N0 : Hid ((w.alloc (.cells #[.bool true, .slice sa ss.length sc, .int .i64 x.kind, .slice pa x.params.length pc, .slice ra x.results.length rc, .slice fa x.fields.length fc] 101)).heap[w.heap.size]? = some (.cells #[.bool true, .slice sa ss.length sc, .int .i64 x.kind, .slice pa x.params.length pc, .slice ra x.results.length rc, .slice fa x.fields.length fc] 101 (0, 0))) := heap_alloc_last _ _
        go_enter Tryd.func77, Tryd.ntmps77
        go_wp2_with fail
        refine (W2.erc (CD.out _ _ S0.out (T0.out.grew0 G0.out hb0 hB0) (by omega)) hz).mono ?_
        rintro en w1 ⟨⟨p, rfl⟩, t1⟩
        have T1 : Hid (WT b B w w1) := T0.out.trans t1
        clear t1
        go_wp2_with fail
        exact ⟨rfl, ⟨p, rfl⟩, T1.out⟩
      | ok n =>
        have S0 : Hid (WS b B (w.alloc (.cells #[.bool true, .slice sa ss.length sc, .int .i64 x.kind, .slice pa x.params.length pc, .slice ra x.results.length rc, .slice fa x.fields.length fc] 101)) l) := H.out.grew ((Grew.refl w).alloc _)
        have T0 : Hid (WT b B w (w.alloc (.cells #[.bool true, .slice sa ss.length sc, .int .i64 x.kind, .slice pa x.params.length pc, .slice ra x.results.length rc, .slice fa x.fields.length fc] 101))) := WT.of_grew ((Grew.refl w).alloc _)
        have N0 : Hid ((w.alloc (.cells #[.bool true, .slice sa ss.length sc, .int .i64 x.kind, .slice pa x.params.length pc, .slice ra x.results.length rc, .slice fa x.fields.length fc] 101)).heap[w.heap.size]? = some (.cells #[.bool true, .slice sa ss.length sc, .int .i64 x.kind, .slice pa x.params.length pc, .slice ra x.results.length rc, .slice fa x.fields.length fc] 101 (0, 0))) := heap_alloc_last _ _
        go_enter Tryd.func77, Tryd.ntmps77
        go_wp2_with fail
        refine (W2.okc (CD.out _ _ S0.out (T0.out.grew0 G0.out hb0 hB0) (by omega)) hz).mono ?_
        rintro en w1 ⟨rfl, t1, s1⟩
        have T1 : Hid (WT b B w w1) := T0.out.trans t1
        have S1 : Hid (WS b B w1 (l ++ n)) := s1
        have N1 : Hid (w1.heap[w.heap.size]? = some (.cells #[.bool true, .slice sa ss.length sc, .int .i64 x.kind, .slice pa x.params.length pc, .slice ra x.results.length rc, .slice fa x.fields.length fc] 101 (0, 0))) := t1.other N0.out (by simp; omega) (NoT.of N0.out (by decide))
        clear t1 s1 T0 S0 N0
        go_wp2_with fail
        go_end0
        exact ⟨rfl, T1.out, by have := S1.out; simpa [List.append_assoc] using this⟩
end Go.Proofs.YtbhbogfdnaadeaaDoor
