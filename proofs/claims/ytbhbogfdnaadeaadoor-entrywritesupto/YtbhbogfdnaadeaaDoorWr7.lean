/-
  The writer: the walks of declared, subType, putList at types, recType; no statement is proved here.
-/
import Derived.Test.YtbhbogfdnaadeaaDoorWr5
namespace Go.Proofs.YtbhbogfdnaadeaaDoor
open Go.RowKit
set_option linter.unusedVariables false
set_option linter.unusedSimpArgs false
set_option linter.constructorNameAsVariable false

theorem manyW_len {α : Type} {wr : α → Except Nat (List Int)} {K : Nat} (hK : ∀ x m, wr x = .ok m → m.length ≤ K) : ∀ (xs : List α) (m : List Int), manyW wr xs = .ok m → m.length ≤ K * xs.length
  | [], m, h => by cases h; simp
  | x :: r, m, h => by
    rw [manyW] at h
    cases h1 : wr x with
    | error e => rw [h1] at h; cases h
    | ok a =>
      cases h2 : manyW wr r with
      | error e => rw [h1, h2] at h; cases h
      | ok b =>
        rw [h1, h2] at h
        cases h
        have := hK x a h1
        have := manyW_len hK r b h2
        simp [Nat.mul_add]
        omega
theorem listW_len {α : Type} {wr : α → Except Nat (List Int)} {K lim : Nat} (hK : ∀ x m, wr x = .ok m → m.length ≤ K) {xs : List α} {m : List Int} (h : listW lim wr xs = .ok m) : m.length ≤ 11 + K * lim := by
  unfold listW at h
  split at h
  · cases h
  · rename_i hl
    cases h2 : manyW wr xs with
    | error e => rw [h2] at h; cases h
    | ok b =>
      rw [h2] at h
      cases h
      have h3 := manyW_len hK xs b h2
      have h4 := PU_len (xs.length : Int)
      have h5 : K * xs.length ≤ K * lim := Nat.mul_le_mul_left K (by omega)
      simp
      omega
theorem code_6 : codeR 6 1 = .ok [96] ∧ codeR 6 2 = .ok [95] ∧ codeR 6 3 = .ok [94] := ⟨rfl, rfl, rfl⟩
theorem whole_kind {c : CT} (h : wholeC c = true) : c.kind = 1 ∨ c.kind = 2 ∨ c.kind = 3 := by
  unfold wholeC at h
  split at h
  · left; assumption
  · split at h
    · right; left; assumption
    · split at h
      · right; right; assumption
      · cases h
theorem whole_arr {c : CT} (h : wholeC c = true) (hk : c.kind = 3) : c.fields.length = 1 := by
  unfold wholeC at h
  rw [if_neg (by omega), if_neg (by omega), if_pos hk] at h
  exact (of_decide_eq_true h).2.2
set_option maxRecDepth 100000 in
set_option maxHeartbeats 1000000 in
theorem compType2 {b B : Nat} {w : World} {l : List Int} (h : WS b B w l) {w0 : World} (g0 : Grew w0 w) (hb0 : w0.heap.size ≤ b) (x : CT) (pv rv fv : Value) (hx : CompR w0 x pv rv fv) (hsm : x.params.length ≤ 1073741824 ∧ x.results.length ≤ 1073741824) (hl : l.length ≤ 16000000000000) :
    Calls Tryd.prog 106 #[.pointer (some ⟨b, 0, none⟩), .agg #[.int .i64 x.kind, pv, rv, fv]] w (W2 b B w l (compW x)) := by
  have H : Hid (WS b B w l) := h
  have hb : b < w.heap.size := h.blt
  have hB0 : w0.heap.size ≤ B := by have := h.lt; omega
  have G0 : Hid (Grew w0 w) := g0
  clear h g0
  obtain ⟨kd, ps, rs, fs⟩ := x
  obtain ⟨h1, h2, h3⟩ := hx
  simp only at h1 h2 h3 ⊢
  obtain ⟨pa, pc, rfl, hp1, hp2⟩ := h1.one
  obtain ⟨ra, rc, rfl, hr1, hr2⟩ := h2.one
  obtain ⟨fa, fc, rfl, hf1, hf2⟩ := h3.one
  have H1 : Hid (LV w0 (.slice pa ps.length pc) ps) := h1
  have H2 : Hid (LV w0 (.slice ra rs.length rc) rs) := h2
  have H3 : Hid (LF w0 (.slice fa fs.length fc) fs) := h3
  simp only at hsm
  have bp : ps.length ≤ 4611686018427387903 := by omega
  have br : rs.length ≤ 4611686018427387903 := by omega
  have IW := fun w1 : World => isWhole_any kd ps rs fs pa ra fa pc rc fc w1 bp br
  clear h1 h2 h3 hp1 hp2 hr1 hr2 hf1 hf2
  unfold compW
  have hwk := whole_kind (c := ⟨kd, ps, rs, fs⟩)
  have hwa := whole_arr (c := ⟨kd, ps, rs, fs⟩)
  simp only at hwk hwa ⊢
  cases hw : wholeC ⟨kd, ps, rs, fs⟩ with
  | false =>
    rw [if_neg (by simp)]
    rw [hw] at IW
    clear hwk hwa hw
    have S0 : Hid (WS b B (w.alloc (.cells #[.int .i64 kd, .slice pa ps.length pc, .slice ra rs.length rc, .slice fa fs.length fc] 99)) l) := H.out.grew ((Grew.refl w).alloc _)
    have T0 : Hid (WT b B w (w.alloc (.cells #[.int .i64 kd, .slice pa ps.length pc, .slice ra rs.length rc, .slice fa fs.length fc] 99))) := WT.of_grew ((Grew.refl w).alloc _)
    have N0 : Hid ((w.alloc (.cells #[.int .i64 kd, .slice pa ps.length pc, .slice ra rs.length rc, .slice fa fs.length fc] 99)).heap[w.heap.size]? = some (.cells #[.int .i64 kd, .slice pa ps.length pc, .slice ra rs.length rc, .slice fa fs.length fc] 99 (0, 0))) := heap_alloc_last _ _
    go_enter Tryd.func106, Tryd.ntmps106
    go_wp2_with fail
    refine (IW _).mono ?_
    rintro en w1 ⟨rfl, g1⟩
    have T1 : Hid (WT b B w w1) := T0.out.trans (WT.of_grew g1)
    have S1 : Hid (WS b B w1 l) := S0.out.grew g1
    have N1 : Hid (w1.heap[w.heap.size]? = some (.cells #[.int .i64 kd, .slice pa ps.length pc, .slice ra rs.length rc, .slice fa fs.length fc] 99 (0, 0))) := (g1.turn []).other N0.out (by simp)
    clear g1 T0 S0 N0
    go_wp2_with fail
    refine (need_no S1.out).mono ?_
    rintro en w9 ⟨⟨p, rfl⟩, h9⟩
    obtain rfl := h9.symm
    go_wp2_with fail
    exact ⟨rfl, ⟨p, rfl⟩, T1.out⟩
  | true =>
    rw [if_pos rfl]
    rw [hw] at IW
    have hk := hwk hw
    by_cases k1 : kd = 1
    · rw [if_pos k1]
      subst k1
      clear hwk hwa hw hk
      cases hx : listW 1000 valW ps with
      | error e =>
        rw [thenW_ee rfl (thenW_er rfl)]
        have S0 : Hid (WS b B (w.alloc (.cells #[.int .i64 1, .slice pa ps.length pc, .slice ra rs.length rc, .slice fa fs.length fc] 99)) l) := H.out.grew ((Grew.refl w).alloc _)
        have T0 : Hid (WT b B w (w.alloc (.cells #[.int .i64 1, .slice pa ps.length pc, .slice ra rs.length rc, .slice fa fs.length fc] 99))) := WT.of_grew ((Grew.refl w).alloc _)
        have N0 : Hid ((w.alloc (.cells #[.int .i64 1, .slice pa ps.length pc, .slice ra rs.length rc, .slice fa fs.length fc] 99)).heap[w.heap.size]? = some (.cells #[.int .i64 1, .slice pa ps.length pc, .slice ra rs.length rc, .slice fa fs.length fc] 99 (0, 0))) := heap_alloc_last _ _
        go_enter Tryd.func106, Tryd.ntmps106
        go_wp2_with fail
        refine (IW _).mono ?_
        rintro en w1 ⟨rfl, g1⟩
        have T1 : Hid (WT b B w w1) := T0.out.trans (WT.of_grew g1)
        have S1 : Hid (WS b B w1 l) := S0.out.grew g1
        have N1 : Hid (w1.heap[w.heap.size]? = some (.cells #[.int .i64 1, .slice pa ps.length pc, .slice ra rs.length rc, .slice fa fs.length fc] 99 (0, 0))) := (g1.turn []).other N0.out (by simp)
        clear g1 T0 S0 N0
        go_wp2_with fail
        refine (need_yes S1.out).mono ?_
        rintro en w9 ⟨rfl, h9⟩
        obtain rfl := h9.symm
        clear h9
        have n0_1 := cell_of N1.out 0
        have n1_1 := cell_of N1.out 1
        have n2_1 := cell_of N1.out 2
        have n3_1 := cell_of N1.out 3
        simp at n0_1 n1_1 n2_1 n3_1
        go_wp2_with fail
        refine (W2.okc (putCode2 S1.out 6 1 (by omega)) rfl).mono ?_
        rintro en w2 ⟨rfl, t2, s2⟩
        have T2 : Hid (WT b B w w2) := T1.out.trans t2
        have S2 : Hid (WS b B w2 (l ++ [96])) := s2
        have N2 : Hid (w2.heap[w.heap.size]? = some (.cells #[.int .i64 1, .slice pa ps.length pc, .slice ra rs.length rc, .slice fa fs.length fc] 99 (0, 0))) := t2.other N1.out (by simp; omega) (NoT.of N1.out (by decide))
        clear t2 s2 T1 S1 N1
        have n0_2 := cell_of N2.out 0
        have n1_2 := cell_of N2.out 1
        have n2_2 := cell_of N2.out 2
        have n3_2 := cell_of N2.out 3
        simp at n0_2 n1_2 n2_2 n3_2
        go_wp2_with fail
        refine (W2.erc (valTypes2 S2.out (T2.out.grew0 G0.out hb0 hB0) hb0 _ ps H1.out (by simp; omega)) hx).mono ?_
        rintro en w3 ⟨⟨p, rfl⟩, t3⟩
        have T3 : Hid (WT b B w w3) := T2.out.trans t3
        clear t3
        go_wp2_with fail
        exact ⟨rfl, ⟨p, rfl⟩, T3.out⟩
      | ok m1 =>
        have hm1 := listW_len (K := 12) (fun _ _ h => valW_len h) hx
        cases hy : listW 1000 valW rs with
        | error e =>
          rw [thenW_ee rfl (thenW_ee rfl rfl)]
          have S0 : Hid (WS b B (w.alloc (.cells #[.int .i64 1, .slice pa ps.length pc, .slice ra rs.length rc, .slice fa fs.length fc] 99)) l) := H.out.grew ((Grew.refl w).alloc _)
          have T0 : Hid (WT b B w (w.alloc (.cells #[.int .i64 1, .slice pa ps.length pc, .slice ra rs.length rc, .slice fa fs.length fc] 99))) := WT.of_grew ((Grew.refl w).alloc _)
          have N0 : Hid ((w.alloc (.cells #[.int .i64 1, .slice pa ps.length pc, .slice ra rs.length rc, .slice fa fs.length fc] 99)).heap[w.heap.size]? = some (.cells #[.int .i64 1, .slice pa ps.length pc, .slice ra rs.length rc, .slice fa fs.length fc] 99 (0, 0))) := heap_alloc_last _ _
          go_enter Tryd.func106, Tryd.ntmps106
          go_wp2_with fail
          refine (IW _).mono ?_
          rintro en w1 ⟨rfl, g1⟩
          have T1 : Hid (WT b B w w1) := T0.out.trans (WT.of_grew g1)
          have S1 : Hid (WS b B w1 l) := S0.out.grew g1
          have N1 : Hid (w1.heap[w.heap.size]? = some (.cells #[.int .i64 1, .slice pa ps.length pc, .slice ra rs.length rc, .slice fa fs.length fc] 99 (0, 0))) := (g1.turn []).other N0.out (by simp)
          clear g1 T0 S0 N0
          go_wp2_with fail
          refine (need_yes S1.out).mono ?_
          rintro en w9 ⟨rfl, h9⟩
          obtain rfl := h9.symm
          clear h9
          have n0_1 := cell_of N1.out 0
          have n1_1 := cell_of N1.out 1
          have n2_1 := cell_of N1.out 2
          have n3_1 := cell_of N1.out 3
          simp at n0_1 n1_1 n2_1 n3_1
          go_wp2_with fail
          refine (W2.okc (putCode2 S1.out 6 1 (by omega)) rfl).mono ?_
          rintro en w2 ⟨rfl, t2, s2⟩
          have T2 : Hid (WT b B w w2) := T1.out.trans t2
          have S2 : Hid (WS b B w2 (l ++ [96])) := s2
          have N2 : Hid (w2.heap[w.heap.size]? = some (.cells #[.int .i64 1, .slice pa ps.length pc, .slice ra rs.length rc, .slice fa fs.length fc] 99 (0, 0))) := t2.other N1.out (by simp; omega) (NoT.of N1.out (by decide))
          clear t2 s2 T1 S1 N1
          have n0_2 := cell_of N2.out 0
          have n1_2 := cell_of N2.out 1
          have n2_2 := cell_of N2.out 2
          have n3_2 := cell_of N2.out 3
          simp at n0_2 n1_2 n2_2 n3_2
          go_wp2_with fail
          refine (W2.okc (valTypes2 S2.out (T2.out.grew0 G0.out hb0 hB0) hb0 _ ps H1.out (by simp; omega)) hx).mono ?_
          rintro en w3 ⟨rfl, t3, s3⟩
          have T3 : Hid (WT b B w w3) := T2.out.trans t3
          have S3 : Hid (WS b B w3 ((l ++ [96]) ++ m1)) := s3
          have N3 : Hid (w3.heap[w.heap.size]? = some (.cells #[.int .i64 1, .slice pa ps.length pc, .slice ra rs.length rc, .slice fa fs.length fc] 99 (0, 0))) := t3.other N2.out (by simp; omega) (NoT.of N2.out (by decide))
          clear t3 s3 T2 S2 N2
          have n0_3 := cell_of N3.out 0
          have n1_3 := cell_of N3.out 1
          have n2_3 := cell_of N3.out 2
          have n3_3 := cell_of N3.out 3
          simp at n0_3 n1_3 n2_3 n3_3
          go_wp2_with fail
          refine (W2.erc (valTypes2 S3.out (T3.out.grew0 G0.out hb0 hB0) hb0 _ rs H2.out (by simp; omega)) hy).mono ?_
          rintro en w4 ⟨⟨p, rfl⟩, t4⟩
          have T4 : Hid (WT b B w w4) := T3.out.trans t4
          clear t4
          go_wp2_with fail
          exact ⟨rfl, ⟨p, rfl⟩, T4.out⟩
        | ok m2 =>
          rw [thenW_ok rfl (thenW_ok rfl rfl)]
          have S0 : Hid (WS b B (w.alloc (.cells #[.int .i64 1, .slice pa ps.length pc, .slice ra rs.length rc, .slice fa fs.length fc] 99)) l) := H.out.grew ((Grew.refl w).alloc _)
          have T0 : Hid (WT b B w (w.alloc (.cells #[.int .i64 1, .slice pa ps.length pc, .slice ra rs.length rc, .slice fa fs.length fc] 99))) := WT.of_grew ((Grew.refl w).alloc _)
          have N0 : Hid ((w.alloc (.cells #[.int .i64 1, .slice pa ps.length pc, .slice ra rs.length rc, .slice fa fs.length fc] 99)).heap[w.heap.size]? = some (.cells #[.int .i64 1, .slice pa ps.length pc, .slice ra rs.length rc, .slice fa fs.length fc] 99 (0, 0))) := heap_alloc_last _ _
          go_enter Tryd.func106, Tryd.ntmps106
          go_wp2_with fail
          refine (IW _).mono ?_
          rintro en w1 ⟨rfl, g1⟩
          have T1 : Hid (WT b B w w1) := T0.out.trans (WT.of_grew g1)
          have S1 : Hid (WS b B w1 l) := S0.out.grew g1
          have N1 : Hid (w1.heap[w.heap.size]? = some (.cells #[.int .i64 1, .slice pa ps.length pc, .slice ra rs.length rc, .slice fa fs.length fc] 99 (0, 0))) := (g1.turn []).other N0.out (by simp)
          clear g1 T0 S0 N0
          go_wp2_with fail
          refine (need_yes S1.out).mono ?_
          rintro en w9 ⟨rfl, h9⟩
          obtain rfl := h9.symm
          clear h9
          have n0_1 := cell_of N1.out 0
          have n1_1 := cell_of N1.out 1
          have n2_1 := cell_of N1.out 2
          have n3_1 := cell_of N1.out 3
          simp at n0_1 n1_1 n2_1 n3_1
          go_wp2_with fail
          refine (W2.okc (putCode2 S1.out 6 1 (by omega)) rfl).mono ?_
          rintro en w2 ⟨rfl, t2, s2⟩
          have T2 : Hid (WT b B w w2) := T1.out.trans t2
          have S2 : Hid (WS b B w2 (l ++ [96])) := s2
          have N2 : Hid (w2.heap[w.heap.size]? = some (.cells #[.int .i64 1, .slice pa ps.length pc, .slice ra rs.length rc, .slice fa fs.length fc] 99 (0, 0))) := t2.other N1.out (by simp; omega) (NoT.of N1.out (by decide))
          clear t2 s2 T1 S1 N1
          have n0_2 := cell_of N2.out 0
          have n1_2 := cell_of N2.out 1
          have n2_2 := cell_of N2.out 2
          have n3_2 := cell_of N2.out 3
          simp at n0_2 n1_2 n2_2 n3_2
          go_wp2_with fail
          refine (W2.okc (valTypes2 S2.out (T2.out.grew0 G0.out hb0 hB0) hb0 _ ps H1.out (by simp; omega)) hx).mono ?_
          rintro en w3 ⟨rfl, t3, s3⟩
          have T3 : Hid (WT b B w w3) := T2.out.trans t3
          have S3 : Hid (WS b B w3 ((l ++ [96]) ++ m1)) := s3
          have N3 : Hid (w3.heap[w.heap.size]? = some (.cells #[.int .i64 1, .slice pa ps.length pc, .slice ra rs.length rc, .slice fa fs.length fc] 99 (0, 0))) := t3.other N2.out (by simp; omega) (NoT.of N2.out (by decide))
          clear t3 s3 T2 S2 N2
          have n0_3 := cell_of N3.out 0
          have n1_3 := cell_of N3.out 1
          have n2_3 := cell_of N3.out 2
          have n3_3 := cell_of N3.out 3
          simp at n0_3 n1_3 n2_3 n3_3
          go_wp2_with fail
          refine (W2.okc (valTypes2 S3.out (T3.out.grew0 G0.out hb0 hB0) hb0 _ rs H2.out (by simp; omega)) hy).mono ?_
          rintro en w4 ⟨rfl, t4, s4⟩
          have T4 : Hid (WT b B w w4) := T3.out.trans t4
          have S4 : Hid (WS b B w4 (((l ++ [96]) ++ m1) ++ m2)) := s4
          have N4 : Hid (w4.heap[w.heap.size]? = some (.cells #[.int .i64 1, .slice pa ps.length pc, .slice ra rs.length rc, .slice fa fs.length fc] 99 (0, 0))) := t4.other N3.out (by simp; omega) (NoT.of N3.out (by decide))
          clear t4 s4 T3 S3 N3
          go_wp2_with fail
          go_end0
          exact ⟨rfl, T4.out, by have := S4.out; simpa [List.append_assoc] using this⟩
    · rw [if_neg k1]
      have e1 : (kd == 1) = false := by simpa using k1
      by_cases k2 : kd = 2
      · rw [if_pos k2]
        subst k2
        clear hwk hwa hw hk k1
        cases hx : listW 10000 fieldW fs with
        | error e =>
          rw [thenW_ee rfl rfl]
          have S0 : Hid (WS b B (w.alloc (.cells #[.int .i64 2, .slice pa ps.length pc, .slice ra rs.length rc, .slice fa fs.length fc] 99)) l) := H.out.grew ((Grew.refl w).alloc _)
          have T0 : Hid (WT b B w (w.alloc (.cells #[.int .i64 2, .slice pa ps.length pc, .slice ra rs.length rc, .slice fa fs.length fc] 99))) := WT.of_grew ((Grew.refl w).alloc _)
          have N0 : Hid ((w.alloc (.cells #[.int .i64 2, .slice pa ps.length pc, .slice ra rs.length rc, .slice fa fs.length fc] 99)).heap[w.heap.size]? = some (.cells #[.int .i64 2, .slice pa ps.length pc, .slice ra rs.length rc, .slice fa fs.length fc] 99 (0, 0))) := heap_alloc_last _ _
          go_enter Tryd.func106, Tryd.ntmps106
          go_wp2_with fail
          refine (IW _).mono ?_
          rintro en w1 ⟨rfl, g1⟩
          have T1 : Hid (WT b B w w1) := T0.out.trans (WT.of_grew g1)
          have S1 : Hid (WS b B w1 l) := S0.out.grew g1
          have N1 : Hid (w1.heap[w.heap.size]? = some (.cells #[.int .i64 2, .slice pa ps.length pc, .slice ra rs.length rc, .slice fa fs.length fc] 99 (0, 0))) := (g1.turn []).other N0.out (by simp)
          clear g1 T0 S0 N0
          go_wp2_with fail
          refine (need_yes S1.out).mono ?_
          rintro en w9 ⟨rfl, h9⟩
          obtain rfl := h9.symm
          clear h9
          have n0_1 := cell_of N1.out 0
          have n1_1 := cell_of N1.out 1
          have n2_1 := cell_of N1.out 2
          have n3_1 := cell_of N1.out 3
          simp at n0_1 n1_1 n2_1 n3_1
          go_wp2_with fail
          refine (W2.okc (putCode2 S1.out 6 2 (by omega)) rfl).mono ?_
          rintro en w2 ⟨rfl, t2, s2⟩
          have T2 : Hid (WT b B w w2) := T1.out.trans t2
          have S2 : Hid (WS b B w2 (l ++ [95])) := s2
          have N2 : Hid (w2.heap[w.heap.size]? = some (.cells #[.int .i64 2, .slice pa ps.length pc, .slice ra rs.length rc, .slice fa fs.length fc] 99 (0, 0))) := t2.other N1.out (by simp; omega) (NoT.of N1.out (by decide))
          clear t2 s2 T1 S1 N1
          have n0_2 := cell_of N2.out 0
          have n1_2 := cell_of N2.out 1
          have n2_2 := cell_of N2.out 2
          have n3_2 := cell_of N2.out 3
          simp at n0_2 n1_2 n2_2 n3_2
          go_wp2_with fail
          refine (W2.erc (putListF2 S2.out (T2.out.grew0 G0.out hb0 hB0) hb0 _ fs H3.out 10000 (by decide) (by simp; omega)) hx).mono ?_
          rintro en w3 ⟨⟨p, rfl⟩, t3⟩
          have T3 : Hid (WT b B w w3) := T2.out.trans t3
          clear t3
          go_wp2_with fail
          exact ⟨rfl, ⟨p, rfl⟩, T3.out⟩
        | ok m =>
          rw [thenW_ok rfl rfl]
          have S0 : Hid (WS b B (w.alloc (.cells #[.int .i64 2, .slice pa ps.length pc, .slice ra rs.length rc, .slice fa fs.length fc] 99)) l) := H.out.grew ((Grew.refl w).alloc _)
          have T0 : Hid (WT b B w (w.alloc (.cells #[.int .i64 2, .slice pa ps.length pc, .slice ra rs.length rc, .slice fa fs.length fc] 99))) := WT.of_grew ((Grew.refl w).alloc _)
          have N0 : Hid ((w.alloc (.cells #[.int .i64 2, .slice pa ps.length pc, .slice ra rs.length rc, .slice fa fs.length fc] 99)).heap[w.heap.size]? = some (.cells #[.int .i64 2, .slice pa ps.length pc, .slice ra rs.length rc, .slice fa fs.length fc] 99 (0, 0))) := heap_alloc_last _ _
          go_enter Tryd.func106, Tryd.ntmps106
          go_wp2_with fail
          refine (IW _).mono ?_
          rintro en w1 ⟨rfl, g1⟩
          have T1 : Hid (WT b B w w1) := T0.out.trans (WT.of_grew g1)
          have S1 : Hid (WS b B w1 l) := S0.out.grew g1
          have N1 : Hid (w1.heap[w.heap.size]? = some (.cells #[.int .i64 2, .slice pa ps.length pc, .slice ra rs.length rc, .slice fa fs.length fc] 99 (0, 0))) := (g1.turn []).other N0.out (by simp)
          clear g1 T0 S0 N0
          go_wp2_with fail
          refine (need_yes S1.out).mono ?_
          rintro en w9 ⟨rfl, h9⟩
          obtain rfl := h9.symm
          clear h9
          have n0_1 := cell_of N1.out 0
          have n1_1 := cell_of N1.out 1
          have n2_1 := cell_of N1.out 2
          have n3_1 := cell_of N1.out 3
          simp at n0_1 n1_1 n2_1 n3_1
          go_wp2_with fail
          refine (W2.okc (putCode2 S1.out 6 2 (by omega)) rfl).mono ?_
          rintro en w2 ⟨rfl, t2, s2⟩
          have T2 : Hid (WT b B w w2) := T1.out.trans t2
          have S2 : Hid (WS b B w2 (l ++ [95])) := s2
          have N2 : Hid (w2.heap[w.heap.size]? = some (.cells #[.int .i64 2, .slice pa ps.length pc, .slice ra rs.length rc, .slice fa fs.length fc] 99 (0, 0))) := t2.other N1.out (by simp; omega) (NoT.of N1.out (by decide))
          clear t2 s2 T1 S1 N1
          have n0_2 := cell_of N2.out 0
          have n1_2 := cell_of N2.out 1
          have n2_2 := cell_of N2.out 2
          have n3_2 := cell_of N2.out 3
          simp at n0_2 n1_2 n2_2 n3_2
          go_wp2_with fail
          refine (W2.okc (putListF2 S2.out (T2.out.grew0 G0.out hb0 hB0) hb0 _ fs H3.out 10000 (by decide) (by simp; omega)) hx).mono ?_
          rintro en w3 ⟨rfl, t3, s3⟩
          have T3 : Hid (WT b B w w3) := T2.out.trans t3
          have S3 : Hid (WS b B w3 ((l ++ [95]) ++ m)) := s3
          have N3 : Hid (w3.heap[w.heap.size]? = some (.cells #[.int .i64 2, .slice pa ps.length pc, .slice ra rs.length rc, .slice fa fs.length fc] 99 (0, 0))) := t3.other N2.out (by simp; omega) (NoT.of N2.out (by decide))
          clear t3 s3 T2 S2 N2
          go_wp2_with fail
          go_end0
          exact ⟨rfl, T3.out, by have := S3.out; simpa [List.append_assoc] using this⟩
      · rw [if_neg k2]
        have e2 : (kd == 2) = false := by simpa using k2
        have k3 : kd = 3 := by omega
        have hf1 := hwa hw k3
        subst k3
        clear hwk hwa hw hk k1 k2
        obtain ⟨x0, hx0⟩ : ∃ x0, fs = [x0] := by
          cases fs with
          | nil => simp at hf1
          | cons a r =>
            cases r with
            | nil => exact ⟨a, rfl⟩
            | cons _ _ => simp at hf1
        have L1 : Hid (fs.length = 1) := hf1
        have EH : fs.headD ⟨⟨0, false, 0⟩, false⟩ = x0 := by rw [hx0]; rfl
        have E0 : fs[0]? = some x0 := by rw [hx0]; rfl
        rw [EH]
        obtain ⟨bb, off, ea, hcp, hcel⟩ := H3.out.get (by omega)
        subst ea
        have hc0 : EF w0 bb off x0 := by have := hcel 0 x0 E0; simpa using this
        have HC : Hid (EF w0 bb off x0) := hc0
        clear hc0
        have hpos : 0 < fs.length := by omega
        have hfn : ¬ fs = [] := fun h => by rw [h] at hpos; simp at hpos
        have hdi : decide (0 < fs.length) = true := decide_eq_true hpos
        have hdi2 : decide ((0 : Int) < (fs.length : Int)) = true := decide_eq_true (by omega)
        clear hx0 EH E0 hcel hf1
        obtain ⟨⟨vn, vb, vh⟩, mu⟩ := x0
        have FD : Hid (∀ w1 (l1 : List Int), WS b B w1 l1 → l1.length ≤ 17592186043000 → Calls Tryd.prog 123 #[.pointer (some ⟨b, 0, none⟩), .agg #[.int .i64 vn, .bool vb, .int .i64 vh, .bool mu]] w1 (W2 b B w1 l1 (fieldW ⟨⟨vn, vb, vh⟩, mu⟩))) := fun w1 l1 u h => field2 u ⟨⟨vn, vb, vh⟩, mu⟩ h
        cases hx : fieldW ⟨⟨vn, vb, vh⟩, mu⟩ with
        | error e =>
          rw [thenW_ee rfl rfl]
          have S0 : Hid (WS b B (w.alloc (.cells #[.int .i64 3, .slice pa ps.length pc, .slice ra rs.length rc, .slice (some ⟨bb, off, none⟩) fs.length fc] 99)) l) := H.out.grew ((Grew.refl w).alloc _)
          have T0 : Hid (WT b B w (w.alloc (.cells #[.int .i64 3, .slice pa ps.length pc, .slice ra rs.length rc, .slice (some ⟨bb, off, none⟩) fs.length fc] 99))) := WT.of_grew ((Grew.refl w).alloc _)
          have N0 : Hid ((w.alloc (.cells #[.int .i64 3, .slice pa ps.length pc, .slice ra rs.length rc, .slice (some ⟨bb, off, none⟩) fs.length fc] 99)).heap[w.heap.size]? = some (.cells #[.int .i64 3, .slice pa ps.length pc, .slice ra rs.length rc, .slice (some ⟨bb, off, none⟩) fs.length fc] 99 (0, 0))) := heap_alloc_last _ _
          go_enter Tryd.func106, Tryd.ntmps106
          go_wp2_with fail
          refine (IW _).mono ?_
          rintro en w1 ⟨rfl, g1⟩
          have T1 : Hid (WT b B w w1) := T0.out.trans (WT.of_grew g1)
          have S1 : Hid (WS b B w1 l) := S0.out.grew g1
          have N1 : Hid (w1.heap[w.heap.size]? = some (.cells #[.int .i64 3, .slice pa ps.length pc, .slice ra rs.length rc, .slice (some ⟨bb, off, none⟩) fs.length fc] 99 (0, 0))) := (g1.turn []).other N0.out (by simp)
          clear g1 T0 S0 N0
          go_wp2_with fail
          refine (need_yes S1.out).mono ?_
          rintro en w9 ⟨rfl, h9⟩
          obtain rfl := h9.symm
          clear h9
          have n0_1 := cell_of N1.out 0
          have n1_1 := cell_of N1.out 1
          have n2_1 := cell_of N1.out 2
          have n3_1 := cell_of N1.out 3
          simp at n0_1 n1_1 n2_1 n3_1
          go_wp2_with fail
          refine (W2.okc (putCode2 S1.out 6 3 (by omega)) rfl).mono ?_
          rintro en w2 ⟨rfl, t2, s2⟩
          have T2 : Hid (WT b B w w2) := T1.out.trans t2
          have S2 : Hid (WS b B w2 (l ++ [94])) := s2
          have N2 : Hid (w2.heap[w.heap.size]? = some (.cells #[.int .i64 3, .slice pa ps.length pc, .slice ra rs.length rc, .slice (some ⟨bb, off, none⟩) fs.length fc] 99 (0, 0))) := t2.other N1.out (by simp; omega) (NoT.of N1.out (by decide))
          clear t2 s2 T1 S1 N1
          have n0_2 := cell_of N2.out 0
          have n1_2 := cell_of N2.out 1
          have n2_2 := cell_of N2.out 2
          have n3_2 := cell_of N2.out 3
          simp at n0_2 n1_2 n2_2 n3_2
          obtain ⟨⟨f0, f1, f2⟩, f3⟩ := HC.out.grew (T2.out.grew0 G0.out hb0 hB0)
          simp only at f0 f1 f2 f3
          go_wp2_with fail
          refine (W2.erc (FD.out _ _ S2.out (by simp; omega)) hx).mono ?_
          rintro en w3 ⟨⟨p, rfl⟩, t3⟩
          have T3 : Hid (WT b B w w3) := T2.out.trans t3
          clear t3
          go_wp2_with fail
          exact ⟨rfl, ⟨p, rfl⟩, T3.out⟩
        | ok m =>
          rw [thenW_ok rfl rfl]
          have S0 : Hid (WS b B (w.alloc (.cells #[.int .i64 3, .slice pa ps.length pc, .slice ra rs.length rc, .slice (some ⟨bb, off, none⟩) fs.length fc] 99)) l) := H.out.grew ((Grew.refl w).alloc _)
          have T0 : Hid (WT b B w (w.alloc (.cells #[.int .i64 3, .slice pa ps.length pc, .slice ra rs.length rc, .slice (some ⟨bb, off, none⟩) fs.length fc] 99))) := WT.of_grew ((Grew.refl w).alloc _)
          have N0 : Hid ((w.alloc (.cells #[.int .i64 3, .slice pa ps.length pc, .slice ra rs.length rc, .slice (some ⟨bb, off, none⟩) fs.length fc] 99)).heap[w.heap.size]? = some (.cells #[.int .i64 3, .slice pa ps.length pc, .slice ra rs.length rc, .slice (some ⟨bb, off, none⟩) fs.length fc] 99 (0, 0))) := heap_alloc_last _ _
          go_enter Tryd.func106, Tryd.ntmps106
          go_wp2_with fail
          refine (IW _).mono ?_
          rintro en w1 ⟨rfl, g1⟩
          have T1 : Hid (WT b B w w1) := T0.out.trans (WT.of_grew g1)
          have S1 : Hid (WS b B w1 l) := S0.out.grew g1
          have N1 : Hid (w1.heap[w.heap.size]? = some (.cells #[.int .i64 3, .slice pa ps.length pc, .slice ra rs.length rc, .slice (some ⟨bb, off, none⟩) fs.length fc] 99 (0, 0))) := (g1.turn []).other N0.out (by simp)
          clear g1 T0 S0 N0
          go_wp2_with fail
          refine (need_yes S1.out).mono ?_
          rintro en w9 ⟨rfl, h9⟩
          obtain rfl := h9.symm
          clear h9
          have n0_1 := cell_of N1.out 0
          have n1_1 := cell_of N1.out 1
          have n2_1 := cell_of N1.out 2
          have n3_1 := cell_of N1.out 3
          simp at n0_1 n1_1 n2_1 n3_1
          go_wp2_with fail
          refine (W2.okc (putCode2 S1.out 6 3 (by omega)) rfl).mono ?_
          rintro en w2 ⟨rfl, t2, s2⟩
          have T2 : Hid (WT b B w w2) := T1.out.trans t2
          have S2 : Hid (WS b B w2 (l ++ [94])) := s2
          have N2 : Hid (w2.heap[w.heap.size]? = some (.cells #[.int .i64 3, .slice pa ps.length pc, .slice ra rs.length rc, .slice (some ⟨bb, off, none⟩) fs.length fc] 99 (0, 0))) := t2.other N1.out (by simp; omega) (NoT.of N1.out (by decide))
          clear t2 s2 T1 S1 N1
          have n0_2 := cell_of N2.out 0
          have n1_2 := cell_of N2.out 1
          have n2_2 := cell_of N2.out 2
          have n3_2 := cell_of N2.out 3
          simp at n0_2 n1_2 n2_2 n3_2
          obtain ⟨⟨f0, f1, f2⟩, f3⟩ := HC.out.grew (T2.out.grew0 G0.out hb0 hB0)
          simp only at f0 f1 f2 f3
          go_wp2_with fail
          refine (W2.okc (FD.out _ _ S2.out (by simp; omega)) hx).mono ?_
          rintro en w3 ⟨rfl, t3, s3⟩
          have T3 : Hid (WT b B w w3) := T2.out.trans t3
          have S3 : Hid (WS b B w3 ((l ++ [94]) ++ m)) := s3
          have N3 : Hid (w3.heap[w.heap.size]? = some (.cells #[.int .i64 3, .slice pa ps.length pc, .slice ra rs.length rc, .slice (some ⟨bb, off, none⟩) fs.length fc] 99 (0, 0))) := t3.other N2.out (by simp; omega) (NoT.of N2.out (by decide))
          clear t3 s3 T2 S2 N2
          go_wp2_with fail
          go_end0
          exact ⟨rfl, T3.out, by have := S3.out; simpa [List.append_assoc] using this⟩
end Go.Proofs.YtbhbogfdnaadeaaDoor

namespace Go.Proofs.YtbhbogfdnaadeaaDoor
open Go.RowKit
set_option linter.unusedVariables false
set_option linter.unusedSimpArgs false
set_option linter.constructorNameAsVariable false

set_option maxRecDepth 100000 in
set_option maxHeartbeats 1000000 in
theorem declared2 {b B : Nat} {w : World} {l : List Int} (h : WS b B w l) {w0 : World} (g0 : Grew w0 w) (hb0 : w0.heap.size ≤ b) (fin : Bool) (sv : Value) (ss : List Int) (hs : LI w0 sv ss) (x : CT) (pv rv fv : Value) (hx : CompR w0 x pv rv fv) (hl : l.length ≤ 15000000000000) :
    Calls Tryd.prog 105 #[.pointer (some ⟨b, 0, none⟩), .agg #[.bool fin, sv, .int .i64 x.kind, pv, rv, fv]] w (W2 b B w l (declW ⟨fin, ss, x⟩)) := by
  have H : Hid (WS b B w l) := h
  have hb : b < w.heap.size := h.blt
  have hB0 : w0.heap.size ≤ B := by have := h.lt; omega
  have G0 : Hid (Grew w0 w) := g0
  clear h g0
  obtain ⟨sa, sc, rfl, _, _⟩ := hs.one
  have HS : Hid (LI w0 (.slice sa ss.length sc) ss) := hs
  have HX : Hid (CompR w0 x pv rv fv) := hx
  obtain ⟨pa, pc, ep, _, _⟩ := hx.1.one
  obtain ⟨ra, rc, er, _, _⟩ := hx.2.1.one
  obtain ⟨fa, fc, ef, _, _⟩ := hx.2.2.one
  subst ep
  subst er
  subst ef
  clear hs hx
  unfold declW
  simp only
  cases fin with
  | true =>
    cases hy : listW 1000 uidxW ss with
    | error e =>
      rw [thenW_ee rfl rfl]
      have S0 : Hid (WS b B (w.alloc (.cells #[.bool true, .slice sa ss.length sc, .int .i64 x.kind, .slice pa x.params.length pc, .slice ra x.results.length rc, .slice fa x.fields.length fc] 101)) l) := H.out.grew ((Grew.refl w).alloc _)
      have T0 : Hid (WT b B w (w.alloc (.cells #[.bool true, .slice sa ss.length sc, .int .i64 x.kind, .slice pa x.params.length pc, .slice ra x.results.length rc, .slice fa x.fields.length fc] 101))) := WT.of_grew ((Grew.refl w).alloc _)
      have N0 : Hid ((w.alloc (.cells #[.bool true, .slice sa ss.length sc, .int .i64 x.kind, .slice pa x.params.length pc, .slice ra x.results.length rc, .slice fa x.fields.length fc] 101)).heap[w.heap.size]? = some (.cells #[.bool true, .slice sa ss.length sc, .int .i64 x.kind, .slice pa x.params.length pc, .slice ra x.results.length rc, .slice fa x.fields.length fc] 101 (0, 0))) := heap_alloc_last _ _
      go_enter Tryd.func105, Tryd.ntmps105
      go_wp2_with fail
      have RN := reads_new (w.alloc (.cells #[.bool true, .slice sa ss.length sc, .int .i64 x.kind, .slice pa x.params.length pc, .slice ra x.results.length rc, .slice fa x.fields.length fc] 101)) 79 5
      rw [alloc_size] at RN
      refine (W2.okc (put2 (r := [79]) (S0.out.grew ((Grew.refl _).alloc _)) RN (by simp; omega)) rfl).mono ?_
      rintro en w1 ⟨rfl, t1, s1⟩
      have T1 : Hid (WT b B w w1) := (T0.out.trans (WT.of_grew ((Grew.refl _).alloc _))).trans t1
      have S1 : Hid (WS b B w1 (l ++ [79])) := s1
      have N1 : Hid (w1.heap[w.heap.size]? = some (.cells #[.bool true, .slice sa ss.length sc, .int .i64 x.kind, .slice pa x.params.length pc, .slice ra x.results.length rc, .slice fa x.fields.length fc] 101 (0, 0))) := t1.other (heap_alloc N0.out _) (by simp; omega) (NoT.of (heap_alloc N0.out _) (by decide))
      clear t1 s1 T0 S0 N0 RN
      have n0_1 := cell_of N1.out 0
      have n1_1 := cell_of N1.out 1
      have n2_1 := cell_of N1.out 2
      have n3_1 := cell_of N1.out 3
      have n4_1 := cell_of N1.out 4
      have n5_1 := cell_of N1.out 5
      simp at n0_1 n1_1 n2_1 n3_1 n4_1 n5_1
      go_wp2_with fail
      refine (W2.erc (putListI2 S1.out (T1.out.grew0 G0.out hb0 hB0) hb0 _ ss HS.out 1000 (by decide) (by simp; omega)) hy).mono ?_
      rintro en w2 ⟨⟨p, rfl⟩, t2⟩
      have T2 : Hid (WT b B w w2) := T1.out.trans t2
      clear t2
      go_wp2_with fail
      exact ⟨rfl, ⟨p, rfl⟩, T2.out⟩
    | ok m =>
      rw [thenW_ok rfl rfl]
      have S0 : Hid (WS b B (w.alloc (.cells #[.bool true, .slice sa ss.length sc, .int .i64 x.kind, .slice pa x.params.length pc, .slice ra x.results.length rc, .slice fa x.fields.length fc] 101)) l) := H.out.grew ((Grew.refl w).alloc _)
      have T0 : Hid (WT b B w (w.alloc (.cells #[.bool true, .slice sa ss.length sc, .int .i64 x.kind, .slice pa x.params.length pc, .slice ra x.results.length rc, .slice fa x.fields.length fc] 101))) := WT.of_grew ((Grew.refl w).alloc _)
      have N0 : Hid ((w.alloc (.cells #[.bool true, .slice sa ss.length sc, .int .i64 x.kind, .slice pa x.params.length pc, .slice ra x.results.length rc, .slice fa x.fields.length fc] 101)).heap[w.heap.size]? = some (.cells #[.bool true, .slice sa ss.length sc, .int .i64 x.kind, .slice pa x.params.length pc, .slice ra x.results.length rc, .slice fa x.fields.length fc] 101 (0, 0))) := heap_alloc_last _ _
      go_enter Tryd.func105, Tryd.ntmps105
      go_wp2_with fail
      have RN := reads_new (w.alloc (.cells #[.bool true, .slice sa ss.length sc, .int .i64 x.kind, .slice pa x.params.length pc, .slice ra x.results.length rc, .slice fa x.fields.length fc] 101)) 79 5
      rw [alloc_size] at RN
      refine (W2.okc (put2 (r := [79]) (S0.out.grew ((Grew.refl _).alloc _)) RN (by simp; omega)) rfl).mono ?_
      rintro en w1 ⟨rfl, t1, s1⟩
      have T1 : Hid (WT b B w w1) := (T0.out.trans (WT.of_grew ((Grew.refl _).alloc _))).trans t1
      have S1 : Hid (WS b B w1 (l ++ [79])) := s1
      have N1 : Hid (w1.heap[w.heap.size]? = some (.cells #[.bool true, .slice sa ss.length sc, .int .i64 x.kind, .slice pa x.params.length pc, .slice ra x.results.length rc, .slice fa x.fields.length fc] 101 (0, 0))) := t1.other (heap_alloc N0.out _) (by simp; omega) (NoT.of (heap_alloc N0.out _) (by decide))
      clear t1 s1 T0 S0 N0 RN
      have n0_1 := cell_of N1.out 0
      have n1_1 := cell_of N1.out 1
      have n2_1 := cell_of N1.out 2
      have n3_1 := cell_of N1.out 3
      have n4_1 := cell_of N1.out 4
      have n5_1 := cell_of N1.out 5
      simp at n0_1 n1_1 n2_1 n3_1 n4_1 n5_1
      go_wp2_with fail
      refine (W2.okc (putListI2 S1.out (T1.out.grew0 G0.out hb0 hB0) hb0 _ ss HS.out 1000 (by decide) (by simp; omega)) hy).mono ?_
      rintro en w2 ⟨rfl, t2, s2⟩
      have T2 : Hid (WT b B w w2) := T1.out.trans t2
      have S2 : Hid (WS b B w2 ((l ++ [79]) ++ m)) := s2
      have N2 : Hid (w2.heap[w.heap.size]? = some (.cells #[.bool true, .slice sa ss.length sc, .int .i64 x.kind, .slice pa x.params.length pc, .slice ra x.results.length rc, .slice fa x.fields.length fc] 101 (0, 0))) := t2.other N1.out (by simp; omega) (NoT.of N1.out (by decide))
      clear t2 s2 T1 S1 N1
      go_wp2_with fail
      go_end0
      exact ⟨rfl, T2.out, by have := S2.out; simpa [List.append_assoc] using this⟩
  | false =>
    cases hy : listW 1000 uidxW ss with
    | error e =>
      rw [thenW_ee rfl rfl]
      have S0 : Hid (WS b B (w.alloc (.cells #[.bool false, .slice sa ss.length sc, .int .i64 x.kind, .slice pa x.params.length pc, .slice ra x.results.length rc, .slice fa x.fields.length fc] 101)) l) := H.out.grew ((Grew.refl w).alloc _)
      have T0 : Hid (WT b B w (w.alloc (.cells #[.bool false, .slice sa ss.length sc, .int .i64 x.kind, .slice pa x.params.length pc, .slice ra x.results.length rc, .slice fa x.fields.length fc] 101))) := WT.of_grew ((Grew.refl w).alloc _)
      have N0 : Hid ((w.alloc (.cells #[.bool false, .slice sa ss.length sc, .int .i64 x.kind, .slice pa x.params.length pc, .slice ra x.results.length rc, .slice fa x.fields.length fc] 101)).heap[w.heap.size]? = some (.cells #[.bool false, .slice sa ss.length sc, .int .i64 x.kind, .slice pa x.params.length pc, .slice ra x.results.length rc, .slice fa x.fields.length fc] 101 (0, 0))) := heap_alloc_last _ _
      go_enter Tryd.func105, Tryd.ntmps105
      go_wp2_with fail
      have RN := reads_new (w.alloc (.cells #[.bool false, .slice sa ss.length sc, .int .i64 x.kind, .slice pa x.params.length pc, .slice ra x.results.length rc, .slice fa x.fields.length fc] 101)) 80 5
      rw [alloc_size] at RN
      refine (W2.okc (put2 (r := [80]) (S0.out.grew ((Grew.refl _).alloc _)) RN (by simp; omega)) rfl).mono ?_
      rintro en w1 ⟨rfl, t1, s1⟩
      have T1 : Hid (WT b B w w1) := (T0.out.trans (WT.of_grew ((Grew.refl _).alloc _))).trans t1
      have S1 : Hid (WS b B w1 (l ++ [80])) := s1
      have N1 : Hid (w1.heap[w.heap.size]? = some (.cells #[.bool false, .slice sa ss.length sc, .int .i64 x.kind, .slice pa x.params.length pc, .slice ra x.results.length rc, .slice fa x.fields.length fc] 101 (0, 0))) := t1.other (heap_alloc N0.out _) (by simp; omega) (NoT.of (heap_alloc N0.out _) (by decide))
      clear t1 s1 T0 S0 N0 RN
      have n0_1 := cell_of N1.out 0
      have n1_1 := cell_of N1.out 1
      have n2_1 := cell_of N1.out 2
      have n3_1 := cell_of N1.out 3
      have n4_1 := cell_of N1.out 4
      have n5_1 := cell_of N1.out 5
      simp at n0_1 n1_1 n2_1 n3_1 n4_1 n5_1
      go_wp2_with fail
      refine (W2.erc (putListI2 S1.out (T1.out.grew0 G0.out hb0 hB0) hb0 _ ss HS.out 1000 (by decide) (by simp; omega)) hy).mono ?_
      rintro en w2 ⟨⟨p, rfl⟩, t2⟩
      have T2 : Hid (WT b B w w2) := T1.out.trans t2
      clear t2
      go_wp2_with fail
      exact ⟨rfl, ⟨p, rfl⟩, T2.out⟩
    | ok m =>
      rw [thenW_ok rfl rfl]
      have S0 : Hid (WS b B (w.alloc (.cells #[.bool false, .slice sa ss.length sc, .int .i64 x.kind, .slice pa x.params.length pc, .slice ra x.results.length rc, .slice fa x.fields.length fc] 101)) l) := H.out.grew ((Grew.refl w).alloc _)
      have T0 : Hid (WT b B w (w.alloc (.cells #[.bool false, .slice sa ss.length sc, .int .i64 x.kind, .slice pa x.params.length pc, .slice ra x.results.length rc, .slice fa x.fields.length fc] 101))) := WT.of_grew ((Grew.refl w).alloc _)
      have N0 : Hid ((w.alloc (.cells #[.bool false, .slice sa ss.length sc, .int .i64 x.kind, .slice pa x.params.length pc, .slice ra x.results.length rc, .slice fa x.fields.length fc] 101)).heap[w.heap.size]? = some (.cells #[.bool false, .slice sa ss.length sc, .int .i64 x.kind, .slice pa x.params.length pc, .slice ra x.results.length rc, .slice fa x.fields.length fc] 101 (0, 0))) := heap_alloc_last _ _
      go_enter Tryd.func105, Tryd.ntmps105
      go_wp2_with fail
      have RN := reads_new (w.alloc (.cells #[.bool false, .slice sa ss.length sc, .int .i64 x.kind, .slice pa x.params.length pc, .slice ra x.results.length rc, .slice fa x.fields.length fc] 101)) 80 5
      rw [alloc_size] at RN
      refine (W2.okc (put2 (r := [80]) (S0.out.grew ((Grew.refl _).alloc _)) RN (by simp; omega)) rfl).mono ?_
      rintro en w1 ⟨rfl, t1, s1⟩
      have T1 : Hid (WT b B w w1) := (T0.out.trans (WT.of_grew ((Grew.refl _).alloc _))).trans t1
      have S1 : Hid (WS b B w1 (l ++ [80])) := s1
      have N1 : Hid (w1.heap[w.heap.size]? = some (.cells #[.bool false, .slice sa ss.length sc, .int .i64 x.kind, .slice pa x.params.length pc, .slice ra x.results.length rc, .slice fa x.fields.length fc] 101 (0, 0))) := t1.other (heap_alloc N0.out _) (by simp; omega) (NoT.of (heap_alloc N0.out _) (by decide))
      clear t1 s1 T0 S0 N0 RN
      have n0_1 := cell_of N1.out 0
      have n1_1 := cell_of N1.out 1
      have n2_1 := cell_of N1.out 2
      have n3_1 := cell_of N1.out 3
      have n4_1 := cell_of N1.out 4
      have n5_1 := cell_of N1.out 5
      simp at n0_1 n1_1 n2_1 n3_1 n4_1 n5_1
      go_wp2_with fail
      refine (W2.okc (putListI2 S1.out (T1.out.grew0 G0.out hb0 hB0) hb0 _ ss HS.out 1000 (by decide) (by simp; omega)) hy).mono ?_
      rintro en w2 ⟨rfl, t2, s2⟩
      have T2 : Hid (WT b B w w2) := T1.out.trans t2
      have S2 : Hid (WS b B w2 ((l ++ [80]) ++ m)) := s2
      have N2 : Hid (w2.heap[w.heap.size]? = some (.cells #[.bool false, .slice sa ss.length sc, .int .i64 x.kind, .slice pa x.params.length pc, .slice ra x.results.length rc, .slice fa x.fields.length fc] 101 (0, 0))) := t2.other N1.out (by simp; omega) (NoT.of N1.out (by decide))
      clear t2 s2 T1 S1 N1
      go_wp2_with fail
      go_end0
      exact ⟨rfl, T2.out, by have := S2.out; simpa [List.append_assoc] using this⟩
theorem declW_len {x : SB} {m : List Int} (h : declW x = .ok m) : m.length ≤ 12000 := by
  unfold declW at h
  cases hy : listW 1000 uidxW x.supers with
  | error e => rw [hy] at h; cases h
  | ok k =>
    have := listW_len (K := 11) (fun _ _ h => uidxW_len h) hy
    rw [hy] at h
    cases h
    simp
    omega
set_option maxRecDepth 100000 in
set_option maxHeartbeats 1000000 in
theorem subType2 {b B : Nat} {w : World} {l : List Int} (h : WS b B w l) {w0 : World} (g0 : Grew w0 w) (hb0 : w0.heap.size ≤ b) (fin : Bool) (sv : Value) (ss : List Int) (hs : LI w0 sv ss) (x : CT) (pv rv fv : Value) (hx : CompR w0 x pv rv fv) (hsm : x.params.length ≤ 1073741824 ∧ x.results.length ≤ 1073741824) (hl : l.length ≤ 14000000000000) :
    Calls Tryd.prog 77 #[.pointer (some ⟨b, 0, none⟩), .agg #[.bool fin, sv, .int .i64 x.kind, pv, rv, fv]] w (W2 b B w l (subW ⟨fin, ss, x⟩)) := by
  have H : Hid (WS b B w l) := h
  have hb : b < w.heap.size := h.blt
  have hB0 : w0.heap.size ≤ B := by have := h.lt; omega
  have G0 : Hid (Grew w0 w) := g0
  clear h g0
  have DD : Hid (∀ w1 (l1 : List Int), WS b B w1 l1 → Grew w0 w1 → l1.length ≤ 15000000000000 → Calls Tryd.prog 105 #[.pointer (some ⟨b, 0, none⟩), .agg #[.bool fin, sv, .int .i64 x.kind, pv, rv, fv]] w1 (W2 b B w1 l1 (declW ⟨fin, ss, x⟩))) := fun w1 l1 u g h => declared2 u g hb0 fin sv ss hs x pv rv fv hx h
  have CD : Hid (∀ w1 (l1 : List Int), WS b B w1 l1 → Grew w0 w1 → l1.length ≤ 16000000000000 → Calls Tryd.prog 106 #[.pointer (some ⟨b, 0, none⟩), .agg #[.int .i64 x.kind, pv, rv, fv]] w1 (W2 b B w1 l1 (compW x))) := fun w1 l1 u g h => compType2 u g hb0 x pv rv fv hx hsm h
  obtain ⟨sa, sc, rfl, _, _⟩ := hs.one
  obtain ⟨pa, pc, ep, _, _⟩ := hx.1.one
  obtain ⟨ra, rc, er, _, _⟩ := hx.2.1.one
  obtain ⟨fa, fc, ef, _, _⟩ := hx.2.2.one
  subst ep
  subst er
  subst ef
  clear hs hx
  unfold subW
  simp only
  have hdl := fun m => declW_len (x := ⟨fin, ss, x⟩) (m := m)
  generalize declW ⟨fin, ss, x⟩ = R1 at *
  generalize compW x = R2 at *
  cases fin with
  | false =>
    rw [if_pos (Or.inl rfl)]
    cases hy : R1 with
    | error e =>
      rw [thenW_er rfl]
      have S0 : Hid (WS b B (w.alloc (.cells #[.bool false, .slice sa ss.length sc, .int .i64 x.kind, .slice pa x.params.length pc, .slice ra x.results.length rc, .slice fa x.fields.length fc] 101)) l) := H.out.grew ((Grew.refl w).alloc _)
      have T0 : Hid (WT b B w (w.alloc (.cells #[.bool false, .slice sa ss.length sc, .int .i64 x.kind, .slice pa x.params.length pc, .slice ra x.results.length rc, .slice fa x.fields.length fc] 101))) := WT.of_grew ((Grew.refl w).alloc _)
      have N0 : Hid ((w.alloc (.cells #[.bool false, .slice sa ss.length sc, .int .i64 x.kind, .slice pa x.params.length pc, .slice ra x.results.length rc, .slice fa x.fields.length fc] 101)).heap[w.heap.size]? = some (.cells #[.bool false, .slice sa ss.length sc, .int .i64 x.kind, .slice pa x.params.length pc, .slice ra x.results.length rc, .slice fa x.fields.length fc] 101 (0, 0))) := heap_alloc_last _ _
      go_enter Tryd.func77, Tryd.ntmps77
      go_wp2_with fail
      refine (W2.erc (DD.out _ _ S0.out (T0.out.grew0 G0.out hb0 hB0) (by omega)) hy).mono ?_
      rintro en w1 ⟨⟨p, rfl⟩, t1⟩
      have T1 : Hid (WT b B w w1) := T0.out.trans t1
      clear t1
      go_wp2_with fail
      exact ⟨rfl, ⟨p, rfl⟩, T1.out⟩
    | ok m =>
      have hm := hdl m hy
      cases hz : R2 with
      | error e =>
        rw [thenW_ee rfl rfl]
        have S0 : Hid (WS b B (w.alloc (.cells #[.bool false, .slice sa ss.length sc, .int .i64 x.kind, .slice pa x.params.length pc, .slice ra x.results.length rc, .slice fa x.fields.length fc] 101)) l) := H.out.grew ((Grew.refl w).alloc _)
        have T0 : Hid (WT b B w (w.alloc (.cells #[.bool false, .slice sa ss.length sc, .int .i64 x.kind, .slice pa x.params.length pc, .slice ra x.results.length rc, .slice fa x.fields.length fc] 101))) := WT.of_grew ((Grew.refl w).alloc _)
        have N0 : Hid ((w.alloc (.cells #[.bool false, .slice sa ss.length sc, .int .i64 x.kind, .slice pa x.params.length pc, .slice ra x.results.length rc, .slice fa x.fields.length fc] 101)).heap[w.heap.size]? = some (.cells #[.bool false, .slice sa ss.length sc, .int .i64 x.kind, .slice pa x.params.length pc, .slice ra x.results.length rc, .slice fa x.fields.length fc] 101 (0, 0))) := heap_alloc_last _ _
        go_enter Tryd.func77, Tryd.ntmps77
        go_wp2_with fail
        refine (W2.okc (DD.out _ _ S0.out (T0.out.grew0 G0.out hb0 hB0) (by omega)) hy).mono ?_
        rintro en w1 ⟨rfl, t1, s1⟩
        have T1 : Hid (WT b B w w1) := T0.out.trans t1
        have S1 : Hid (WS b B w1 (l ++ m)) := s1
        have N1 : Hid (w1.heap[w.heap.size]? = some (.cells #[.bool false, .slice sa ss.length sc, .int .i64 x.kind, .slice pa x.params.length pc, .slice ra x.results.length rc, .slice fa x.fields.length fc] 101 (0, 0))) := t1.other N0.out (by simp; omega) (NoT.of N0.out (by decide))
        clear t1 s1 T0 S0 N0
        have n0_1 := cell_of N1.out 0
        have n1_1 := cell_of N1.out 1
        have n2_1 := cell_of N1.out 2
        have n3_1 := cell_of N1.out 3
        have n4_1 := cell_of N1.out 4
        have n5_1 := cell_of N1.out 5
        simp at n0_1 n1_1 n2_1 n3_1 n4_1 n5_1
        go_wp2_with fail
        refine (W2.erc (CD.out _ _ S1.out (T1.out.grew0 G0.out hb0 hB0) (by simp; omega)) hz).mono ?_
        rintro en w2 ⟨⟨p, rfl⟩, t2⟩
        have T2 : Hid (WT b B w w2) := T1.out.trans t2
        clear t2
        go_wp2_with fail
        exact ⟨rfl, ⟨p, rfl⟩, T2.out⟩
      | ok n =>
        rw [thenW_ok rfl rfl]
        have S0 : Hid (WS b B (w.alloc (.cells #[.bool false, .slice sa ss.length sc, .int .i64 x.kind, .slice pa x.params.length pc, .slice ra x.results.length rc, .slice fa x.fields.length fc] 101)) l) := H.out.grew ((Grew.refl w).alloc _)
        have T0 : Hid (WT b B w (w.alloc (.cells #[.bool false, .slice sa ss.length sc, .int .i64 x.kind, .slice pa x.params.length pc, .slice ra x.results.length rc, .slice fa x.fields.length fc] 101))) := WT.of_grew ((Grew.refl w).alloc _)
        have N0 : Hid ((w.alloc (.cells #[.bool false, .slice sa ss.length sc, .int .i64 x.kind, .slice pa x.params.length pc, .slice ra x.results.length rc, .slice fa x.fields.length fc] 101)).heap[w.heap.size]? = some (.cells #[.bool false, .slice sa ss.length sc, .int .i64 x.kind, .slice pa x.params.length pc, .slice ra x.results.length rc, .slice fa x.fields.length fc] 101 (0, 0))) := heap_alloc_last _ _
        go_enter Tryd.func77, Tryd.ntmps77
        go_wp2_with fail
        refine (W2.okc (DD.out _ _ S0.out (T0.out.grew0 G0.out hb0 hB0) (by omega)) hy).mono ?_
        rintro en w1 ⟨rfl, t1, s1⟩
        have T1 : Hid (WT b B w w1) := T0.out.trans t1
        have S1 : Hid (WS b B w1 (l ++ m)) := s1
        have N1 : Hid (w1.heap[w.heap.size]? = some (.cells #[.bool false, .slice sa ss.length sc, .int .i64 x.kind, .slice pa x.params.length pc, .slice ra x.results.length rc, .slice fa x.fields.length fc] 101 (0, 0))) := t1.other N0.out (by simp; omega) (NoT.of N0.out (by decide))
        clear t1 s1 T0 S0 N0
        have n0_1 := cell_of N1.out 0
        have n1_1 := cell_of N1.out 1
        have n2_1 := cell_of N1.out 2
        have n3_1 := cell_of N1.out 3
        have n4_1 := cell_of N1.out 4
        have n5_1 := cell_of N1.out 5
        simp at n0_1 n1_1 n2_1 n3_1 n4_1 n5_1
        go_wp2_with fail
        refine (W2.okc (CD.out _ _ S1.out (T1.out.grew0 G0.out hb0 hB0) (by simp; omega)) hz).mono ?_
        rintro en w2 ⟨rfl, t2, s2⟩
        have T2 : Hid (WT b B w w2) := T1.out.trans t2
        have S2 : Hid (WS b B w2 ((l ++ m) ++ n)) := s2
        have N2 : Hid (w2.heap[w.heap.size]? = some (.cells #[.bool false, .slice sa ss.length sc, .int .i64 x.kind, .slice pa x.params.length pc, .slice ra x.results.length rc, .slice fa x.fields.length fc] 101 (0, 0))) := t2.other N1.out (by simp; omega) (NoT.of N1.out (by decide))
        clear t2 s2 T1 S1 N1
        go_wp2_with fail
        go_end0
        exact ⟨rfl, T2.out, by have := S2.out; simpa [List.append_assoc] using this⟩
  | true =>
    by_cases hs0 : 0 < ss.length
    · rw [if_pos (Or.inr hs0)]
      have g1 : decide (0 < ss.length) = true := by simpa using hs0
      have g2 : decide ((0 : Int) < (ss.length : Int)) = true := by simpa using hs0
      cases hy : R1 with
      | error e =>
        rw [thenW_er rfl]
        have S0 : Hid (WS b B (w.alloc (.cells #[.bool true, .slice sa ss.length sc, .int .i64 x.kind, .slice pa x.params.length pc, .slice ra x.results.length rc, .slice fa x.fields.length fc] 101)) l) := H.out.grew ((Grew.refl w).alloc _)
        have T0 : Hid (WT b B w (w.alloc (.cells #[.bool true, .slice sa ss.length sc, .int .i64 x.kind, .slice pa x.params.length pc, .slice ra x.results.length rc, .slice fa x.fields.length fc] 101))) := WT.of_grew ((Grew.refl w).alloc _)
        have N0 : Hid ((w.alloc (.cells #[.bool true, .slice sa ss.length sc, .int .i64 x.kind, .slice pa x.params.length pc, .slice ra x.results.length rc, .slice fa x.fields.length fc] 101)).heap[w.heap.size]? = some (.cells #[.bool true, .slice sa ss.length sc, .int .i64 x.kind, .slice pa x.params.length pc, .slice ra x.results.length rc, .slice fa x.fields.length fc] 101 (0, 0))) := heap_alloc_last _ _
        go_enter Tryd.func77, Tryd.ntmps77
        go_wp2_with fail
        refine (W2.erc (DD.out _ _ S0.out (T0.out.grew0 G0.out hb0 hB0) (by omega)) hy).mono ?_
        rintro en w1 ⟨⟨p, rfl⟩, t1⟩
        have T1 : Hid (WT b B w w1) := T0.out.trans t1
        clear t1
        go_wp2_with fail
        exact ⟨rfl, ⟨p, rfl⟩, T1.out⟩
      | ok m =>
        have hm := hdl m hy
        cases hz : R2 with
        | error e =>
          rw [thenW_ee rfl rfl]
          have S0 : Hid (WS b B (w.alloc (.cells #[.bool true, .slice sa ss.length sc, .int .i64 x.kind, .slice pa x.params.length pc, .slice ra x.results.length rc, .slice fa x.fields.length fc] 101)) l) := H.out.grew ((Grew.refl w).alloc _)
          have T0 : Hid (WT b B w (w.alloc (.cells #[.bool true, .slice sa ss.length sc, .int .i64 x.kind, .slice pa x.params.length pc, .slice ra x.results.length rc, .slice fa x.fields.length fc] 101))) := WT.of_grew ((Grew.refl w).alloc _)
          have N0 : Hid ((w.alloc (.cells #[.bool true, .slice sa ss.length sc, .int .i64 x.kind, .slice pa x.params.length pc, .slice ra x.results.length rc, .slice fa x.fields.length fc] 101)).heap[w.heap.size]? = some (.cells #[.bool true, .slice sa ss.length sc, .int .i64 x.kind, .slice pa x.params.length pc, .slice ra x.results.length rc, .slice fa x.fields.length fc] 101 (0, 0))) := heap_alloc_last _ _
          go_enter Tryd.func77, Tryd.ntmps77
          go_wp2_with fail
          refine (W2.okc (DD.out _ _ S0.out (T0.out.grew0 G0.out hb0 hB0) (by omega)) hy).mono ?_
          rintro en w1 ⟨rfl, t1, s1⟩
          have T1 : Hid (WT b B w w1) := T0.out.trans t1
          have S1 : Hid (WS b B w1 (l ++ m)) := s1
          have N1 : Hid (w1.heap[w.heap.size]? = some (.cells #[.bool true, .slice sa ss.length sc, .int .i64 x.kind, .slice pa x.params.length pc, .slice ra x.results.length rc, .slice fa x.fields.length fc] 101 (0, 0))) := t1.other N0.out (by simp; omega) (NoT.of N0.out (by decide))
          clear t1 s1 T0 S0 N0
          have n0_1 := cell_of N1.out 0
          have n1_1 := cell_of N1.out 1
          have n2_1 := cell_of N1.out 2
          have n3_1 := cell_of N1.out 3
          have n4_1 := cell_of N1.out 4
          have n5_1 := cell_of N1.out 5
          simp at n0_1 n1_1 n2_1 n3_1 n4_1 n5_1
          go_wp2_with fail
          refine (W2.erc (CD.out _ _ S1.out (T1.out.grew0 G0.out hb0 hB0) (by simp; omega)) hz).mono ?_
          rintro en w2 ⟨⟨p, rfl⟩, t2⟩
          have T2 : Hid (WT b B w w2) := T1.out.trans t2
          clear t2
          go_wp2_with fail
          exact ⟨rfl, ⟨p, rfl⟩, T2.out⟩
        | ok n =>
          rw [thenW_ok rfl rfl]
          have S0 : Hid (WS b B (w.alloc (.cells #[.bool true, .slice sa ss.length sc, .int .i64 x.kind, .slice pa x.params.length pc, .slice ra x.results.length rc, .slice fa x.fields.length fc] 101)) l) := H.out.grew ((Grew.refl w).alloc _)
          have T0 : Hid (WT b B w (w.alloc (.cells #[.bool true, .slice sa ss.length sc, .int .i64 x.kind, .slice pa x.params.length pc, .slice ra x.results.length rc, .slice fa x.fields.length fc] 101))) := WT.of_grew ((Grew.refl w).alloc _)
          have N0 : Hid ((w.alloc (.cells #[.bool true, .slice sa ss.length sc, .int .i64 x.kind, .slice pa x.params.length pc, .slice ra x.results.length rc, .slice fa x.fields.length fc] 101)).heap[w.heap.size]? = some (.cells #[.bool true, .slice sa ss.length sc, .int .i64 x.kind, .slice pa x.params.length pc, .slice ra x.results.length rc, .slice fa x.fields.length fc] 101 (0, 0))) := heap_alloc_last _ _
          go_enter Tryd.func77, Tryd.ntmps77
          go_wp2_with fail
          refine (W2.okc (DD.out _ _ S0.out (T0.out.grew0 G0.out hb0 hB0) (by omega)) hy).mono ?_
          rintro en w1 ⟨rfl, t1, s1⟩
          have T1 : Hid (WT b B w w1) := T0.out.trans t1
          have S1 : Hid (WS b B w1 (l ++ m)) := s1
          have N1 : Hid (w1.heap[w.heap.size]? = some (.cells #[.bool true, .slice sa ss.length sc, .int .i64 x.kind, .slice pa x.params.length pc, .slice ra x.results.length rc, .slice fa x.fields.length fc] 101 (0, 0))) := t1.other N0.out (by simp; omega) (NoT.of N0.out (by decide))
          clear t1 s1 T0 S0 N0
          have n0_1 := cell_of N1.out 0
          have n1_1 := cell_of N1.out 1
          have n2_1 := cell_of N1.out 2
          have n3_1 := cell_of N1.out 3
          have n4_1 := cell_of N1.out 4
          have n5_1 := cell_of N1.out 5
          simp at n0_1 n1_1 n2_1 n3_1 n4_1 n5_1
          go_wp2_with fail
          refine (W2.okc (CD.out _ _ S1.out (T1.out.grew0 G0.out hb0 hB0) (by simp; omega)) hz).mono ?_
          rintro en w2 ⟨rfl, t2, s2⟩
          have T2 : Hid (WT b B w w2) := T1.out.trans t2
          have S2 : Hid (WS b B w2 ((l ++ m) ++ n)) := s2
          have N2 : Hid (w2.heap[w.heap.size]? = some (.cells #[.bool true, .slice sa ss.length sc, .int .i64 x.kind, .slice pa x.params.length pc, .slice ra x.results.length rc, .slice fa x.fields.length fc] 101 (0, 0))) := t2.other N1.out (by simp; omega) (NoT.of N1.out (by decide))
          clear t2 s2 T1 S1 N1
          go_wp2_with fail
          go_end0
          exact ⟨rfl, T2.out, by have := S2.out; simpa [List.append_assoc] using this⟩
    · rw [if_neg (show ¬ (true = false ∨ 0 < ss.length) by rintro (h | h); exact absurd h (by decide); exact hs0 h)]
      have g1 : decide (0 < ss.length) = false := by simpa using hs0
      have g2 : decide ((0 : Int) < (ss.length : Int)) = false := by simpa using hs0
      cases hz : R2 with
      | error e =>
        have S0 : Hid (WS b B (w.alloc (.cells #[.bool true, .slice sa ss.length sc, .int .i64 x.kind, .slice pa x.params.length pc, .slice ra x.results.length rc, .slice fa x.fields.length fc] 101)) l) := H.out.grew ((Grew.refl w).alloc _)
        have T0 : Hid (WT b B w (w.alloc (.cells #[.bool true, .slice sa ss.length sc, .int .i64 x.kind, .slice pa x.params.length pc, .slice ra x.results.length rc, .slice fa x.fields.length fc] 101))) := WT.of_grew ((Grew.refl w).alloc _)
        have N0 : Hid ((w.alloc (.cells #[.bool true, .slice sa ss.length sc, .int .i64 x.kind, .slice pa x.params.length pc, .slice ra x.results.length rc, .slice fa x.fields.length fc] 101)).heap[w.heap.size]? = some (.cells #[.bool true, .slice sa ss.length sc, .int .i64 x.kind, .slice pa x.params.length pc, .slice ra x.results.length rc, .slice fa x.fields.length fc] 101 (0, 0))) := heap_alloc_last _ _
        go_enter Tryd.func77, Tryd.ntmps77
        go_wp2_with fail
        refine (W2.erc (CD.out _ _ S0.out (T0.out.grew0 G0.out hb0 hB0) (by omega)) hz).mono ?_
        rintro en w1 ⟨⟨p, rfl⟩, t1⟩
        have T1 : Hid (WT b B w w1) := T0.out.trans t1
        clear t1
        go_wp2_with fail
        exact ⟨rfl, ⟨p, rfl⟩, T1.out⟩
      | ok n =>
        have S0 : Hid (WS b B (w.alloc (.cells #[.bool true, .slice sa ss.length sc, .int .i64 x.kind, .slice pa x.params.length pc, .slice ra x.results.length rc, .slice fa x.fields.length fc] 101)) l) := H.out.grew ((Grew.refl w).alloc _)
        have T0 : Hid (WT b B w (w.alloc (.cells #[.bool true, .slice sa ss.length sc, .int .i64 x.kind, .slice pa x.params.length pc, .slice ra x.results.length rc, .slice fa x.fields.length fc] 101))) := WT.of_grew ((Grew.refl w).alloc _)
        have N0 : Hid ((w.alloc (.cells #[.bool true, .slice sa ss.length sc, .int .i64 x.kind, .slice pa x.params.length pc, .slice ra x.results.length rc, .slice fa x.fields.length fc] 101)).heap[w.heap.size]? = some (.cells #[.bool true, .slice sa ss.length sc, .int .i64 x.kind, .slice pa x.params.length pc, .slice ra x.results.length rc, .slice fa x.fields.length fc] 101 (0, 0))) := heap_alloc_last _ _
        go_enter Tryd.func77, Tryd.ntmps77
        go_wp2_with fail
        refine (W2.okc (CD.out _ _ S0.out (T0.out.grew0 G0.out hb0 hB0) (by omega)) hz).mono ?_
        rintro en w1 ⟨rfl, t1, s1⟩
        have T1 : Hid (WT b B w w1) := T0.out.trans t1
        have S1 : Hid (WS b B w1 (l ++ n)) := s1
        have N1 : Hid (w1.heap[w.heap.size]? = some (.cells #[.bool true, .slice sa ss.length sc, .int .i64 x.kind, .slice pa x.params.length pc, .slice ra x.results.length rc, .slice fa x.fields.length fc] 101 (0, 0))) := t1.other N0.out (by simp; omega) (NoT.of N0.out (by decide))
        clear t1 s1 T0 S0 N0
        go_wp2_with fail
        go_end0
        exact ⟨rfl, T1.out, by have := S1.out; simpa [List.append_assoc] using this⟩
end Go.Proofs.YtbhbogfdnaadeaaDoor
