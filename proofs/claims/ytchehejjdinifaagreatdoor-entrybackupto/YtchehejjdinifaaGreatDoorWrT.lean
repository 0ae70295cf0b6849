/-
  The walks of written at groups, and of PutRecType; no statement is proved here.
-/
import Derived.Test.YtchehejjdinifaaGreatDoorWr5
import Derived.Test.YtchehejjdinifaaGreatDoorPutU
namespace Go.Proofs.YtchehejjdinifaaGreatDoor
open Go.RowKit
set_option linter.unusedVariables false
set_option linter.unusedSimpArgs false
set_option linter.constructorNameAsVariable false

theorem manyW_len {α : Type} {wr : α → Except Nat (List Int)} {K : Nat} (hK : ∀ x m, wr x = .ok m → m.length ≤ K) : ∀ (xs : List α) (m : List Int), manyW wr xs = .ok m → m.length ≤ K * xs.length
  | [], m, h => by cases h; simp
  | x :: r, m, h => by
    rw [manyW] at h
    cases h1 : wr x with
    | error e => rw [h1] at h; cases h
    | ok a =>
      cases h2 : manyW wr r with
      | error e => rw [h1, h2] at h; cases h
      | ok b =>
        rw [h1, h2] at h
        cases h
        have := hK x a h1
        have := manyW_len hK r b h2
        simp [Nat.mul_add]
        omega
theorem listW_len {α : Type} {wr : α → Except Nat (List Int)} {K lim : Nat} (hK : ∀ x m, wr x = .ok m → m.length ≤ K) {xs : List α} {m : List Int} (h : listW lim wr xs = .ok m) : m.length ≤ 11 + K * lim := by
  unfold listW at h
  split at h
  · cases h
  · rename_i hl
    cases h2 : manyW wr xs with
    | error e => rw [h2] at h; cases h
    | ok b =>
      rw [h2] at h
      cases h
      have h3 := manyW_len hK xs b h2
      have h4 := PU_len (xs.length : Int)
      have h5 : K * xs.length ≤ K * lim := Nat.mul_le_mul_left K (by omega)
      simp
      omega
theorem code_6 : codeR 6 1 = .ok [96] ∧ codeR 6 2 = .ok [95] ∧ codeR 6 3 = .ok [94] := ⟨rfl, rfl, rfl⟩
theorem whole_kind {c : CT} (h : wholeC c = true) : c.kind = 1 ∨ c.kind = 2 ∨ c.kind = 3 := by
  unfold wholeC at h
  split at h
  · left; assumption
  · split at h
    · right; left; assumption
    · split at h
      · right; right; assumption
      · cases h
theorem whole_arr {c : CT} (h : wholeC c = true) (hk : c.kind = 3) : c.fields.length = 1 := by
  unfold wholeC at h
  rw [if_neg (by omega), if_neg (by omega), if_pos hk] at h
  exact (of_decide_eq_true h).2.2
set_option maxRecDepth 100000 in
set_option maxHeartbeats 1000000 in
theorem compType2 {b B : Nat} {w : World} {l : List Int} (h : WS b B w l) {w0 : World} (g0 : Grew w0 w) (hb0 : w0.heap.size ≤ b) (x : CT) (pv rv fv : Value) (hx : CompR w0 x pv rv fv) (hsm : x.params.length ≤ 1073741824 ∧ x.results.length ≤ 1073741824) (hl : l.length ≤ 16000000000000) :
    Calls Tryz.prog 39 #[.pointer (some ⟨b, 0, none⟩), .agg #[.int .i64 x.kind, pv, rv, fv]] w (W2 b B w l (compW x)) := by
  have H : Hid (WS b B w l) := h
  have hb : b < w.heap.size := h.blt
  have hB0 : w0.heap.size ≤ B := by have := h.lt; omega
  have G0 : Hid (Grew w0 w) := g0
  clear h g0
  obtain ⟨kd, ps, rs, fs⟩ := x
  obtain ⟨h1, h2, h3⟩ := hx
  simp only at h1 h2 h3 ⊢
  obtain ⟨pa, pc, rfl, hp1, hp2⟩ := h1.one
  obtain ⟨ra, rc, rfl, hr1, hr2⟩ := h2.one
  obtain ⟨fa, fc, rfl, hf1, hf2⟩ := h3.one
  have H1 : Hid (LV w0 (.slice pa ps.length pc) ps) := h1
  have H2 : Hid (LV w0 (.slice ra rs.length rc) rs) := h2
  have H3 : Hid (LF w0 (.slice fa fs.length fc) fs) := h3
  simp only at hsm
  have bp : ps.length ≤ 4611686018427387903 := by omega
  have br : rs.length ≤ 4611686018427387903 := by omega
  have IW := fun w1 : World => isWhole_any kd ps rs fs pa ra fa pc rc fc w1 bp br
  clear h1 h2 h3 hp1 hp2 hr1 hr2 hf1 hf2
  unfold compW
  have hwk := whole_kind (c := ⟨kd, ps, rs, fs⟩)
  have hwa := whole_arr (c := ⟨kd, ps, rs, fs⟩)
  simp only at hwk hwa ⊢
  cases hw : wholeC ⟨kd, ps, rs, fs⟩ with
  | false =>
    rw [if_neg (by simp)]
    rw [hw] at IW
    clear hwk hwa hw
    have S0 : Hid (WS b B (w.alloc (.cells #[.int .i64 kd, .slice pa ps.length pc, .slice ra rs.length rc, .slice fa fs.length fc] 63)) l) := H.out.grew ((Grew.refl w).alloc _)
    have T0 : Hid (WT b B w (w.alloc (.cells #[.int .i64 kd, .slice pa ps.length pc, .slice ra rs.length rc, .slice fa fs.length fc] 63))) := WT.of_grew ((Grew.refl w).alloc _)
    have N0 : Hid ((w.alloc (.cells #[.int .i64 kd, .slice pa ps.length pc, .slice ra rs.length rc, .slice fa fs.length fc] 63)).heap[w.heap.size]? = some (.cells #[.int .i64 kd, .slice pa ps.length pc, .slice ra rs.length rc, .slice fa fs.length fc] 63 (0, 0))) := heap_alloc_last _ _
    go_enter Tryz.func39, Tryz.ntmps39
    go_wp2_with fail
    refine (IW _).mono ?_
    rintro en w1 ⟨rfl, g1⟩
    have T1 : Hid (WT b B w w1) := T0.out.trans (WT.of_grew g1)
    have S1 : Hid (WS b B w1 l) := S0.out.grew g1
    have N1 : Hid (w1.heap[w.heap.size]? = some (.cells #[.int .i64 kd, .slice pa ps.length pc, .slice ra rs.length rc, .slice fa fs.length fc] 63 (0, 0))) := (g1.turn []).other N0.out (by simp)
    clear g1 T0 S0 N0
    go_wp2_with fail
    refine (need_no S1.out).mono ?_
    rintro en w9 ⟨⟨p, rfl⟩, h9⟩
    obtain rfl := h9.symm
    go_wp2_with fail
    exact ⟨rfl, ⟨p, rfl⟩, T1.out⟩
  | true =>
    rw [if_pos rfl]
    rw [hw] at IW
    have hk := hwk hw
    by_cases k1 : kd = 1
    · rw [if_pos k1]
      subst k1
      clear hwk hwa hw hk
      cases hx : listW 1000 valW ps with
      | error e =>
        rw [thenW_ee rfl (thenW_er rfl)]
        have S0 : Hid (WS b B (w.alloc (.cells #[.int .i64 1, .slice pa ps.length pc, .slice ra rs.length rc, .slice fa fs.length fc] 63)) l) := H.out.grew ((Grew.refl w).alloc _)
        have T0 : Hid (WT b B w (w.alloc (.cells #[.int .i64 1, .slice pa ps.length pc, .slice ra rs.length rc, .slice fa fs.length fc] 63))) := WT.of_grew ((Grew.refl w).alloc _)
        have N0 : Hid ((w.alloc (.cells #[.int .i64 1, .slice pa ps.length pc, .slice ra rs.length rc, .slice fa fs.length fc] 63)).heap[w.heap.size]? = some (.cells #[.int .i64 1, .slice pa ps.length pc, .slice ra rs.length rc, .slice fa fs.length fc] 63 (0, 0))) := heap_alloc_last _ _
        go_enter Tryz.func39, Tryz.ntmps39
        go_wp2_with fail
        refine (IW _).mono ?_
        rintro en w1 ⟨rfl, g1⟩
        have T1 : Hid (WT b B w w1) := T0.out.trans (WT.of_grew g1)
        have S1 : Hid (WS b B w1 l) := S0.out.grew g1
        have N1 : Hid (w1.heap[w.heap.size]? = some (.cells #[.int .i64 1, .slice pa ps.length pc, .slice ra rs.length rc, .slice fa fs.length fc] 63 (0, 0))) := (g1.turn []).other N0.out (by simp)
        clear g1 T0 S0 N0
        go_wp2_with fail
        refine (need_yes S1.out).mono ?_
        rintro en w9 ⟨rfl, h9⟩
        obtain rfl := h9.symm
        clear h9
        have n0_1 := cell_of N1.out 0
        have n1_1 := cell_of N1.out 1
        have n2_1 := cell_of N1.out 2
        have n3_1 := cell_of N1.out 3
        simp at n0_1 n1_1 n2_1 n3_1
        go_wp2_with fail
        refine (W2.okc (putCode2 S1.out 6 1 (by omega)) rfl).mono ?_
        rintro en w2 ⟨rfl, t2, s2⟩
        have T2 : Hid (WT b B w w2) := T1.out.trans t2
        have S2 : Hid (WS b B w2 (l ++ [96])) := s2
        have N2 : Hid (w2.heap[w.heap.size]? = some (.cells #[.int .i64 1, .slice pa ps.length pc, .slice ra rs.length rc, .slice fa fs.length fc] 63 (0, 0))) := t2.other N1.out (by simp; omega) (NoT.of N1.out (by decide))
        clear t2 s2 T1 S1 N1
        have n0_2 := cell_of N2.out 0
        have n1_2 := cell_of N2.out 1
        have n2_2 := cell_of N2.out 2
        have n3_2 := cell_of N2.out 3
        simp at n0_2 n1_2 n2_2 n3_2
        go_wp2_with fail
        refine (W2.erc (valTypes2 S2.out (T2.out.grew0 G0.out hb0 hB0) hb0 _ ps H1.out (by simp; omega)) hx).mono ?_
        rintro en w3 ⟨⟨p, rfl⟩, t3⟩
        have T3 : Hid (WT b B w w3) := T2.out.trans t3
        clear t3
        go_wp2_with fail
        exact ⟨rfl, ⟨p, rfl⟩, T3.out⟩
      | ok m1 =>
        have hm1 := listW_len (K := 12) (fun _ _ h => valW_len h) hx
        cases hy : listW 1000 valW rs with
        | error e =>
          rw [thenW_ee rfl (thenW_ee rfl rfl)]
          have S0 : Hid (WS b B (w.alloc (.cells #[.int .i64 1, .slice pa ps.length pc, .slice ra rs.length rc, .slice fa fs.length fc] 63)) l) := H.out.grew ((Grew.refl w).alloc _)
          have T0 : Hid (WT b B w (w.alloc (.cells #[.int .i64 1, .slice pa ps.length pc, .slice ra rs.length rc, .slice fa fs.length fc] 63))) := WT.of_grew ((Grew.refl w).alloc _)
          have N0 : Hid ((w.alloc (.cells #[.int .i64 1, .slice pa ps.length pc, .slice ra rs.length rc, .slice fa fs.length fc] 63)).heap[w.heap.size]? = some (.cells #[.int .i64 1, .slice pa ps.length pc, .slice ra rs.length rc, .slice fa fs.length fc] 63 (0, 0))) := heap_alloc_last _ _
          go_enter Tryz.func39, Tryz.ntmps39
          go_wp2_with fail
          refine (IW _).mono ?_
          rintro en w1 ⟨rfl, g1⟩
          have T1 : Hid (WT b B w w1) := T0.out.trans (WT.of_grew g1)
          have S1 : Hid (WS b B w1 l) := S0.out.grew g1
          have N1 : Hid (w1.heap[w.heap.size]? = some (.cells #[.int .i64 1, .slice pa ps.length pc, .slice ra rs.length rc, .slice fa fs.length fc] 63 (0, 0))) := (g1.turn []).other N0.out (by simp)
          clear g1 T0 S0 N0
          go_wp2_with fail
          refine (need_yes S1.out).mono ?_
          rintro en w9 ⟨rfl, h9⟩
          obtain rfl := h9.symm
          clear h9
          have n0_1 := cell_of N1.out 0
          have n1_1 := cell_of N1.out 1
          have n2_1 := cell_of N1.out 2
          have n3_1 := cell_of N1.out 3
          simp at n0_1 n1_1 n2_1 n3_1
          go_wp2_with fail
          refine (W2.okc (putCode2 S1.out 6 1 (by omega)) rfl).mono ?_
          rintro en w2 ⟨rfl, t2, s2⟩
          have T2 : Hid (WT b B w w2) := T1.out.trans t2
          have S2 : Hid (WS b B w2 (l ++ [96])) := s2
          have N2 : Hid (w2.heap[w.heap.size]? = some (.cells #[.int .i64 1, .slice pa ps.length pc, .slice ra rs.length rc, .slice fa fs.length fc] 63 (0, 0))) := t2.other N1.out (by simp; omega) (NoT.of N1.out (by decide))
          clear t2 s2 T1 S1 N1
          have n0_2 := cell_of N2.out 0
          have n1_2 := cell_of N2.out 1
          have n2_2 := cell_of N2.out 2
          have n3_2 := cell_of N2.out 3
          simp at n0_2 n1_2 n2_2 n3_2
          go_wp2_with fail
          refine (W2.okc (valTypes2 S2.out (T2.out.grew0 G0.out hb0 hB0) hb0 _ ps H1.out (by simp; omega)) hx).mono ?_
          rintro en w3 ⟨rfl, t3, s3⟩
          have T3 : Hid (WT b B w w3) := T2.out.trans t3
          have S3 : Hid (WS b B w3 ((l ++ [96]) ++ m1)) := s3
          have N3 : Hid (w3.heap[w.heap.size]? = some (.cells #[.int .i64 1, .slice pa ps.length pc, .slice ra rs.length rc, .slice fa fs.length fc] 63 (0, 0))) := t3.other N2.out (by simp; omega) (NoT.of N2.out (by decide))
          clear t3 s3 T2 S2 N2
          have n0_3 := cell_of N3.out 0
          have n1_3 := cell_of N3.out 1
          have n2_3 := cell_of N3.out 2
          have n3_3 := cell_of N3.out 3
          simp at n0_3 n1_3 n2_3 n3_3
          go_wp2_with fail
          refine (W2.erc (valTypes2 S3.out (T3.out.grew0 G0.out hb0 hB0) hb0 _ rs H2.out (by simp; omega)) hy).mono ?_
          rintro en w4 ⟨⟨p, rfl⟩, t4⟩
          have T4 : Hid (WT b B w w4) := T3.out.trans t4
          clear t4
          go_wp2_with fail
          exact ⟨rfl, ⟨p, rfl⟩, T4.out⟩
        | ok m2 =>
          rw [thenW_ok rfl (thenW_ok rfl rfl)]
          have S0 : Hid (WS b B (w.alloc (.cells #[.int .i64 1, .slice pa ps.length pc, .slice ra rs.length rc, .slice fa fs.length fc] 63)) l) := H.out.grew ((Grew.refl w).alloc _)
          have T0 : Hid (WT b B w (w.alloc (.cells #[.int .i64 1, .slice pa ps.length pc, .slice ra rs.length rc, .slice fa fs.length fc] 63))) := WT.of_grew ((Grew.refl w).alloc _)
          have N0 : Hid ((w.alloc (.cells #[.int .i64 1, .slice pa ps.length pc, .slice ra rs.length rc, .slice fa fs.length fc] 63)).heap[w.heap.size]? = some (.cells #[.int .i64 1, .slice pa ps.length pc, .slice ra rs.length rc, .slice fa fs.length fc] 63 (0, 0))) := heap_alloc_last _ _
          go_enter Tryz.func39, Tryz.ntmps39
          go_wp2_with fail
          refine (IW _).mono ?_
          rintro en w1 ⟨rfl, g1⟩
          have T1 : Hid (WT b B w w1) := T0.out.trans (WT.of_grew g1)
          have S1 : Hid (WS b B w1 l) := S0.out.grew g1
          have N1 : Hid (w1.heap[w.heap.size]? = some (.cells #[.int .i64 1, .slice pa ps.length pc, .slice ra rs.length rc, .slice fa fs.length fc] 63 (0, 0))) := (g1.turn []).other N0.out (by simp)
          clear g1 T0 S0 N0
          go_wp2_with fail
          refine (need_yes S1.out).mono ?_
          rintro en w9 ⟨rfl, h9⟩
          obtain rfl := h9.symm
          clear h9
          have n0_1 := cell_of N1.out 0
          have n1_1 := cell_of N1.out 1
          have n2_1 := cell_of N1.out 2
          have n3_1 := cell_of N1.out 3
          simp at n0_1 n1_1 n2_1 n3_1
          go_wp2_with fail
          refine (W2.okc (putCode2 S1.out 6 1 (by omega)) rfl).mono ?_
          rintro en w2 ⟨rfl, t2, s2⟩
          have T2 : Hid (WT b B w w2) := T1.out.trans t2
          have S2 : Hid (WS b B w2 (l ++ [96])) := s2
          have N2 : Hid (w2.heap[w.heap.size]? = some (.cells #[.int .i64 1, .slice pa ps.length pc, .slice ra rs.length rc, .slice fa fs.length fc] 63 (0, 0))) := t2.other N1.out (by simp; omega) (NoT.of N1.out (by decide))
          clear t2 s2 T1 S1 N1
          have n0_2 := cell_of N2.out 0
          have n1_2 := cell_of N2.out 1
          have n2_2 := cell_of N2.out 2
          have n3_2 := cell_of N2.out 3
          simp at n0_2 n1_2 n2_2 n3_2
          go_wp2_with fail
          refine (W2.okc (valTypes2 S2.out (T2.out.grew0 G0.out hb0 hB0) hb0 _ ps H1.out (by simp; omega)) hx).mono ?_
          rintro en w3 ⟨rfl, t3, s3⟩
          have T3 : Hid (WT b B w w3) := T2.out.trans t3
          have S3 : Hid (WS b B w3 ((l ++ [96]) ++ m1)) := s3
          have N3 : Hid (w3.heap[w.heap.size]? = some (.cells #[.int .i64 1, .slice pa ps.length pc, .slice ra rs.length rc, .slice fa fs.length fc] 63 (0, 0))) := t3.other N2.out (by simp; omega) (NoT.of N2.out (by decide))
          clear t3 s3 T2 S2 N2
          have n0_3 := cell_of N3.out 0
          have n1_3 := cell_of N3.out 1
          have n2_3 := cell_of N3.out 2
          have n3_3 := cell_of N3.out 3
          simp at n0_3 n1_3 n2_3 n3_3
          go_wp2_with fail
          refine (W2.okc (valTypes2 S3.out (T3.out.grew0 G0.out hb0 hB0) hb0 _ rs H2.out (by simp; omega)) hy).mono ?_
          rintro en w4 ⟨rfl, t4, s4⟩
          have T4 : Hid (WT b B w w4) := T3.out.trans t4
          have S4 : Hid (WS b B w4 (((l ++ [96]) ++ m1) ++ m2)) := s4
          have N4 : Hid (w4.heap[w.heap.size]? = some (.cells #[.int .i64 1, .slice pa ps.length pc, .slice ra rs.length rc, .slice fa fs.length fc] 63 (0, 0))) := t4.other N3.out (by simp; omega) (NoT.of N3.out (by decide))
          clear t4 s4 T3 S3 N3
          go_wp2_with fail
          go_end0
          exact ⟨rfl, T4.out, by have := S4.out; simpa [List.append_assoc] using this⟩
    · rw [if_neg k1]
      have e1 : (kd == 1) = false := by simpa using k1
      by_cases k2 : kd = 2
      · rw [if_pos k2]
        subst k2
        clear hwk hwa hw hk k1
        cases hx : listW 10000 fieldW fs with
        | error e =>
          rw [thenW_ee rfl rfl]
          have S0 : Hid (WS b B (w.alloc (.cells #[.int .i64 2, .slice pa ps.length pc, .slice ra rs.length rc, .slice fa fs.length fc] 63)) l) := H.out.grew ((Grew.refl w).alloc _)
          have T0 : Hid (WT b B w (w.alloc (.cells #[.int .i64 2, .slice pa ps.length pc, .slice ra rs.length rc, .slice fa fs.length fc] 63))) := WT.of_grew ((Grew.refl w).alloc _)
          have N0 : Hid ((w.alloc (.cells #[.int .i64 2, .slice pa ps.length pc, .slice ra rs.length rc, .slice fa fs.length fc] 63)).heap[w.heap.size]? = some (.cells #[.int .i64 2, .slice pa ps.length pc, .slice ra rs.length rc, .slice fa fs.length fc] 63 (0, 0))) := heap_alloc_last _ _
          go_enter Tryz.func39, Tryz.ntmps39
          go_wp2_with fail
          refine (IW _).mono ?_
          rintro en w1 ⟨rfl, g1⟩
          have T1 : Hid (WT b B w w1) := T0.out.trans (WT.of_grew g1)
          have S1 : Hid (WS b B w1 l) := S0.out.grew g1
          have N1 : Hid (w1.heap[w.heap.size]? = some (.cells #[.int .i64 2, .slice pa ps.length pc, .slice ra rs.length rc, .slice fa fs.length fc] 63 (0, 0))) := (g1.turn []).other N0.out (by simp)
          clear g1 T0 S0 N0
          go_wp2_with fail
          refine (need_yes S1.out).mono ?_
          rintro en w9 ⟨rfl, h9⟩
          obtain rfl := h9.symm
          clear h9
          have n0_1 := cell_of N1.out 0
          have n1_1 := cell_of N1.out 1
          have n2_1 := cell_of N1.out 2
          have n3_1 := cell_of N1.out 3
          simp at n0_1 n1_1 n2_1 n3_1
          go_wp2_with fail
          refine (W2.okc (putCode2 S1.out 6 2 (by omega)) rfl).mono ?_
          rintro en w2 ⟨rfl, t2, s2⟩
          have T2 : Hid (WT b B w w2) := T1.out.trans t2
          have S2 : Hid (WS b B w2 (l ++ [95])) := s2
          have N2 : Hid (w2.heap[w.heap.size]? = some (.cells #[.int .i64 2, .slice pa ps.length pc, .slice ra rs.length rc, .slice fa fs.length fc] 63 (0, 0))) := t2.other N1.out (by simp; omega) (NoT.of N1.out (by decide))
          clear t2 s2 T1 S1 N1
          have n0_2 := cell_of N2.out 0
          have n1_2 := cell_of N2.out 1
          have n2_2 := cell_of N2.out 2
          have n3_2 := cell_of N2.out 3
          simp at n0_2 n1_2 n2_2 n3_2
          go_wp2_with fail
          refine (W2.erc (putListF2 S2.out (T2.out.grew0 G0.out hb0 hB0) hb0 _ fs H3.out 10000 (by decide) (by simp; omega)) hx).mono ?_
          rintro en w3 ⟨⟨p, rfl⟩, t3⟩
          have T3 : Hid (WT b B w w3) := T2.out.trans t3
          clear t3
          go_wp2_with fail
          exact ⟨rfl, ⟨p, rfl⟩, T3.out⟩
        | ok m =>
          rw [thenW_ok rfl rfl]
          have S0 : Hid (WS b B (w.alloc (.cells #[.int .i64 2, .slice pa ps.length pc, .slice ra rs.length rc, .slice fa fs.length fc] 63)) l) := H.out.grew ((Grew.refl w).alloc _)
          have T0 : Hid (WT b B w (w.alloc (.cells #[.int .i64 2, .slice pa ps.length pc, .slice ra rs.length rc, .slice fa fs.length fc] 63))) := WT.of_grew ((Grew.refl w).alloc _)
          have N0 : Hid ((w.alloc (.cells #[.int .i64 2, .slice pa ps.length pc, .slice ra rs.length rc, .slice fa fs.length fc] 63)).heap[w.heap.size]? = some (.cells #[.int .i64 2, .slice pa ps.length pc, .slice ra rs.length rc, .slice fa fs.length fc] 63 (0, 0))) := heap_alloc_last _ _
          go_enter Tryz.func39, Tryz.ntmps39
          go_wp2_with fail
          refine (IW _).mono ?_
          rintro en w1 ⟨rfl, g1⟩
          have T1 : Hid (WT b B w w1) := T0.out.trans (WT.of_grew g1)
          have S1 : Hid (WS b B w1 l) := S0.out.grew g1
          have N1 : Hid (w1.heap[w.heap.size]? = some (.cells #[.int .i64 2, .slice pa ps.length pc, .slice ra rs.length rc, .slice fa fs.length fc] 63 (0, 0))) := (g1.turn []).other N0.out (by simp)
          clear g1 T0 S0 N0
          go_wp2_with fail
          refine (need_yes S1.out).mono ?_
          rintro en w9 ⟨rfl, h9⟩
          obtain rfl := h9.symm
          clear h9
          have n0_1 := cell_of N1.out 0
          have n1_1 := cell_of N1.out 1
          have n2_1 := cell_of N1.out 2
          have n3_1 := cell_of N1.out 3
          simp at n0_1 n1_1 n2_1 n3_1
          go_wp2_with fail
          refine (W2.okc (putCode2 S1.out 6 2 (by omega)) rfl).mono ?_
          rintro en w2 ⟨rfl, t2, s2⟩
          have T2 : Hid (WT b B w w2) := T1.out.trans t2
          have S2 : Hid (WS b B w2 (l ++ [95])) := s2
          have N2 : Hid (w2.heap[w.heap.size]? = some (.cells #[.int .i64 2, .slice pa ps.length pc, .slice ra rs.length rc, .slice fa fs.length fc] 63 (0, 0))) := t2.other N1.out (by simp; omega) (NoT.of N1.out (by decide))
          clear t2 s2 T1 S1 N1
          have n0_2 := cell_of N2.out 0
          have n1_2 := cell_of N2.out 1
          have n2_2 := cell_of N2.out 2
          have n3_2 := cell_of N2.out 3
          simp at n0_2 n1_2 n2_2 n3_2
          go_wp2_with fail
          refine (W2.okc (putListF2 S2.out (T2.out.grew0 G0.out hb0 hB0) hb0 _ fs H3.out 10000 (by decide) (by simp; omega)) hx).mono ?_
          rintro en w3 ⟨rfl, t3, s3⟩
          have T3 : Hid (WT b B w w3) := T2.out.trans t3
          have S3 : Hid (WS b B w3 ((l ++ [95]) ++ m)) := s3
          have N3 : Hid (w3.heap[w.heap.size]? = some (.cells #[.int .i64 2, .slice pa ps.length pc, .slice ra rs.length rc, .slice fa fs.length fc] 63 (0, 0))) := t3.other N2.out (by simp; omega) (NoT.of N2.out (by decide))
          clear t3 s3 T2 S2 N2
          go_wp2_with fail
          go_end0
          exact ⟨rfl, T3.out, by have := S3.out; simpa [List.append_assoc] using this⟩
      · rw [if_neg k2]
        have e2 : (kd == 2) = false := by simpa using k2
        have k3 : kd = 3 := by omega
        have hf1 := hwa hw k3
        subst k3
        clear hwk hwa hw hk k1 k2
        obtain ⟨x0, hx0⟩ : ∃ x0, fs = [x0] := by
          cases fs with
          | nil => simp at hf1
          | cons a r =>
            cases r with
            | nil => exact ⟨a, rfl⟩
            | cons _ _ => simp at hf1
        have L1 : Hid (fs.length = 1) := hf1
        have EH : fs.headD ⟨⟨0, false, 0⟩, false⟩ = x0 := by rw [hx0]; rfl
        have E0 : fs[0]? = some x0 := by rw [hx0]; rfl
        rw [EH]
        obtain ⟨bb, off, ea, hcp, hcel⟩ := H3.out.get (by omega)
        subst ea
        have hc0 : EF w0 bb off x0 := by have := hcel 0 x0 E0; simpa using this
        have HC : Hid (EF w0 bb off x0) := hc0
        clear hc0
        have hpos : 0 < fs.length := by omega
        have hfn : ¬ fs = [] := fun h => by rw [h] at hpos; simp at hpos
        have hdi : decide (0 < fs.length) = true := decide_eq_true hpos
        have hdi2 : decide ((0 : Int) < (fs.length : Int)) = true := decide_eq_true (by omega)
        clear hx0 EH E0 hcel hf1
        obtain ⟨⟨vn, vb, vh⟩, mu⟩ := x0
        have FD : Hid (∀ w1 (l1 : List Int), WS b B w1 l1 → l1.length ≤ 17592186043000 → Calls Tryz.prog 71 #[.pointer (some ⟨b, 0, none⟩), .agg #[.int .i64 vn, .bool vb, .int .i64 vh, .bool mu]] w1 (W2 b B w1 l1 (fieldW ⟨⟨vn, vb, vh⟩, mu⟩))) := fun w1 l1 u h => field2 u ⟨⟨vn, vb, vh⟩, mu⟩ h
        cases hx : fieldW ⟨⟨vn, vb, vh⟩, mu⟩ with
        | error e =>
          rw [thenW_ee rfl rfl]
          have S0 : Hid (WS b B (w.alloc (.cells #[.int .i64 3, .slice pa ps.length pc, .slice ra rs.length rc, .slice (some ⟨bb, off, none⟩) fs.length fc] 63)) l) := H.out.grew ((Grew.refl w).alloc _)
          have T0 : Hid (WT b B w (w.alloc (.cells #[.int .i64 3, .slice pa ps.length pc, .slice ra rs.length rc, .slice (some ⟨bb, off, none⟩) fs.length fc] 63))) := WT.of_grew ((Grew.refl w).alloc _)
          have N0 : Hid ((w.alloc (.cells #[.int .i64 3, .slice pa ps.length pc, .slice ra rs.length rc, .slice (some ⟨bb, off, none⟩) fs.length fc] 63)).heap[w.heap.size]? = some (.cells #[.int .i64 3, .slice pa ps.length pc, .slice ra rs.length rc, .slice (some ⟨bb, off, none⟩) fs.length fc] 63 (0, 0))) := heap_alloc_last _ _
          go_enter Tryz.func39, Tryz.ntmps39
          go_wp2_with fail
          refine (IW _).mono ?_
          rintro en w1 ⟨rfl, g1⟩
          have T1 : Hid (WT b B w w1) := T0.out.trans (WT.of_grew g1)
          have S1 : Hid (WS b B w1 l) := S0.out.grew g1
          have N1 : Hid (w1.heap[w.heap.size]? = some (.cells #[.int .i64 3, .slice pa ps.length pc, .slice ra rs.length rc, .slice (some ⟨bb, off, none⟩) fs.length fc] 63 (0, 0))) := (g1.turn []).other N0.out (by simp)
          clear g1 T0 S0 N0
          go_wp2_with fail
          refine (need_yes S1.out).mono ?_
          rintro en w9 ⟨rfl, h9⟩
          obtain rfl := h9.symm
          clear h9
          have n0_1 := cell_of N1.out 0
          have n1_1 := cell_of N1.out 1
          have n2_1 := cell_of N1.out 2
          have n3_1 := cell_of N1.out 3
          simp at n0_1 n1_1 n2_1 n3_1
          go_wp2_with fail
          refine (W2.okc (putCode2 S1.out 6 3 (by omega)) rfl).mono ?_
          rintro en w2 ⟨rfl, t2, s2⟩
          have T2 : Hid (WT b B w w2) := T1.out.trans t2
          have S2 : Hid (WS b B w2 (l ++ [94])) := s2
          have N2 : Hid (w2.heap[w.heap.size]? = some (.cells #[.int .i64 3, .slice pa ps.length pc, .slice ra rs.length rc, .slice (some ⟨bb, off, none⟩) fs.length fc] 63 (0, 0))) := t2.other N1.out (by simp; omega) (NoT.of N1.out (by decide))
          clear t2 s2 T1 S1 N1
          have n0_2 := cell_of N2.out 0
          have n1_2 := cell_of N2.out 1
          have n2_2 := cell_of N2.out 2
          have n3_2 := cell_of N2.out 3
          simp at n0_2 n1_2 n2_2 n3_2
          obtain ⟨⟨f0, f1, f2⟩, f3⟩ := HC.out.grew (T2.out.grew0 G0.out hb0 hB0)
          simp only at f0 f1 f2 f3
          go_wp2_with fail
          refine (W2.erc (FD.out _ _ S2.out (by simp; omega)) hx).mono ?_
          rintro en w3 ⟨⟨p, rfl⟩, t3⟩
          have T3 : Hid (WT b B w w3) := T2.out.trans t3
          clear t3
          go_wp2_with fail
          exact ⟨rfl, ⟨p, rfl⟩, T3.out⟩
        | ok m =>
          rw [thenW_ok rfl rfl]
          have S0 : Hid (WS b B (w.alloc (.cells #[.int .i64 3, .slice pa ps.length pc, .slice ra rs.length rc, .slice (some ⟨bb, off, none⟩) fs.length fc] 63)) l) := H.out.grew ((Grew.refl w).alloc _)
          have T0 : Hid (WT b B w (w.alloc (.cells #[.int .i64 3, .slice pa ps.length pc, .slice ra rs.length rc, .slice (some ⟨bb, off, none⟩) fs.length fc] 63))) := WT.of_grew ((Grew.refl w).alloc _)
          have N0 : Hid ((w.alloc (.cells #[.int .i64 3, .slice pa ps.length pc, .slice ra rs.length rc, .slice (some ⟨bb, off, none⟩) fs.length fc] 63)).heap[w.heap.size]? = some (.cells #[.int .i64 3, .slice pa ps.length pc, .slice ra rs.length rc, .slice (some ⟨bb, off, none⟩) fs.length fc] 63 (0, 0))) := heap_alloc_last _ _
          go_enter Tryz.func39, Tryz.ntmps39
          go_wp2_with fail
          refine (IW _).mono ?_
          rintro en w1 ⟨rfl, g1⟩
          have T1 : Hid (WT b B w w1) := T0.out.trans (WT.of_grew g1)
          have S1 : Hid (WS b B w1 l) := S0.out.grew g1
          have N1 : Hid (w1.heap[w.heap.size]? = some (.cells #[.int .i64 3, .slice pa ps.length pc, .slice ra rs.length rc, .slice (some ⟨bb, off, none⟩) fs.length fc] 63 (0, 0))) := (g1.turn []).other N0.out (by simp)
          clear g1 T0 S0 N0
          go_wp2_with fail
          refine (need_yes S1.out).mono ?_
          rintro en w9 ⟨rfl, h9⟩
          obtain rfl := h9.symm
          clear h9
          have n0_1 := cell_of N1.out 0
          have n1_1 := cell_of N1.out 1
          have n2_1 := cell_of N1.out 2
          have n3_1 := cell_of N1.out 3
          simp at n0_1 n1_1 n2_1 n3_1
          go_wp2_with fail
          refine (W2.okc (putCode2 S1.out 6 3 (by omega)) rfl).mono ?_
          rintro en w2 ⟨rfl, t2, s2⟩
          have T2 : Hid (WT b B w w2) := T1.out.trans t2
          have S2 : Hid (WS b B w2 (l ++ [94])) := s2
          have N2 : Hid (w2.heap[w.heap.size]? = some (.cells #[.int .i64 3, .slice pa ps.length pc, .slice ra rs.length rc, .slice (some ⟨bb, off, none⟩) fs.length fc] 63 (0, 0))) := t2.other N1.out (by simp; omega) (NoT.of N1.out (by decide))
          clear t2 s2 T1 S1 N1
          have n0_2 := cell_of N2.out 0
          have n1_2 := cell_of N2.out 1
          have n2_2 := cell_of N2.out 2
          have n3_2 := cell_of N2.out 3
          simp at n0_2 n1_2 n2_2 n3_2
          obtain ⟨⟨f0, f1, f2⟩, f3⟩ := HC.out.grew (T2.out.grew0 G0.out hb0 hB0)
          simp only at f0 f1 f2 f3
          go_wp2_with fail
          refine (W2.okc (FD.out _ _ S2.out (by simp; omega)) hx).mono ?_
          rintro en w3 ⟨rfl, t3, s3⟩
          have T3 : Hid (WT b B w w3) := T2.out.trans t3
          have S3 : Hid (WS b B w3 ((l ++ [94]) ++ m)) := s3
          have N3 : Hid (w3.heap[w.heap.size]? = some (.cells #[.int .i64 3, .slice pa ps.length pc, .slice ra rs.length rc, .slice (some ⟨bb, off, none⟩) fs.length fc] 63 (0, 0))) := t3.other N2.out (by simp; omega) (NoT.of N2.out (by decide))
          clear t3 s3 T2 S2 N2
          go_wp2_with fail
          go_end0
          exact ⟨rfl, T3.out, by have := S3.out; simpa [List.append_assoc] using this⟩
end Go.Proofs.YtchehejjdinifaaGreatDoor

namespace Go.Proofs.YtchehejjdinifaaGreatDoor
open Go.RowKit
set_option linter.unusedVariables false
set_option linter.unusedSimpArgs false
set_option linter.constructorNameAsVariable false

set_option maxRecDepth 100000 in
set_option maxHeartbeats 1000000 in
theorem declared2 {b B : Nat} {w : World} {l : List Int} (h : WS b B w l) {w0 : World} (g0 : Grew w0 w) (hb0 : w0.heap.size ≤ b) (fin : Bool) (sv : Value) (ss : List Int) (hs : LI w0 sv ss) (x : CT) (pv rv fv : Value) (hx : CompR w0 x pv rv fv) (hl : l.length ≤ 15000000000000) :
    Calls Tryz.prog 38 #[.pointer (some ⟨b, 0, none⟩), .agg #[.bool fin, sv, .int .i64 x.kind, pv, rv, fv]] w (W2 b B w l (declW ⟨fin, ss, x⟩)) := by
  have H : Hid (WS b B w l) := h
  have hb : b < w.heap.size := h.blt
  have hB0 : w0.heap.size ≤ B := by have := h.lt; omega
  have G0 : Hid (Grew w0 w) := g0
  clear h g0
  obtain ⟨sa, sc, rfl, _, _⟩ := hs.one
  have HS : Hid (LI w0 (.slice sa ss.length sc) ss) := hs
  have HX : Hid (CompR w0 x pv rv fv) := hx
  obtain ⟨pa, pc, ep, _, _⟩ := hx.1.one
  obtain ⟨ra, rc, er, _, _⟩ := hx.2.1.one
  obtain ⟨fa, fc, ef, _, _⟩ := hx.2.2.one
  subst ep
  subst er
  subst ef
  clear hs hx
  unfold declW
  simp only
  cases fin with
  | true =>
    cases hy : listW 1000 uidxW ss with
    | error e =>
      rw [thenW_ee rfl rfl]
      have S0 : Hid (WS b B (w.alloc (.cells #[.bool true, .slice sa ss.length sc, .int .i64 x.kind, .slice pa x.params.length pc, .slice ra x.results.length rc, .slice fa x.fields.length fc] 65)) l) := H.out.grew ((Grew.refl w).alloc _)
      have T0 : Hid (WT b B w (w.alloc (.cells #[.bool true, .slice sa ss.length sc, .int .i64 x.kind, .slice pa x.params.length pc, .slice ra x.results.length rc, .slice fa x.fields.length fc] 65))) := WT.of_grew ((Grew.refl w).alloc _)
      have N0 : Hid ((w.alloc (.cells #[.bool true, .slice sa ss.length sc, .int .i64 x.kind, .slice pa x.params.length pc, .slice ra x.results.length rc, .slice fa x.fields.length fc] 65)).heap[w.heap.size]? = some (.cells #[.bool true, .slice sa ss.length sc, .int .i64 x.kind, .slice pa x.params.length pc, .slice ra x.results.length rc, .slice fa x.fields.length fc] 65 (0, 0))) := heap_alloc_last _ _
      go_enter Tryz.func38, Tryz.ntmps38
      go_wp2_with fail
      have RN := reads_new (w.alloc (.cells #[.bool true, .slice sa ss.length sc, .int .i64 x.kind, .slice pa x.params.length pc, .slice ra x.results.length rc, .slice fa x.fields.length fc] 65)) 79 5
      rw [alloc_size] at RN
      refine (W2.okc (put2 (r := [79]) (S0.out.grew ((Grew.refl _).alloc _)) RN (by simp; omega)) rfl).mono ?_
      rintro en w1 ⟨rfl, t1, s1⟩
      have T1 : Hid (WT b B w w1) := (T0.out.trans (WT.of_grew ((Grew.refl _).alloc _))).trans t1
      have S1 : Hid (WS b B w1 (l ++ [79])) := s1
      have N1 : Hid (w1.heap[w.heap.size]? = some (.cells #[.bool true, .slice sa ss.length sc, .int .i64 x.kind, .slice pa x.params.length pc, .slice ra x.results.length rc, .slice fa x.fields.length fc] 65 (0, 0))) := t1.other (heap_alloc N0.out _) (by simp; omega) (NoT.of (heap_alloc N0.out _) (by decide))
      clear t1 s1 T0 S0 N0 RN
      have n0_1 := cell_of N1.out 0
      have n1_1 := cell_of N1.out 1
      have n2_1 := cell_of N1.out 2
      have n3_1 := cell_of N1.out 3
      have n4_1 := cell_of N1.out 4
      have n5_1 := cell_of N1.out 5
      simp at n0_1 n1_1 n2_1 n3_1 n4_1 n5_1
      go_wp2_with fail
      refine (W2.erc (putListI2 S1.out (T1.out.grew0 G0.out hb0 hB0) hb0 _ ss HS.out 1000 (by decide) (by simp; omega)) hy).mono ?_
      rintro en w2 ⟨⟨p, rfl⟩, t2⟩
      have T2 : Hid (WT b B w w2) := T1.out.trans t2
      clear t2
      go_wp2_with fail
      exact ⟨rfl, ⟨p, rfl⟩, T2.out⟩
    | ok m =>
      rw [thenW_ok rfl rfl]
      have S0 : Hid (WS b B (w.alloc (.cells #[.bool true, .slice sa ss.length sc, .int .i64 x.kind, .slice pa x.params.length pc, .slice ra x.results.length rc, .slice fa x.fields.length fc] 65)) l) := H.out.grew ((Grew.refl w).alloc _)
      have T0 : Hid (WT b B w (w.alloc (.cells #[.bool true, .slice sa ss.length sc, .int .i64 x.kind, .slice pa x.params.length pc, .slice ra x.results.length rc, .slice fa x.fields.length fc] 65))) := WT.of_grew ((Grew.refl w).alloc _)
      have N0 : Hid ((w.alloc (.cells #[.bool true, .slice sa ss.length sc, .int .i64 x.kind, .slice pa x.params.length pc, .slice ra x.results.length rc, .slice fa x.fields.length fc] 65)).heap[w.heap.size]? = some (.cells #[.bool true, .slice sa ss.length sc, .int .i64 x.kind, .slice pa x.params.length pc, .slice ra x.results.length rc, .slice fa x.fields.length fc] 65 (0, 0))) := heap_alloc_last _ _
      go_enter Tryz.func38, Tryz.ntmps38
      go_wp2_with fail
      have RN := reads_new (w.alloc (.cells #[.bool true, .slice sa ss.length sc, .int .i64 x.kind, .slice pa x.params.length pc, .slice ra x.results.length rc, .slice fa x.fields.length fc] 65)) 79 5
      rw [alloc_size] at RN
      refine (W2.okc (put2 (r := [79]) (S0.out.grew ((Grew.refl _).alloc _)) RN (by simp; omega)) rfl).mono ?_
      rintro en w1 ⟨rfl, t1, s1⟩
      have T1 : Hid (WT b B w w1) := (T0.out.trans (WT.of_grew ((Grew.refl _).alloc _))).trans t1
      have S1 : Hid (WS b B w1 (l ++ [79])) := s1
      have N1 : Hid (w1.heap[w.heap.size]? = some (.cells #[.bool true, .slice sa ss.length sc, .int .i64 x.kind, .slice pa x.params.length pc, .slice ra x.results.length rc, .slice fa x.fields.length fc] 65 (0, 0))) := t1.other (heap_alloc N0.out _) (by simp; omega) (NoT.of (heap_alloc N0.out _) (by decide))
      clear t1 s1 T0 S0 N0 RN
      have n0_1 := cell_of N1.out 0
      have n1_1 := cell_of N1.out 1
      have n2_1 := cell_of N1.out 2
      have n3_1 := cell_of N1.out 3
      have n4_1 := cell_of N1.out 4
      have n5_1 := cell_of N1.out 5
      simp at n0_1 n1_1 n2_1 n3_1 n4_1 n5_1
      go_wp2_with fail
      refine (W2.okc (putListI2 S1.out (T1.out.grew0 G0.out hb0 hB0) hb0 _ ss HS.out 1000 (by decide) (by simp; omega)) hy).mono ?_
      rintro en w2 ⟨rfl, t2, s2⟩
      have T2 : Hid (WT b B w w2) := T1.out.trans t2
      have S2 : Hid (WS b B w2 ((l ++ [79]) ++ m)) := s2
      have N2 : Hid (w2.heap[w.heap.size]? = some (.cells #[.bool true, .slice sa ss.length sc, .int .i64 x.kind, .slice pa x.params.length pc, .slice ra x.results.length rc, .slice fa x.fields.length fc] 65 (0, 0))) := t2.other N1.out (by simp; omega) (NoT.of N1.out (by decide))
      clear t2 s2 T1 S1 N1
      go_wp2_with fail
      go_end0
      exact ⟨rfl, T2.out, by have := S2.out; simpa [List.append_assoc] using this⟩
  | false =>
    cases hy : listW 1000 uidxW ss with
    | error e =>
      rw [thenW_ee rfl rfl]
      have S0 : Hid (WS b B (w.alloc (.cells #[.bool false, .slice sa ss.length sc, .int .i64 x.kind, .slice pa x.params.length pc, .slice ra x.results.length rc, .slice fa x.fields.length fc] 65)) l) := H.out.grew ((Grew.refl w).alloc _)
      have T0 : Hid (WT b B w (w.alloc (.cells #[.bool false, .slice sa ss.length sc, .int .i64 x.kind, .slice pa x.params.length pc, .slice ra x.results.length rc, .slice fa x.fields.length fc] 65))) := WT.of_grew ((Grew.refl w).alloc _)
      have N0 : Hid ((w.alloc (.cells #[.bool false, .slice sa ss.length sc, .int .i64 x.kind, .slice pa x.params.length pc, .slice ra x.results.length rc, .slice fa x.fields.length fc] 65)).heap[w.heap.size]? = some (.cells #[.bool false, .slice sa ss.length sc, .int .i64 x.kind, .slice pa x.params.length pc, .slice ra x.results.length rc, .slice fa x.fields.length fc] 65 (0, 0))) := heap_alloc_last _ _
      go_enter Tryz.func38, Tryz.ntmps38
      go_wp2_with fail
      have RN := reads_new (w.alloc (.cells #[.bool false, .slice sa ss.length sc, .int .i64 x.kind, .slice pa x.params.length pc, .slice ra x.results.length rc, .slice fa x.fields.length fc] 65)) 80 5
      rw [alloc_size] at RN
      refine (W2.okc (put2 (r := [80]) (S0.out.grew ((Grew.refl _).alloc _)) RN (by simp; omega)) rfl).mono ?_
      rintro en w1 ⟨rfl, t1, s1⟩
      have T1 : Hid (WT b B w w1) := (T0.out.trans (WT.of_grew ((Grew.refl _).alloc _))).trans t1
      have S1 : Hid (WS b B w1 (l ++ [80])) := s1
      have N1 : Hid (w1.heap[w.heap.size]? = some (.cells #[.bool false, .slice sa ss.length sc, .int .i64 x.kind, .slice pa x.params.length pc, .slice ra x.results.length rc, .slice fa x.fields.length fc] 65 (0, 0))) := t1.other (heap_alloc N0.out _) (by simp; omega) (NoT.of (heap_alloc N0.out _) (by decide))
      clear t1 s1 T0 S0 N0 RN
      have n0_1 := cell_of N1.out 0
      have n1_1 := cell_of N1.out 1
      have n2_1 := cell_of N1.out 2
      have n3_1 := cell_of N1.out 3
      have n4_1 := cell_of N1.out 4
      have n5_1 := cell_of N1.out 5
      simp at n0_1 n1_1 n2_1 n3_1 n4_1 n5_1
      go_wp2_with fail
      refine (W2.erc (putListI2 S1.out (T1.out.grew0 G0.out hb0 hB0) hb0 _ ss HS.out 1000 (by decide) (by simp; omega)) hy).mono ?_
      rintro en w2 ⟨⟨p, rfl⟩, t2⟩
      have T2 : Hid (WT b B w w2) := T1.out.trans t2
      clear t2
      go_wp2_with fail
      exact ⟨rfl, ⟨p, rfl⟩, T2.out⟩
    | ok m =>
      rw [thenW_ok rfl rfl]
      have S0 : Hid (WS b B (w.alloc (.cells #[.bool false, .slice sa ss.length sc, .int .i64 x.kind, .slice pa x.params.length pc, .slice ra x.results.length rc, .slice fa x.fields.length fc] 65)) l) := H.out.grew ((Grew.refl w).alloc _)
      have T0 : Hid (WT b B w (w.alloc (.cells #[.bool false, .slice sa ss.length sc, .int .i64 x.kind, .slice pa x.params.length pc, .slice ra x.results.length rc, .slice fa x.fields.length fc] 65))) := WT.of_grew ((Grew.refl w).alloc _)
      have N0 : Hid ((w.alloc (.cells #[.bool false, .slice sa ss.length sc, .int .i64 x.kind, .slice pa x.params.length pc, .slice ra x.results.length rc, .slice fa x.fields.length fc] 65)).heap[w.heap.size]? = some (.cells #[.bool false, .slice sa ss.length sc, .int .i64 x.kind, .slice pa x.params.length pc, .slice ra x.results.length rc, .slice fa x.fields.length fc] 65 (0, 0))) := heap_alloc_last _ _
      go_enter Tryz.func38, Tryz.ntmps38
      go_wp2_with fail
      have RN := reads_new (w.alloc (.cells #[.bool false, .slice sa ss.length sc, .int .i64 x.kind, .slice pa x.params.length pc, .slice ra x.results.length rc, .slice fa x.fields.length fc] 65)) 80 5
      rw [alloc_size] at RN
      refine (W2.okc (put2 (r := [80]) (S0.out.grew ((Grew.refl _).alloc _)) RN (by simp; omega)) rfl).mono ?_
      rintro en w1 ⟨rfl, t1, s1⟩
      have T1 : Hid (WT b B w w1) := (T0.out.trans (WT.of_grew ((Grew.refl _).alloc _))).trans t1
      have S1 : Hid (WS b B w1 (l ++ [80])) := s1
      have N1 : Hid (w1.heap[w.heap.size]? = some (.cells #[.bool false, .slice sa ss.length sc, .int .i64 x.kind, .slice pa x.params.length pc, .slice ra x.results.length rc, .slice fa x.fields.length fc] 65 (0, 0))) := t1.other (heap_alloc N0.out _) (by simp; omega) (NoT.of (heap_alloc N0.out _) (by decide))
      clear t1 s1 T0 S0 N0 RN
      have n0_1 := cell_of N1.out 0
      have n1_1 := cell_of N1.out 1
      have n2_1 := cell_of N1.out 2
      have n3_1 := cell_of N1.out 3
      have n4_1 := cell_of N1.out 4
      have n5_1 := cell_of N1.out 5
      simp at n0_1 n1_1 n2_1 n3_1 n4_1 n5_1
      go_wp2_with fail
      refine (W2.okc (putListI2 S1.out (T1.out.grew0 G0.out hb0 hB0) hb0 _ ss HS.out 1000 (by decide) (by simp; omega)) hy).mono ?_
      rintro en w2 ⟨rfl, t2, s2⟩
      have T2 : Hid (WT b B w w2) := T1.out.trans t2
      have S2 : Hid (WS b B w2 ((l ++ [80]) ++ m)) := s2
      have N2 : Hid (w2.heap[w.heap.size]? = some (.cells #[.bool false, .slice sa ss.length sc, .int .i64 x.kind, .slice pa x.params.length pc, .slice ra x.results.length rc, .slice fa x.fields.length fc] 65 (0, 0))) := t2.other N1.out (by simp; omega) (NoT.of N1.out (by decide))
      clear t2 s2 T1 S1 N1
      go_wp2_with fail
      go_end0
      exact ⟨rfl, T2.out, by have := S2.out; simpa [List.append_assoc] using this⟩
theorem declW_len {x : SB} {m : List Int} (h : declW x = .ok m) : m.length ≤ 12000 := by
  unfold declW at h
  cases hy : listW 1000 uidxW x.supers with
  | error e => rw [hy] at h; cases h
  | ok k =>
    have := listW_len (K := 11) (fun _ _ h => uidxW_len h) hy
    rw [hy] at h
    cases h
    simp
    omega
set_option maxRecDepth 100000 in
set_option maxHeartbeats 1000000 in
theorem subType2 {b B : Nat} {w : World} {l : List Int} (h : WS b B w l) {w0 : World} (g0 : Grew w0 w) (hb0 : w0.heap.size ≤ b) (fin : Bool) (sv : Value) (ss : List Int) (hs : LI w0 sv ss) (x : CT) (pv rv fv : Value) (hx : CompR w0 x pv rv fv) (hsm : x.params.length ≤ 1073741824 ∧ x.results.length ≤ 1073741824) (hl : l.length ≤ 14000000000000) :
    Calls Tryz.prog 21 #[.pointer (some ⟨b, 0, none⟩), .agg #[.bool fin, sv, .int .i64 x.kind, pv, rv, fv]] w (W2 b B w l (subW ⟨fin, ss, x⟩)) := by
  have H : Hid (WS b B w l) := h
  have hb : b < w.heap.size := h.blt
  have hB0 : w0.heap.size ≤ B := by have := h.lt; omega
  have G0 : Hid (Grew w0 w) := g0
  clear h g0
  have DD : Hid (∀ w1 (l1 : List Int), WS b B w1 l1 → Grew w0 w1 → l1.length ≤ 15000000000000 → Calls Tryz.prog 38 #[.pointer (some ⟨b, 0, none⟩), .agg #[.bool fin, sv, .int .i64 x.kind, pv, rv, fv]] w1 (W2 b B w1 l1 (declW ⟨fin, ss, x⟩))) := fun w1 l1 u g h => declared2 u g hb0 fin sv ss hs x pv rv fv hx h
  have CD : Hid (∀ w1 (l1 : List Int), WS b B w1 l1 → Grew w0 w1 → l1.length ≤ 16000000000000 → Calls Tryz.prog 39 #[.pointer (some ⟨b, 0, none⟩), .agg #[.int .i64 x.kind, pv, rv, fv]] w1 (W2 b B w1 l1 (compW x))) := fun w1 l1 u g h => compType2 u g hb0 x pv rv fv hx hsm h
  obtain ⟨sa, sc, rfl, _, _⟩ := hs.one
  obtain ⟨pa, pc, ep, _, _⟩ := hx.1.one
  obtain ⟨ra, rc, er, _, _⟩ := hx.2.1.one
  obtain ⟨fa, fc, ef, _, _⟩ := hx.2.2.one
  subst ep
  subst er
  subst ef
  clear hs hx
  unfold subW
  simp only
  have hdl := fun m => declW_len (x := ⟨fin, ss, x⟩) (m := m)
  generalize declW ⟨fin, ss, x⟩ = R1 at *
  generalize compW x = R2 at *
  cases fin with
  | false =>
    rw [if_pos (Or.inl rfl)]
    cases hy : R1 with
    | error e =>
      rw [thenW_er rfl]
      have S0 : Hid (WS b B (w.alloc (.cells #[.bool false, .slice sa ss.length sc, .int .i64 x.kind, .slice pa x.params.length pc, .slice ra x.results.length rc, .slice fa x.fields.length fc] 65)) l) := H.out.grew ((Grew.refl w).alloc _)
      have T0 : Hid (WT b B w (w.alloc (.cells #[.bool false, .slice sa ss.length sc, .int .i64 x.kind, .slice pa x.params.length pc, .slice ra x.results.length rc, .slice fa x.fields.length fc] 65))) := WT.of_grew ((Grew.refl w).alloc _)
      have N0 : Hid ((w.alloc (.cells #[.bool false, .slice sa ss.length sc, .int .i64 x.kind, .slice pa x.params.length pc, .slice ra x.results.length rc, .slice fa x.fields.length fc] 65)).heap[w.heap.size]? = some (.cells #[.bool false, .slice sa ss.length sc, .int .i64 x.kind, .slice pa x.params.length pc, .slice ra x.results.length rc, .slice fa x.fields.length fc] 65 (0, 0))) := heap_alloc_last _ _
      go_enter Tryz.func21, Tryz.ntmps21
      go_wp2_with fail
      refine (W2.erc (DD.out _ _ S0.out (T0.out.grew0 G0.out hb0 hB0) (by omega)) hy).mono ?_
      rintro en w1 ⟨⟨p, rfl⟩, t1⟩
      have T1 : Hid (WT b B w w1) := T0.out.trans t1
      clear t1
      go_wp2_with fail
      exact ⟨rfl, ⟨p, rfl⟩, T1.out⟩
    | ok m =>
      have hm := hdl m hy
      cases hz : R2 with
      | error e =>
        rw [thenW_ee rfl rfl]
        have S0 : Hid (WS b B (w.alloc (.cells #[.bool false, .slice sa ss.length sc, .int .i64 x.kind, .slice pa x.params.length pc, .slice ra x.results.length rc, .slice fa x.fields.length fc] 65)) l) := H.out.grew ((Grew.refl w).alloc _)
        have T0 : Hid (WT b B w (w.alloc (.cells #[.bool false, .slice sa ss.length sc, .int .i64 x.kind, .slice pa x.params.length pc, .slice ra x.results.length rc, .slice fa x.fields.length fc] 65))) := WT.of_grew ((Grew.refl w).alloc _)
        have N0 : Hid ((w.alloc (.cells #[.bool false, .slice sa ss.length sc, .int .i64 x.kind, .slice pa x.params.length pc, .slice ra x.results.length rc, .slice fa x.fields.length fc] 65)).heap[w.heap.size]? = some (.cells #[.bool false, .slice sa ss.length sc, .int .i64 x.kind, .slice pa x.params.length pc, .slice ra x.results.length rc, .slice fa x.fields.length fc] 65 (0, 0))) := heap_alloc_last _ _
        go_enter Tryz.func21, Tryz.ntmps21
        go_wp2_with fail
        refine (W2.okc (DD.out _ _ S0.out (T0.out.grew0 G0.out hb0 hB0) (by omega)) hy).mono ?_
        rintro en w1 ⟨rfl, t1, s1⟩
        have T1 : Hid (WT b B w w1) := T0.out.trans t1
        have S1 : Hid (WS b B w1 (l ++ m)) := s1
        have N1 : Hid (w1.heap[w.heap.size]? = some (.cells #[.bool false, .slice sa ss.length sc, .int .i64 x.kind, .slice pa x.params.length pc, .slice ra x.results.length rc, .slice fa x.fields.length fc] 65 (0, 0))) := t1.other N0.out (by simp; omega) (NoT.of N0.out (by decide))
        clear t1 s1 T0 S0 N0
        have n0_1 := cell_of N1.out 0
        have n1_1 := cell_of N1.out 1
        have n2_1 := cell_of N1.out 2
        have n3_1 := cell_of N1.out 3
        have n4_1 := cell_of N1.out 4
        have n5_1 := cell_of N1.out 5
        simp at n0_1 n1_1 n2_1 n3_1 n4_1 n5_1
        go_wp2_with fail
        refine (W2.erc (CD.out _ _ S1.out (T1.out.grew0 G0.out hb0 hB0) (by simp; omega)) hz).mono ?_
        rintro en w2 ⟨⟨p, rfl⟩, t2⟩
        have T2 : Hid (WT b B w w2) := T1.out.trans t2
        clear t2
        go_wp2_with fail
        exact ⟨rfl, ⟨p, rfl⟩, T2.out⟩
      | ok n =>
        rw [thenW_ok rfl rfl]
        have S0 : Hid (WS b B (w.alloc (.cells #[.bool false, .slice sa ss.length sc, .int .i64 x.kind, .slice pa x.params.length pc, .slice ra x.results.length rc, .slice fa x.fields.length fc] 65)) l) := H.out.grew ((Grew.refl w).alloc _)
        have T0 : Hid (WT b B w (w.alloc (.cells #[.bool false, .slice sa ss.length sc, .int .i64 x.kind, .slice pa x.params.length pc, .slice ra x.results.length rc, .slice fa x.fields.length fc] 65))) := WT.of_grew ((Grew.refl w).alloc _)
        have N0 : Hid ((w.alloc (.cells #[.bool false, .slice sa ss.length sc, .int .i64 x.kind, .slice pa x.params.length pc, .slice ra x.results.length rc, .slice fa x.fields.length fc] 65)).heap[w.heap.size]? = some (.cells #[.bool false, .slice sa ss.length sc, .int .i64 x.kind, .slice pa x.params.length pc, .slice ra x.results.length rc, .slice fa x.fields.length fc] 65 (0, 0))) := heap_alloc_last _ _
        go_enter Tryz.func21, Tryz.ntmps21
        go_wp2_with fail
        refine (W2.okc (DD.out _ _ S0.out (T0.out.grew0 G0.out hb0 hB0) (by omega)) hy).mono ?_
        rintro en w1 ⟨rfl, t1, s1⟩
        have T1 : Hid (WT b B w w1) := T0.out.trans t1
        have S1 : Hid (WS b B w1 (l ++ m)) := s1
        have N1 : Hid (w1.heap[w.heap.size]? = some (.cells #[.bool false, .slice sa ss.length sc, .int .i64 x.kind, .slice pa x.params.length pc, .slice ra x.results.length rc, .slice fa x.fields.length fc] 65 (0, 0))) := t1.other N0.out (by simp; omega) (NoT.of N0.out (by decide))
        clear t1 s1 T0 S0 N0
        have n0_1 := cell_of N1.out 0
        have n1_1 := cell_of N1.out 1
        have n2_1 := cell_of N1.out 2
        have n3_1 := cell_of N1.out 3
        have n4_1 := cell_of N1.out 4
        have n5_1 := cell_of N1.out 5
        simp at n0_1 n1_1 n2_1 n3_1 n4_1 n5_1
        go_wp2_with fail
        refine (W2.okc (CD.out _ _ S1.out (T1.out.grew0 G0.out hb0 hB0) (by simp; omega)) hz).mono ?_
        rintro en w2 ⟨rfl, t2, s2⟩
        have T2 : Hid (WT b B w w2) := T1.out.trans t2
        have S2 : Hid (WS b B w2 ((l ++ m) ++ n)) := s2
        have N2 : Hid (w2.heap[w.heap.size]? = some (.cells #[.bool false, .slice sa ss.length sc, .int .i64 x.kind, .slice pa x.params.length pc, .slice ra x.results.length rc, .slice fa x.fields.length fc] 65 (0, 0))) := t2.other N1.out (by simp; omega) (NoT.of N1.out (by decide))
        clear t2 s2 T1 S1 N1
        go_wp2_with fail
        go_end0
        exact ⟨rfl, T2.out, by have := S2.out; simpa [List.append_assoc] using this⟩
  | true =>
    by_cases hs0 : 0 < ss.length
    · rw [if_pos (Or.inr hs0)]
      have g1 : decide (0 < ss.length) = true := by simpa using hs0
      have g2 : decide ((0 : Int) < (ss.length : Int)) = true := by simpa using hs0
      cases hy : R1 with
      | error e =>
        rw [thenW_er rfl]
        have S0 : Hid (WS b B (w.alloc (.cells #[.bool true, .slice sa ss.length sc, .int .i64 x.kind, .slice pa x.params.length pc, .slice ra x.results.length rc, .slice fa x.fields.length fc] 65)) l) := H.out.grew ((Grew.refl w).alloc _)
        have T0 : Hid (WT b B w (w.alloc (.cells #[.bool true, .slice sa ss.length sc, .int .i64 x.kind, .slice pa x.params.length pc, .slice ra x.results.length rc, .slice fa x.fields.length fc] 65))) := WT.of_grew ((Grew.refl w).alloc _)
        have N0 : Hid ((w.alloc (.cells #[.bool true, .slice sa ss.length sc, .int .i64 x.kind, .slice pa x.params.length pc, .slice ra x.results.length rc, .slice fa x.fields.length fc] 65)).heap[w.heap.size]? = some (.cells #[.bool true, .slice sa ss.length sc, .int .i64 x.kind, .slice pa x.params.length pc, .slice ra x.results.length rc, .slice fa x.fields.length fc] 65 (0, 0))) := heap_alloc_last _ _
        go_enter Tryz.func21, Tryz.ntmps21
        go_wp2_with fail
        refine (W2.erc (DD.out _ _ S0.out (T0.out.grew0 G0.out hb0 hB0) (by omega)) hy).mono ?_
        rintro en w1 ⟨⟨p, rfl⟩, t1⟩
        have T1 : Hid (WT b B w w1) := T0.out.trans t1
        clear t1
        go_wp2_with fail
        exact ⟨rfl, ⟨p, rfl⟩, T1.out⟩
      | ok m =>
        have hm := hdl m hy
        cases hz : R2 with
        | error e =>
          rw [thenW_ee rfl rfl]
          have S0 : Hid (WS b B (w.alloc (.cells #[.bool true, .slice sa ss.length sc, .int .i64 x.kind, .slice pa x.params.length pc, .slice ra x.results.length rc, .slice fa x.fields.length fc] 65)) l) := H.out.grew ((Grew.refl w).alloc _)
          have T0 : Hid (WT b B w (w.alloc (.cells #[.bool true, .slice sa ss.length sc, .int .i64 x.kind, .slice pa x.params.length pc, .slice ra x.results.length rc, .slice fa x.fields.length fc] 65))) := WT.of_grew ((Grew.refl w).alloc _)
          have N0 : Hid ((w.alloc (.cells #[.bool true, .slice sa ss.length sc, .int .i64 x.kind, .slice pa x.params.length pc, .slice ra x.results.length rc, .slice fa x.fields.length fc] 65)).heap[w.heap.size]? = some (.cells #[.bool true, .slice sa ss.length sc, .int .i64 x.kind, .slice pa x.params.length pc, .slice ra x.results.length rc, .slice fa x.fields.length fc] 65 (0, 0))) := heap_alloc_last _ _
          go_enter Tryz.func21, Tryz.ntmps21
          go_wp2_with fail
          refine (W2.okc (DD.out _ _ S0.out (T0.out.grew0 G0.out hb0 hB0) (by omega)) hy).mono ?_
          rintro en w1 ⟨rfl, t1, s1⟩
          have T1 : Hid (WT b B w w1) := T0.out.trans t1
          have S1 : Hid (WS b B w1 (l ++ m)) := s1
          have N1 : Hid (w1.heap[w.heap.size]? = some (.cells #[.bool true, .slice sa ss.length sc, .int .i64 x.kind, .slice pa x.params.length pc, .slice ra x.results.length rc, .slice fa x.fields.length fc] 65 (0, 0))) := t1.other N0.out (by simp; omega) (NoT.of N0.out (by decide))
          clear t1 s1 T0 S0 N0
          have n0_1 := cell_of N1.out 0
          have n1_1 := cell_of N1.out 1
          have n2_1 := cell_of N1.out 2
          have n3_1 := cell_of N1.out 3
          have n4_1 := cell_of N1.out 4
          have n5_1 := cell_of N1.out 5
          simp at n0_1 n1_1 n2_1 n3_1 n4_1 n5_1
          go_wp2_with fail
          refine (W2.erc (CD.out _ _ S1.out (T1.out.grew0 G0.out hb0 hB0) (by simp; omega)) hz).mono ?_
          rintro en w2 ⟨⟨p, rfl⟩, t2⟩
          have T2 : Hid (WT b B w w2) := T1.out.trans t2
          clear t2
          go_wp2_with fail
          exact ⟨rfl, ⟨p, rfl⟩, T2.out⟩
        | ok n =>
          rw [thenW_ok rfl rfl]
          have S0 : Hid (WS b B (w.alloc (.cells #[.bool true, .slice sa ss.length sc, .int .i64 x.kind, .slice pa x.params.length pc, .slice ra x.results.length rc, .slice fa x.fields.length fc] 65)) l) := H.out.grew ((Grew.refl w).alloc _)
          have T0 : Hid (WT b B w (w.alloc (.cells #[.bool true, .slice sa ss.length sc, .int .i64 x.kind, .slice pa x.params.length pc, .slice ra x.results.length rc, .slice fa x.fields.length fc] 65))) := WT.of_grew ((Grew.refl w).alloc _)
          have N0 : Hid ((w.alloc (.cells #[.bool true, .slice sa ss.length sc, .int .i64 x.kind, .slice pa x.params.length pc, .slice ra x.results.length rc, .slice fa x.fields.length fc] 65)).heap[w.heap.size]? = some (.cells #[.bool true, .slice sa ss.length sc, .int .i64 x.kind, .slice pa x.params.length pc, .slice ra x.results.length rc, .slice fa x.fields.length fc] 65 (0, 0))) := heap_alloc_last _ _
          go_enter Tryz.func21, Tryz.ntmps21
          go_wp2_with fail
          refine (W2.okc (DD.out _ _ S0.out (T0.out.grew0 G0.out hb0 hB0) (by omega)) hy).mono ?_
          rintro en w1 ⟨rfl, t1, s1⟩
          have T1 : Hid (WT b B w w1) := T0.out.trans t1
          have S1 : Hid (WS b B w1 (l ++ m)) := s1
          have N1 : Hid (w1.heap[w.heap.size]? = some (.cells #[.bool true, .slice sa ss.length sc, .int .i64 x.kind, .slice pa x.params.length pc, .slice ra x.results.length rc, .slice fa x.fields.length fc] 65 (0, 0))) := t1.other N0.out (by simp; omega) (NoT.of N0.out (by decide))
          clear t1 s1 T0 S0 N0
          have n0_1 := cell_of N1.out 0
          have n1_1 := cell_of N1.out 1
          have n2_1 := cell_of N1.out 2
          have n3_1 := cell_of N1.out 3
          have n4_1 := cell_of N1.out 4
          have n5_1 := cell_of N1.out 5
          simp at n0_1 n1_1 n2_1 n3_1 n4_1 n5_1
          go_wp2_with fail
          refine (W2.okc (CD.out _ _ S1.out (T1.out.grew0 G0.out hb0 hB0) (by simp; omega)) hz).mono ?_
          rintro en w2 ⟨rfl, t2, s2⟩
          have T2 : Hid (WT b B w w2) := T1.out.trans t2
          have S2 : Hid (WS b B w2 ((l ++ m) ++ n)) := s2
          have N2 : Hid (w2.heap[w.heap.size]? = some (.cells #[.bool true, .slice sa ss.length sc, .int .i64 x.kind, .slice pa x.params.length pc, .slice ra x.results.length rc, .slice fa x.fields.length fc] 65 (0, 0))) := t2.other N1.out (by simp; omega) (NoT.of N1.out (by decide))
          clear t2 s2 T1 S1 N1
          go_wp2_with fail
          go_end0
          exact ⟨rfl, T2.out, by have := S2.out; simpa [List.append_assoc] using this⟩
    · rw [if_neg (show ¬ (true = false ∨ 0 < ss.length) by rintro (h | h); exact absurd h (by decide); exact hs0 h)]
      have g1 : decide (0 < ss.length) = false := by simpa using hs0
      have g2 : decide ((0 : Int) < (ss.length : Int)) = false := by simpa using hs0
      cases hz : R2 with
      | error e =>
        have S0 : Hid (WS b B (w.alloc (.cells #[.bool true, .slice sa ss.length sc, .int .i64 x.kind, .slice pa x.params.length pc, .slice ra x.results.length rc, .slice fa x.fields.length fc] 65)) l) := H.out.grew ((Grew.refl w).alloc _)
        have T0 : Hid (WT b B w (w.alloc (.cells #[.bool true, .slice sa ss.length sc, .int .i64 x.kind, .slice pa x.params.length pc, .slice ra x.results.length rc, .slice fa x.fields.length fc] 65))) := WT.of_grew ((Grew.refl w).alloc _)
        have N0 : Hid ((w.alloc (.cells #[.bool true, .slice sa ss.length sc, .int .i64 x.kind, .slice pa x.params.length pc, .slice ra x.results.length rc, .slice fa x.fields.length fc] 65)).heap[w.heap.size]? = some (.cells #[.bool true, .slice sa ss.length sc, .int .i64 x.kind, .slice pa x.params.length pc, .slice ra x.results.length rc, .slice fa x.fields.length fc] 65 (0, 0))) := heap_alloc_last _ _
        go_enter Tryz.func21, Tryz.ntmps21
        go_wp2_with fail
        refine (W2.erc (CD.out _ _ S0.out (T0.out.grew0 G0.out hb0 hB0) (by omega)) hz).mono ?_
        rintro en w1 ⟨⟨p, rfl⟩, t1⟩
        have T1 : Hid (WT b B w w1) := T0.out.trans t1
        clear t1
        go_wp2_with fail
        exact ⟨rfl, ⟨p, rfl⟩, T1.out⟩
      | ok n =>
        have S0 : Hid (WS b B (w.alloc (.cells #[.bool true, .slice sa ss.length sc, .int .i64 x.kind, .slice pa x.params.length pc, .slice ra x.results.length rc, .slice fa x.fields.length fc] 65)) l) := H.out.grew ((Grew.refl w).alloc _)
        have T0 : Hid (WT b B w (w.alloc (.cells #[.bool true, .slice sa ss.length sc, .int .i64 x.kind, .slice pa x.params.length pc, .slice ra x.results.length rc, .slice fa x.fields.length fc] 65))) := WT.of_grew ((Grew.refl w).alloc _)
        have N0 : Hid ((w.alloc (.cells #[.bool true, .slice sa ss.length sc, .int .i64 x.kind, .slice pa x.params.length pc, .slice ra x.results.length rc, .slice fa x.fields.length fc] 65)).heap[w.heap.size]? = some (.cells #[.bool true, .slice sa ss.length sc, .int .i64 x.kind, .slice pa x.params.length pc, .slice ra x.results.length rc, .slice fa x.fields.length fc] 65 (0, 0))) := heap_alloc_last _ _
        go_enter Tryz.func21, Tryz.ntmps21
        go_wp2_with fail
        refine (W2.okc (CD.out _ _ S0.out (T0.out.grew0 G0.out hb0 hB0) (by omega)) hz).mono ?_
        rintro en w1 ⟨rfl, t1, s1⟩
        have T1 : Hid (WT b B w w1) := T0.out.trans t1
        have S1 : Hid (WS b B w1 (l ++ n)) := s1
        have N1 : Hid (w1.heap[w.heap.size]? = some (.cells #[.bool true, .slice sa ss.length sc, .int .i64 x.kind, .slice pa x.params.length pc, .slice ra x.results.length rc, .slice fa x.fields.length fc] 65 (0, 0))) := t1.other N0.out (by simp; omega) (NoT.of N0.out (by decide))
        clear t1 s1 T0 S0 N0
        go_wp2_with fail
        go_end0
        exact ⟨rfl, T1.out, by have := S1.out; simpa [List.append_assoc] using this⟩
end Go.Proofs.YtchehejjdinifaaGreatDoor

namespace Go.Proofs.YtchehejjdinifaaGreatDoor
open Go.RowKit
set_option linter.unusedVariables false
set_option linter.unusedSimpArgs false
set_option linter.constructorNameAsVariable false

theorem fieldE (p e : Int) (w : World) : (Instr.field 74 (.agg #[.int .i64 p, .int .i64 e]) 1).run Tryz.prog w = .ok (.int .i64 e) w := by kernel_rfl
/- What a call that writes answers. -/
def PAns (w : World) (R : Except Nat (List Int)) (en : Ending) (w' : World) : Prop := match R with
  | .ok m => ∃ rv, en = .returned (.tuple #[rv, .int .i64 0]) ∧ w'.ownsRow w.heap.size 5 1 rv m.length (U8 m) ∧ Grew w w'
  | .error e => en = .returned (.tuple #[.slice none 0 0, .int .i64 e]) ∧ Grew w w'
set_option maxRecDepth 100000 in
set_option maxHeartbeats 1000000 in
theorem wcaughtV (bE : Nat) (p e y : Int) (older : List PanicEntry) (w : World) (hE : w.heap[bE]? = some (ic y 39)) :
    CallsD Tryz.prog 63 #[.pointer (some ⟨bE, 0, none⟩)] (.panicking ({ v := .iface 74 (.agg #[.int .i64 p, .int .i64 e]), recovered := false } :: older)) w fun en u' w' =>
      en = .returned (.tuple #[]) ∧ u' = .panicking ({ v := .iface 74 (.agg #[.int .i64 p, .int .i64 e]), recovered := true } :: older) ∧ w' = w.setCell ⟨bE, 0, none⟩ (.int .i64 e) := by
  have c1 := cell_of hE 0
  have z1 := free_of hE 0
  simp at c1
  clear hE
  refine callsD_of_wpS Tryz.func63 rfl fun c₀ cs hu => ?_
  apply wpS_seq
  apply wpS_region
  simp [wpOpsS, go_sem, recoverD, hu, Tryz.ntmps63, Exit.thenS]
  refine wpS_of_wp ?_
  rw [show (#[Value.pointer (some { block := bE, off := 0 })] ++
          ((Array.replicate 7 undef).setIfInBounds 1 (Value.iface 74 (Value.agg #[Value.int IntKind.i64 p, Value.int IntKind.i64 e]))).setIfInBounds 0 (Value.iface 74 (Value.agg #[Value.int IntKind.i64 p, Value.int IntKind.i64 e])) : Array Value) = #[Value.pointer (some { block := bE, off := 0 }), Value.iface 74 (Value.agg #[Value.int IntKind.i64 p, Value.int IntKind.i64 e]), Value.iface 74 (Value.agg #[Value.int IntKind.i64 p, Value.int IntKind.i64 e]), undef, undef, undef, undef, undef] from rfl]
  clear hu
  have ha := assertF
  have hf := fieldE
  go_wp2
  simp [bodyPostS, results, Tryz.results63]
theorem widleV (bE : Nat) (w : World) :
    CallsD Tryz.prog 63 #[.pointer (some ⟨bE, 0, none⟩)] .returning w fun en u' w' => en = .returned (.tuple #[]) ∧ u' = .returning ∧ w' = w := by
  refine callsD_of_wpS Tryz.func63 rfl fun c₀ cs hu => ?_
  apply wpS_seq
  apply wpS_region
  simp [wpOpsS, go_sem, recoverD, hu, Tryz.ntmps63, Exit.thenS]
  refine wpS_of_wp ?_
  rw [show (#[Value.pointer (some { block := bE, off := 0 })] ++
          ((Array.replicate 7 undef).setIfInBounds 1 Value.nilIface).setIfInBounds 0 Value.nilIface : Array Value) = #[Value.pointer (some { block := bE, off := 0 }), .nilIface, .nilIface, undef, undef, undef, undef, undef] from rfl]
  go_wp2
  cases c₀
  simp_all [bodyPostS, results, Tryz.results63]
set_option maxRecDepth 100000 in
set_option maxHeartbeats 1000000 in
theorem writtenV_any (n hp : Int) (nul : Bool) (w : World) (hT : Tab w) (R : Except Nat (List Int))
    (HC : ∀ (W : World) (b B : Nat), WS b B W [] → Grew w W → Calls Tryz.prog 37 #[.pointer (some ⟨b, 0, none⟩), .agg #[.int .i64 n, .bool nul, .int .i64 hp]] W (WAns b B W [] R)) :
    Calls Tryz.prog 36 #[.agg #[.int .i64 n, .bool nul, .int .i64 hp], .func (.func 37) #[] #[]] w (PAns w R) := by
  have hmf : ∀ (fn : Fn) (first cap : Array Value) (w : World), (Instr.makeFunc fn first cap).run Tryz.prog w = .ok (.func fn first cap) w := fun _ _ _ _ => rfl
  have HT : Hid (Tab w) := hT
  have hpos := hT.pos
  have HCC : Hid (∀ (W : World) (b B : Nat), WS b B W [] → Grew w W → Calls Tryz.prog 37 #[.pointer (some ⟨b, 0, none⟩), .agg #[.int .i64 n, .bool nul, .int .i64 hp]] W (WAns b B W [] R)) := HC
  clear hT HC
  go_enter_defers Tryz.func36, Tryz.ntmps36
  go_wp2_with fail
  generalize hW : ((w.alloc (Obj.cells #[Value.int IntKind.i64 n, Value.bool nul, Value.int IntKind.i64 hp] 26)).alloc (Obj.cells #[Value.int IntKind.i64 0] 39)).alloc (Obj.cells #[Value.slice none 0 0] 76) = W
  have G0 : Hid (Grew w W) := by rw [← hW]; exact (((Grew.refl w).alloc _).alloc _).alloc _
  obtain ⟨X0, E0, o0⟩ : Hid (W.heap[w.heap.size]? = some (.cells #[.int .i64 n, .bool nul, .int .i64 hp] 26 (0, 0))) ∧ Hid (W.heap[w.heap.size + 1]? = some (ic 0 39)) ∧ W.heap[w.heap.size + 1 + 1]? = some (wob (.slice none 0 0)) := by
    rw [← hW]
    exact heap_three _ _ _ _
  have hsz : W.heap.size = w.heap.size + 1 + 1 + 1 := by rw [← hW]; simp
  have S0 : Hid (WS (w.heap.size + 1 + 1) (w.heap.size + 1 + 1 + 1) W []) := ⟨⟨_, o0, World.ownsRow_nil _ _ _ _⟩, by omega, by omega, HT.out.grew G0.out, by omega, by omega⟩
  clear hW o0
  have V := HCC.out W _ _ S0.out G0.out
  cases R with
  | error e =>
    refine V.mono ?_
    rintro en w2 ⟨⟨p, rfl⟩, t2⟩
    have g2 : Grew w w2 := (t2.turn (G0.out.turn _) (by omega)).grew (Grew.refl w) (by intro y hy; simp at hy; omega)
    have E3 := t2.other E0.out (by omega) (by omega)
    have c0 := cell_of E3 0
    simp [ic] at c0
    clear V t2
    unfold flt
    go_wp2_with fail
    refine leaves_cons (f := 63) (args := #[.pointer (some ⟨w.heap.size + 1, 0, none⟩)]) (by simp) (by simp [go_sem]) ?_
    refine (wcaughtV _ p e 0 [] _ E3).mono ?_
    rintro en u' w4 ⟨rfl, rfl, rfl⟩
    simp [Leaves, settle, results, Tryz.results36, go_sem, c0]
    exact ⟨rfl, g2.set (p := ⟨w.heap.size + 1, 0, none⟩) (by simp) _⟩
  | ok m =>
    refine V.mono ?_
    rintro en w2 ⟨rfl, t2, s2⟩
    have G2 : Hid (Grew w w2) := (t2.turn (G0.out.turn _) (by omega)).grew (Grew.refl w) (by intro y hy; simp at hy; omega)
    have E3 : Hid (w2.heap[w.heap.size + 1]? = some (ic 0 39)) := t2.other E0.out (by omega) (by omega)
    obtain ⟨o, ho, hw⟩ := s2.ex
    obtain ⟨oa, oc, rfl⟩ := row_one hw
    have q0 := cell_of ho 0
    have c0 := cell_of E3.out 0
    have y4 := free_of E3.out 0
    simp [ic] at c0
    simp at q0
    have rw1 : w2.ownsRow (w.heap.size + 1 + 1 + 1) 5 1 (.slice oa m.length oc) m.length (U8 m) := by simpa using hw
    have RW : Hid (w2.ownsRow (w.heap.size + 1 + 1 + 1) 5 1 (.slice oa m.length oc) m.length (U8 m)) := rw1
    clear rw1
    clear V t2 s2 ho hw
    go_wp2_with fail
    refine leaves_cons (f := 63) (args := #[.pointer (some ⟨w.heap.size + 1, 0, none⟩)]) (by simp) (by simp [go_sem]) ?_
    refine (widleV _ _).mono ?_
    rintro en u' w5 ⟨rfl, rfl, rfl⟩
    simp [Leaves, settle, results, Tryz.results36, go_sem, c0]
    exact ⟨_, rfl, row_low (row_set RW.out (NoT.of (t := 39) E3.out (by decide)) _) (by omega), G2.out.set (p := ⟨w.heap.size + 1, 0, none⟩) (by simp) _⟩
set_option maxRecDepth 100000 in
set_option maxHeartbeats 1000000 in
theorem wval_num {b B : Nat} {w : World} {l : List Int} (h : WS b B w l) (t : VT) (hn : t.num ≠ 5) (hl : l.length ≤ 70368744177664) :
    Calls Tryz.prog 37 #[.pointer (some ⟨b, 0, none⟩), t.v] w (WAns b B w l (plainW 1 t)) := by
  have H : Hid (WS b B w l) := h
  have G0 : Hid (Grew w (w.alloc (.cells #[.int .i64 t.num, .bool t.null, .int .i64 t.heap] 26))) := (Grew.refl w).alloc _
  have C := plain_any (h.grew G0.out) 1 t hl
  clear h
  obtain ⟨R, hR⟩ : ∃ R, R = plainW 1 t := ⟨_, rfl⟩
  rw [← hR] at C ⊢
  clear hR
  obtain ⟨n, nul, hp⟩ := t
  unfold VT.v vt at *
  simp only at *
  have d : (n == 5) = false := by simpa using hn
  go_enter Tryz.func37, Tryz.ntmps37
  go_wp2_with fail
  refine C.mono ?_
  intro en w2 ha
  clear C
  cases R with
  | error e =>
    obtain ⟨⟨p, rfl⟩, t2⟩ := ha
    have T2 : Hid (TB b B w w2) := (TB.of_grew G0.out).trans t2
    clear t2
    go_wp2_with fail
    exact ⟨rfl, ⟨p, rfl⟩, T2.out⟩
  | ok m =>
    obtain ⟨rfl, t2, s2⟩ := ha
    have F2 : Hid (TB b B w w2 ∧ WS b B w2 (l ++ m)) := ⟨(TB.of_grew G0.out).trans t2, s2⟩
    clear t2 s2
    go_wp2_with fail
    go_end0
    exact ⟨rfl, F2.out⟩
set_option maxRecDepth 100000 in
set_option maxHeartbeats 1000000 in
theorem put1_any (w : World) (hT : Tab w) :
    Calls Tryz.prog 19 #[.agg #[.int .i64 1, .bool false, .int .i64 0]] w fun en w' => ∃ rv, en = .returned (.tuple #[rv, .int .i64 0]) ∧ Reads w' rv [127] ∧ Grew w w' := by
  have C := writtenV_any 1 0 false (w.alloc (.cells #[.int .i64 1, .bool false, .int .i64 0] 26)) (hT.grew ((Grew.refl w).alloc _)) (.ok [127]) (fun W b B hS _ => by
    have := wval_num hS ⟨1, false, 0⟩ (by decide) (by simp)
    rw [show plainW 1 ⟨1, false, 0⟩ = .ok [127] from rfl] at this
    exact this)
  clear hT
  go_enter Tryz.func19, Tryz.ntmps19
  go_wp2_with fail
  refine C.mono ?_
  rintro en w1 ⟨rv, rfl, r1, g1⟩
  have F1 : Hid (Reads w1 rv [127] ∧ Grew w w1) := ⟨Has.reads (base := _) (w0 := w1) ⟨r1, Below.refl _ _, g1.2⟩, ((Grew.refl w).alloc _).trans g1⟩
  obtain ⟨ra, rc, rfl⟩ := row_one r1
  clear C r1 g1
  go_wp2_with fail
  go_ret2
  exact ⟨_, rfl, F1.out⟩
set_option maxRecDepth 100000 in
set_option maxHeartbeats 1000000 in
theorem awake_any (w : World) (hT : Tab w) :
    Calls Tryz.prog 9 #[] w fun en w' => en = .returned (.bool true) ∧ Grew w w' := by
  have C := put1_any w hT
  clear hT
  go_enter Tryz.func9, Tryz.ntmps9
  go_wp2_with fail
  refine C.mono ?_
  rintro en w1 ⟨rv, rfl, r1, g1⟩
  have G1 : Hid (Grew w w1) := g1
  have st := r1.str
  rw [show strOfNums [127] = ⟨#[127]⟩ from by decide +kernel] at st
  obtain ⟨ra, rc, rfl⟩ := r1.len
  have st2 : (convert 38 9 (.slice ra 1 rc)).run Tryz.prog w1 = .ok (.string ⟨#[127]⟩) w1 := st
  clear C r1 g1 st
  go_wp2_with fail
  go_ret
  exact ⟨rfl, G1.out⟩
end Go.Proofs.YtchehejjdinifaaGreatDoor

namespace Go.Proofs.YtchehejjdinifaaGreatDoor
open Go.RowKit
set_option linter.unusedVariables false
set_option linter.unusedSimpArgs false
set_option linter.constructorNameAsVariable false

theorem compW_len {c : CT} {m : List Int} (h : compW c = .ok m) : m.length ≤ 150000 := by
  unfold compW at h
  split at h
  · split at h
    · cases h1 : listW 1000 valW c.params with
      | error e => rw [h1] at h; cases h
      | ok a =>
        have := listW_len (K := 12) (fun _ _ h => valW_len h) h1
        cases h2 : listW 1000 valW c.results with
        | error e => rw [h1, h2] at h; cases h
        | ok b =>
          have := listW_len (K := 12) (fun _ _ h => valW_len h) h2
          rw [h1, h2] at h
          cases h
          simp
          omega
    · split at h
      · cases h1 : listW 10000 fieldW c.fields with
        | error e => rw [h1] at h; cases h
        | ok a =>
          have := listW_len (K := 13) (fun _ _ h => fieldW_len h) h1
          rw [h1] at h
          cases h
          simp
          omega
      · cases h1 : fieldW (c.fields.headD ⟨⟨0, false, 0⟩, false⟩) with
        | error e => rw [h1] at h; cases h
        | ok a =>
          have := fieldW_len h1
          rw [h1] at h
          cases h
          simp
          omega
  · cases h
theorem subW_len {x : SB} {m : List Int} (h : subW x = .ok m) : m.length ≤ 170000 := by
  unfold subW at h
  split at h
  · cases h1 : declW x with
    | error e => rw [h1] at h; cases h
    | ok a =>
      have := declW_len h1
      cases h2 : compW x.comp with
      | error e => rw [h1, h2] at h; cases h
      | ok b =>
        have := compW_len h2
        rw [h1, h2] at h
        cases h
        simp
        omega
  · have := compW_len h
    omega
def smallS (x : SB) : Prop := x.comp.params.length ≤ 1073741824 ∧ x.comp.results.length ≤ 1073741824
set_option maxRecDepth 100000 in
set_option maxHeartbeats 1000000 in
theorem putListS2 {b B : Nat} {w w0 : World} {l : List Int} (h : WS b B w l) (g0 : Grew w0 w) (hb0 : w0.heap.size ≤ b) (v : Value) (xs : List SB) (hv : LS w0 v xs) (lim : Nat) (hlim : lim ≤ 10000) (hsm : ∀ x ∈ xs, smallS x) (hl : l.length ≤ 12000000000000) :
    Calls Tryz.prog 23 #[.pointer (some ⟨b, 0, none⟩), .int .i64 (lim : Int), v, .func (.func 21) #[] #[]] w (W2 b B w l (listW lim subW xs)) := by
  have H : Hid (WS b B w l) := h
  have hblt := h.lt
  have hb : b < w.heap.size := h.blt
  have G0 : Hid (Grew w0 w) := g0
  have HV : Hid (LS w0 v xs) := hv
  obtain ⟨o, ho, hrow⟩ := h.ex
  obtain ⟨oa, oc, rfl⟩ := row_one hrow
  have q0 := cell_of ho 0
  simp at q0
  obtain ⟨a, cap, rfl, hlc, hm⟩ := hv.one
  have hxm : xs.length ≤ 9223372036854775807 := by unfold maxLen at hm; omega
  clear h g0 hv ho hrow
  unfold listW
  by_cases hlen : lim < xs.length
  · rw [if_pos hlen]
    have d1 : decide ((lim : Int) < (xs.length : Int)) = true := by simp; omega
    have d2 : decide (lim < xs.length) = true := by simpa using hlen
    go_enter Tryz.func23, Tryz.ntmps23
    go_wp2_with fail
    refine (giveUp_any _ 2 _).mono ?_
    rintro en w9 ⟨rfl, h9⟩
    obtain rfl := h9.symm
    go_wp2_with fail
    exact ⟨rfl, ⟨_, rfl⟩, WT.refl _ _ _⟩
  · rw [if_neg hlen]
    have d1 : decide ((lim : Int) < (xs.length : Int)) = false := by simp; omega
    have d2 : decide (lim < xs.length) = false := by simpa using hlen
    have cv : IntKind.u64.wrap (xs.length : Int) = (xs.length : Int) := by rw [IntKind.wrap_u64]; omega
    have C := W2.okc (unsigned2 H.out (xs.length : Int) (by omega) (by omega) (by omega)) rfl
    have hpl := PU_len (xs.length : Int)
    obtain ⟨R, hR⟩ : ∃ R, R = thenW (.ok (PU xs.length)) (manyW subW xs) := ⟨_, rfl⟩
    rw [← hR]
    have HR : Hid (R = thenW (.ok (PU xs.length ++ [])) (manyW subW (xs.drop 0))) := by
      have : R = thenW (.ok (PU xs.length ++ [])) (manyW subW (xs.drop 0)) := by rw [hR]; simp
      exact this
    clear hR
    go_enter Tryz.func23, Tryz.ntmps23
    go_wp2_with fail
    refine C.mono ?_
    rintro en w1 ⟨rfl, t1, s1⟩
    have T1 : Hid (WT b B w w1) := t1
    have S1 : Hid (WS b B w1 (l ++ PU xs.length)) := s1
    clear C t1 s1 q0
    go_wp2_with fail
    go_loopw [27] (fun i_ wr => ∃ (i : Nat) (m : List Int), i_ = .int .i64 i ∧ i ≤ xs.length ∧ m.length ≤ 170000 * i ∧ Hid (WT b B w wr) ∧ Hid (WS b B wr (l ++ (PU xs.length ++ m))) ∧ Hid (R = thenW (.ok (PU xs.length ++ m)) (manyW subW (xs.drop i)))) (fun i_ _ => xs.length - (intOf i_).toNat)
    case atStart => exact ⟨0, [], rfl, by omega, by simp, T1, by simpa using S1, HR⟩
    case round =>
      obtain ⟨i, m, rfl, hi, hml, TR, SR, HE⟩ := hrel
      by_cases hlt : i < xs.length
      · obtain ⟨x, hx⟩ : ∃ x, xs[i]? = some x := ⟨_, List.getElem?_eq_getElem hlt⟩
        have d3 : decide ((i : Int) < (xs.length : Int)) = true := by simp; omega
        have d4 : decide (i < xs.length) = true := by simpa using hlt
        have GR : Grew w0 wr := TR.out.grew0 G0.out hb0 (by omega)
        obtain ⟨bb, off, ea, _, hc⟩ := HV.out.get (by omega)
        have hce := hc i x hx
        subst ea
        have HE2 := HE.out
        rw [manyW_drop hx] at HE2
        have hlx : (l ++ (PU xs.length ++ m)).length ≤ 14000000000000 := by simp; omega
        skip
        obtain ⟨sv, pv, rv, fv, hsr0, q0, q1, q2, q3, q4, q5⟩ := hce
        have p0 := cell_grew q0 GR
        have p1 := cell_grew q1 GR
        have p2 := cell_grew q2 GR
        have p3 := cell_grew q3 GR
        have p4 := cell_grew q4 GR
        have p5 := cell_grew q5 GR
        clear q0 q1 q2 q3 q4 q5
        obtain ⟨sa, sc, e1, _, _⟩ := hsr0.1.one
        obtain ⟨pa, pc, e2, _, _⟩ := hsr0.2.1.one
        obtain ⟨ra, rc, e3, _, _⟩ := hsr0.2.2.1.one
        obtain ⟨fa, fc, e4, _, _⟩ := hsr0.2.2.2.one
        subst e1
        subst e2
        subst e3
        subst e4
        have D : ∀ (w1 : World), WS b B w1 (l ++ (PU xs.length ++ m)) → Grew w0 w1 → Calls Tryz.prog 21 #[.pointer (some ⟨b, 0, none⟩), .agg #[.bool x.final_, .slice sa x.supers.length sc, .int .i64 x.comp.kind, .slice pa x.comp.params.length pc, .slice ra x.comp.results.length rc, .slice fa x.comp.fields.length fc]] w1 (W2 b B w1 (l ++ (PU xs.length ++ m)) (subW x)) := fun w1 u g => subType2 u g hb0 x.final_ _ x.supers hsr0.1 x.comp _ _ _ ⟨hsr0.2.1, hsr0.2.2.1, hsr0.2.2.2⟩ (hsm x (List.mem_of_getElem? hx)) (by omega)
        clear hsr0
        cases hy : subW x with
        | error e =>
          have HE3 : Hid (R = .error e) := by
            have : R = .error e := by rw [HE2, hy]; rfl
            exact this
          have D2 := W2.erc (D (wr.alloc (.cells #[.bool x.final_, .slice sa x.supers.length sc, .int .i64 x.comp.kind, .slice pa x.comp.params.length pc, .slice ra x.comp.results.length rc, .slice fa x.comp.fields.length fc] 65)) (SR.out.grew ((Grew.refl wr).alloc _)) (GR.alloc _)) hy
          clear hc HE HE2 D hx GR
          go_wp2_with fail
          refine D2.mono ?_
          rintro en w2 ⟨⟨p, rfl⟩, t2⟩
          have T2 : Hid (WT b B w w2) := (TR.out.trans (WT.of_grew ((Grew.refl wr).alloc _))).trans t2
          clear D2 t2
          go_wp2_with fail
          exact ⟨rfl, by rw [HE3.out]; exact ⟨⟨p, rfl⟩, T2.out⟩⟩
        | ok n =>
          have hnl := subW_len hy
          have HE3 : Hid (R = thenW (.ok (PU xs.length ++ (m ++ n))) (manyW subW (xs.drop (i + 1)))) := by
            have : R = thenW (.ok (PU xs.length ++ (m ++ n))) (manyW subW (xs.drop (i + 1))) := by rw [HE2, hy, ← List.append_assoc]; rfl
            exact this
          have D2 := W2.okc (D (wr.alloc (.cells #[.bool x.final_, .slice sa x.supers.length sc, .int .i64 x.comp.kind, .slice pa x.comp.params.length pc, .slice ra x.comp.results.length rc, .slice fa x.comp.fields.length fc] 65)) (SR.out.grew ((Grew.refl wr).alloc _)) (GR.alloc _)) hy
          clear hc HE HE2 D hx GR hy
          go_wp2_with fail
          refine D2.mono ?_
          rintro en w2 ⟨rfl, t2, s2⟩
          have T2 : Hid (WT b B w w2) := (TR.out.trans (WT.of_grew ((Grew.refl wr).alloc _))).trans t2
          have s3 : WS b B w2 (l ++ (PU xs.length ++ (m ++ n))) := by simpa [List.append_assoc] using s2
          have S2 : Hid (WS b B w2 (l ++ (PU xs.length ++ (m ++ n)))) := s3
          clear D2 t2 s2 s3 TR SR
          go_wp2_with fail
          go_roundw
          case rel => exact ⟨i + 1, m ++ n, by go_num, by omega, by simp; omega, T2, S2, HE3⟩
          case measure => simp [intOf]; omega
      · have d3 : decide ((i : Int) < (xs.length : Int)) = false := by simp; omega
        have d4 : decide (i < xs.length) = false := by simpa using hlt
        have HE3 : Hid (R = .ok (PU xs.length ++ m)) := by
          have : R = .ok (PU xs.length ++ m) := by rw [HE.out, List.drop_eq_nil_of_le (by omega)]; simp [manyW, thenW]
          exact this
        go_wp2_with fail
        go_end0
        rw [HE3.out]
        exact ⟨rfl, TR.out, SR.out⟩
set_option maxRecDepth 100000 in
set_option maxHeartbeats 1000000 in
theorem recType2 {b B : Nat} {w : World} {l : List Int} (h : WS b B w l) {w0 : World} (g0 : Grew w0 w) (hb0 : w0.heap.size ≤ b) (tv : Value) (ts : List SB) (ex : Bool) (hv : LS w0 tv ts) (hsm : ∀ x ∈ ts, smallS x) (hl : l.length ≤ 11000000000000) :
    Calls Tryz.prog 11 #[.pointer (some ⟨b, 0, none⟩), .agg #[tv, .bool ex]] w (W2 b B w l (recW ⟨ts, ex⟩)) := by
  have H : Hid (WS b B w l) := h
  have hb : b < w.heap.size := h.blt
  have hB0 : w0.heap.size ≤ B := by have := h.lt; omega
  have G0 : Hid (Grew w0 w) := g0
  clear h g0
  obtain ⟨ta, tc, rfl, htc, htm⟩ := hv.one
  have HV : Hid (LS w0 (.slice ta ts.length tc) ts) := hv
  clear hv
  unfold recW
  simp only
  by_cases h1 : ts.length = 1
  · rw [if_pos h1]
    have e1 : ((ts.length : Int) == 1) = true := by simp; omega
    have hpos : 0 < ts.length := by omega
    have hfn : ¬ ts = [] := fun h => by rw [h] at hpos; simp at hpos
    have hdi : decide (0 < ts.length) = true := decide_eq_true hpos
    obtain ⟨bb, off, ea, _, hc⟩ := HV.out.get hpos
    obtain ⟨x, hx⟩ : ∃ x, ts[0]? = some x := ⟨_, List.getElem?_eq_getElem hpos⟩
    have hd : ts.headD ⟨false, [], ⟨0, [], [], []⟩⟩ = x := by
      cases ts with
      | nil => simp at hpos
      | cons a r => simpa using hx
    rw [hd]
    have hce := hc 0 x hx
    rw [Nat.zero_mul, Nat.add_zero] at hce
    obtain ⟨sv, pv, rv, fv, hsr0, q0, q1, q2, q3, q4, q5⟩ := hce
    obtain ⟨sa, sc, e2, _, _⟩ := hsr0.1.one
    obtain ⟨pa, pc, e3, _, _⟩ := hsr0.2.1.one
    obtain ⟨ra, rc, e4, _, _⟩ := hsr0.2.2.1.one
    obtain ⟨fa, fc, e5, _, _⟩ := hsr0.2.2.2.one
    subst ea
    subst e2
    subst e3
    subst e4
    subst e5
    have p0 := cell_grew q0 G0.out
    have p1 := cell_grew q1 G0.out
    have p2 := cell_grew q2 G0.out
    have p3 := cell_grew q3 G0.out
    have p4 := cell_grew q4 G0.out
    have p5 := cell_grew q5 G0.out
    have hbb : bb < w.heap.size := lt_of_cell p0
    have D : Hid (∀ (w1 : World), WS b B w1 l → Grew w0 w1 → Calls Tryz.prog 21 #[.pointer (some ⟨b, 0, none⟩), .agg #[.bool x.final_, .slice sa x.supers.length sc, .int .i64 x.comp.kind, .slice pa x.comp.params.length pc, .slice ra x.comp.results.length rc, .slice fa x.comp.fields.length fc]] w1 (W2 b B w1 l (subW x))) := fun w1 u g => subType2 u g hb0 x.final_ _ x.supers hsr0.1 x.comp _ _ _ ⟨hsr0.2.1, hsr0.2.2.1, hsr0.2.2.2⟩ (hsm x (List.mem_of_getElem? hx)) (by omega)
    clear hsr0 q0 q1 q2 q3 q4 q5 hc hx hd h1
    cases hy : subW x with
    | error e =>
      have S0 : Hid (WS b B (w.alloc (.cells #[.slice (some ⟨bb, off, none⟩) ts.length tc, .bool ex] 24)) l) := H.out.grew ((Grew.refl w).alloc _)
      have T0 : Hid (WT b B w (w.alloc (.cells #[.slice (some ⟨bb, off, none⟩) ts.length tc, .bool ex] 24))) := WT.of_grew ((Grew.refl w).alloc _)
      have N0 : Hid ((w.alloc (.cells #[.slice (some ⟨bb, off, none⟩) ts.length tc, .bool ex] 24)).heap[w.heap.size]? = some (.cells #[.slice (some ⟨bb, off, none⟩) ts.length tc, .bool ex] 24 (0, 0))) := heap_alloc_last _ _
      go_enter Tryz.func11, Tryz.ntmps11
      go_wp2_with fail
      refine (W2.erc (D.out _ S0.out (T0.out.grew0 G0.out hb0 hB0)) hy).mono ?_
      rintro en w1 ⟨⟨p, rfl⟩, t1⟩
      have T1 : Hid (WT b B w w1) := T0.out.trans t1
      clear t1
      go_wp2_with fail
      exact ⟨rfl, ⟨p, rfl⟩, T1.out⟩
    | ok m =>
      have S0 : Hid (WS b B (w.alloc (.cells #[.slice (some ⟨bb, off, none⟩) ts.length tc, .bool ex] 24)) l) := H.out.grew ((Grew.refl w).alloc _)
      have T0 : Hid (WT b B w (w.alloc (.cells #[.slice (some ⟨bb, off, none⟩) ts.length tc, .bool ex] 24))) := WT.of_grew ((Grew.refl w).alloc _)
      have N0 : Hid ((w.alloc (.cells #[.slice (some ⟨bb, off, none⟩) ts.length tc, .bool ex] 24)).heap[w.heap.size]? = some (.cells #[.slice (some ⟨bb, off, none⟩) ts.length tc, .bool ex] 24 (0, 0))) := heap_alloc_last _ _
      go_enter Tryz.func11, Tryz.ntmps11
      go_wp2_with fail
      refine (W2.okc (D.out _ S0.out (T0.out.grew0 G0.out hb0 hB0)) hy).mono ?_
      rintro en w1 ⟨rfl, t1, s1⟩
      have T1 : Hid (WT b B w w1) := T0.out.trans t1
      have S1 : Hid (WS b B w1 (l ++ m)) := s1
      have N1 : Hid (w1.heap[w.heap.size]? = some (.cells #[.slice (some ⟨bb, off, none⟩) ts.length tc, .bool ex] 24 (0, 0))) := t1.other N0.out (by simp; omega) (NoT.of N0.out (by decide))
      clear t1 s1 T0 S0 N0
      go_wp2_with fail
      go_end0
      exact ⟨rfl, T1.out, by have := S1.out; simpa [List.append_assoc] using this⟩
  · rw [if_neg h1]
    have e1 : ((ts.length : Int) == 1) = false := by simp; omega
    clear h1
    cases hy : listW 10000 subW ts with
    | error e =>
      rw [thenW_ee rfl rfl]
      have S0 : Hid (WS b B (w.alloc (.cells #[.slice ta ts.length tc, .bool ex] 24)) l) := H.out.grew ((Grew.refl w).alloc _)
      have T0 : Hid (WT b B w (w.alloc (.cells #[.slice ta ts.length tc, .bool ex] 24))) := WT.of_grew ((Grew.refl w).alloc _)
      have N0 : Hid ((w.alloc (.cells #[.slice ta ts.length tc, .bool ex] 24)).heap[w.heap.size]? = some (.cells #[.slice ta ts.length tc, .bool ex] 24 (0, 0))) := heap_alloc_last _ _
      go_enter Tryz.func11, Tryz.ntmps11
      go_wp2_with fail
      have RN := reads_new (w.alloc (.cells #[.slice ta ts.length tc, .bool ex] 24)) 78 5
      rw [alloc_size] at RN
      refine (W2.okc (put2 (r := [78]) (S0.out.grew ((Grew.refl _).alloc _)) RN (by simp; omega)) rfl).mono ?_
      rintro en w1 ⟨rfl, t1, s1⟩
      have T1 : Hid (WT b B w w1) := (T0.out.trans (WT.of_grew ((Grew.refl _).alloc _))).trans t1
      have S1 : Hid (WS b B w1 (l ++ [78])) := s1
      have N1 : Hid (w1.heap[w.heap.size]? = some (.cells #[.slice ta ts.length tc, .bool ex] 24 (0, 0))) := t1.other (heap_alloc N0.out _) (by simp; omega) (NoT.of (heap_alloc N0.out _) (by decide))
      clear t1 s1 T0 S0 N0 RN
      have n0_1 := cell_of N1.out 0
      have n1_1 := cell_of N1.out 1
      simp at n0_1 n1_1
      go_wp2_with fail
      refine (W2.erc (putListS2 S1.out (T1.out.grew0 G0.out hb0 hB0) hb0 _ ts HV.out 10000 (by decide) hsm (by simp; omega)) hy).mono ?_
      rintro en w2 ⟨⟨p, rfl⟩, t2⟩
      have T2 : Hid (WT b B w w2) := T1.out.trans t2
      clear t2
      go_wp2_with fail
      exact ⟨rfl, ⟨p, rfl⟩, T2.out⟩
    | ok m =>
      rw [thenW_ok rfl rfl]
      have S0 : Hid (WS b B (w.alloc (.cells #[.slice ta ts.length tc, .bool ex] 24)) l) := H.out.grew ((Grew.refl w).alloc _)
      have T0 : Hid (WT b B w (w.alloc (.cells #[.slice ta ts.length tc, .bool ex] 24))) := WT.of_grew ((Grew.refl w).alloc _)
      have N0 : Hid ((w.alloc (.cells #[.slice ta ts.length tc, .bool ex] 24)).heap[w.heap.size]? = some (.cells #[.slice ta ts.length tc, .bool ex] 24 (0, 0))) := heap_alloc_last _ _
      go_enter Tryz.func11, Tryz.ntmps11
      go_wp2_with fail
      have RN := reads_new (w.alloc (.cells #[.slice ta ts.length tc, .bool ex] 24)) 78 5
      rw [alloc_size] at RN
      refine (W2.okc (put2 (r := [78]) (S0.out.grew ((Grew.refl _).alloc _)) RN (by simp; omega)) rfl).mono ?_
      rintro en w1 ⟨rfl, t1, s1⟩
      have T1 : Hid (WT b B w w1) := (T0.out.trans (WT.of_grew ((Grew.refl _).alloc _))).trans t1
      have S1 : Hid (WS b B w1 (l ++ [78])) := s1
      have N1 : Hid (w1.heap[w.heap.size]? = some (.cells #[.slice ta ts.length tc, .bool ex] 24 (0, 0))) := t1.other (heap_alloc N0.out _) (by simp; omega) (NoT.of (heap_alloc N0.out _) (by decide))
      clear t1 s1 T0 S0 N0 RN
      have n0_1 := cell_of N1.out 0
      have n1_1 := cell_of N1.out 1
      simp at n0_1 n1_1
      go_wp2_with fail
      refine (W2.okc (putListS2 S1.out (T1.out.grew0 G0.out hb0 hB0) hb0 _ ts HV.out 10000 (by decide) hsm (by simp; omega)) hy).mono ?_
      rintro en w2 ⟨rfl, t2, s2⟩
      have T2 : Hid (WT b B w w2) := T1.out.trans t2
      have S2 : Hid (WS b B w2 ((l ++ [78]) ++ m)) := s2
      have N2 : Hid (w2.heap[w.heap.size]? = some (.cells #[.slice ta ts.length tc, .bool ex] 24 (0, 0))) := t2.other N1.out (by simp; omega) (NoT.of N1.out (by decide))
      clear t2 s2 T1 S1 N1
      go_wp2_with fail
      go_end0
      exact ⟨rfl, T2.out, by have := S2.out; simpa [List.append_assoc] using this⟩
end Go.Proofs.YtchehejjdinifaaGreatDoor

namespace Go.Proofs.YtchehejjdinifaaGreatDoor
open Go.RowKit
set_option linter.unusedVariables false
set_option linter.unusedSimpArgs false
set_option linter.constructorNameAsVariable false

theorem WT.tb {b B : Nat} {w w' : World} (h : WT b B w w') : TB b B w w' := ⟨h.os, h.tape, h.output, h.size, fun k hk h1 h2 => h.block k hk h1 (Or.inl h2)⟩
theorem W2.wans {b B : Nat} {w : World} {l : List Int} {r : Except Nat (List Int)} {n : FuncId} {args : Array Value} (h : Calls Tryz.prog n args w (W2 b B w l r)) : Calls Tryz.prog n args w (WAns b B w l r) := by
  refine h.mono fun en w' hh => ?_
  cases r with
  | ok m => exact ⟨hh.1, hh.2.1.tb, hh.2.2⟩
  | error e => exact ⟨hh.1, hh.2.tb⟩
set_option maxRecDepth 100000 in
set_option maxHeartbeats 1000000 in
theorem wcaughtG (bE : Nat) (p e y : Int) (older : List PanicEntry) (w : World) (hE : w.heap[bE]? = some (ic y 39)) :
    CallsD Tryz.prog 20 #[.pointer (some ⟨bE, 0, none⟩)] (.panicking ({ v := .iface 74 (.agg #[.int .i64 p, .int .i64 e]), recovered := false } :: older)) w fun en u' w' =>
      en = .returned (.tuple #[]) ∧ u' = .panicking ({ v := .iface 74 (.agg #[.int .i64 p, .int .i64 e]), recovered := true } :: older) ∧ w' = w.setCell ⟨bE, 0, none⟩ (.int .i64 e) := by
  have c1 := cell_of hE 0
  have z1 := free_of hE 0
  simp at c1
  clear hE
  refine callsD_of_wpS Tryz.func20 rfl fun c₀ cs hu => ?_
  apply wpS_seq
  apply wpS_region
  simp [wpOpsS, go_sem, recoverD, hu, Tryz.ntmps20, Exit.thenS]
  refine wpS_of_wp ?_
  rw [show (#[Value.pointer (some { block := bE, off := 0 })] ++
          ((Array.replicate 7 undef).setIfInBounds 1 (Value.iface 74 (Value.agg #[Value.int IntKind.i64 p, Value.int IntKind.i64 e]))).setIfInBounds 0 (Value.iface 74 (Value.agg #[Value.int IntKind.i64 p, Value.int IntKind.i64 e])) : Array Value) = #[Value.pointer (some { block := bE, off := 0 }), Value.iface 74 (Value.agg #[Value.int IntKind.i64 p, Value.int IntKind.i64 e]), Value.iface 74 (Value.agg #[Value.int IntKind.i64 p, Value.int IntKind.i64 e]), undef, undef, undef, undef, undef] from rfl]
  clear hu
  have ha := assertF
  have hf := fieldE
  go_wp2
  simp [bodyPostS, results, Tryz.results20]
theorem widleG (bE : Nat) (w : World) :
    CallsD Tryz.prog 20 #[.pointer (some ⟨bE, 0, none⟩)] .returning w fun en u' w' => en = .returned (.tuple #[]) ∧ u' = .returning ∧ w' = w := by
  refine callsD_of_wpS Tryz.func20 rfl fun c₀ cs hu => ?_
  apply wpS_seq
  apply wpS_region
  simp [wpOpsS, go_sem, recoverD, hu, Tryz.ntmps20, Exit.thenS]
  refine wpS_of_wp ?_
  rw [show (#[Value.pointer (some { block := bE, off := 0 })] ++
          ((Array.replicate 7 undef).setIfInBounds 1 Value.nilIface).setIfInBounds 0 Value.nilIface : Array Value) = #[Value.pointer (some { block := bE, off := 0 }), .nilIface, .nilIface, undef, undef, undef, undef, undef] from rfl]
  go_wp2
  cases c₀
  simp_all [bodyPostS, results, Tryz.results20]
set_option maxRecDepth 100000 in
set_option maxHeartbeats 1000000 in
theorem writtenG_any (ta : Option Addr) (n tc : Nat) (ex : Bool) (w : World) (hT : Tab w) (R : Except Nat (List Int))
    (HC : ∀ (W : World) (b B : Nat), WS b B W [] → Grew w W → w.heap.size ≤ b → Calls Tryz.prog 11 #[.pointer (some ⟨b, 0, none⟩), .agg #[.slice ta n tc, .bool ex]] W (WAns b B W [] R)) :
    Calls Tryz.prog 10 #[.agg #[.slice ta n tc, .bool ex], .func (.func 11) #[] #[]] w (PAns w R) := by
  have hmf : ∀ (fn : Fn) (first cap : Array Value) (w : World), (Instr.makeFunc fn first cap).run Tryz.prog w = .ok (.func fn first cap) w := fun _ _ _ _ => rfl
  have HT : Hid (Tab w) := hT
  have hpos := hT.pos
  have HCC : Hid (∀ (W : World) (b B : Nat), WS b B W [] → Grew w W → w.heap.size ≤ b → Calls Tryz.prog 11 #[.pointer (some ⟨b, 0, none⟩), .agg #[.slice ta n tc, .bool ex]] W (WAns b B W [] R)) := HC
  clear hT HC
  go_enter_defers Tryz.func10, Tryz.ntmps10
  go_wp2_with fail
  generalize hW : ((w.alloc (Obj.cells #[Value.slice ta n tc, Value.bool ex] 24)).alloc (Obj.cells #[Value.int IntKind.i64 0] 39)).alloc (Obj.cells #[Value.slice none 0 0] 76) = W
  have G0 : Hid (Grew w W) := by rw [← hW]; exact (((Grew.refl w).alloc _).alloc _).alloc _
  obtain ⟨X0, E0, o0⟩ : Hid (W.heap[w.heap.size]? = some (.cells #[.slice ta n tc, .bool ex] 24 (0, 0))) ∧ Hid (W.heap[w.heap.size + 1]? = some (ic 0 39)) ∧ W.heap[w.heap.size + 1 + 1]? = some (wob (.slice none 0 0)) := by
    rw [← hW]
    exact heap_three _ _ _ _
  have hsz : W.heap.size = w.heap.size + 1 + 1 + 1 := by rw [← hW]; simp
  have S0 : Hid (WS (w.heap.size + 1 + 1) (w.heap.size + 1 + 1 + 1) W []) := ⟨⟨_, o0, World.ownsRow_nil _ _ _ _⟩, by omega, by omega, HT.out.grew G0.out, by omega, by omega⟩
  clear hW o0
  have V := HCC.out W _ _ S0.out G0.out (by omega)
  cases R with
  | error e =>
    refine V.mono ?_
    rintro en w2 ⟨⟨p, rfl⟩, t2⟩
    have g2 : Grew w w2 := (t2.turn (G0.out.turn _) (by omega)).grew (Grew.refl w) (by intro y hy; simp at hy; omega)
    have E3 := t2.other E0.out (by omega) (by omega)
    have c0 := cell_of E3 0
    simp [ic] at c0
    clear V t2
    unfold flt
    go_wp2_with fail
    refine leaves_cons (f := 20) (args := #[.pointer (some ⟨w.heap.size + 1, 0, none⟩)]) (by simp) (by simp [go_sem]) ?_
    refine (wcaughtG _ p e 0 [] _ E3).mono ?_
    rintro en u' w4 ⟨rfl, rfl, rfl⟩
    simp [Leaves, settle, results, Tryz.results10, go_sem, c0]
    exact ⟨rfl, g2.set (p := ⟨w.heap.size + 1, 0, none⟩) (by simp) _⟩
  | ok m =>
    refine V.mono ?_
    rintro en w2 ⟨rfl, t2, s2⟩
    have G2 : Hid (Grew w w2) := (t2.turn (G0.out.turn _) (by omega)).grew (Grew.refl w) (by intro y hy; simp at hy; omega)
    have E3 : Hid (w2.heap[w.heap.size + 1]? = some (ic 0 39)) := t2.other E0.out (by omega) (by omega)
    obtain ⟨o, ho, hw⟩ := s2.ex
    obtain ⟨oa, oc, rfl⟩ := row_one hw
    have q0 := cell_of ho 0
    have c0 := cell_of E3.out 0
    have y4 := free_of E3.out 0
    simp [ic] at c0
    simp at q0
    have rw1 : w2.ownsRow (w.heap.size + 1 + 1 + 1) 5 1 (.slice oa m.length oc) m.length (U8 m) := by simpa using hw
    have RW : Hid (w2.ownsRow (w.heap.size + 1 + 1 + 1) 5 1 (.slice oa m.length oc) m.length (U8 m)) := rw1
    clear rw1
    clear V t2 s2 ho hw
    go_wp2_with fail
    refine leaves_cons (f := 20) (args := #[.pointer (some ⟨w.heap.size + 1, 0, none⟩)]) (by simp) (by simp [go_sem]) ?_
    refine (widleG _ _).mono ?_
    rintro en u' w5 ⟨rfl, rfl, rfl⟩
    simp [Leaves, settle, results, Tryz.results10, go_sem, c0]
    exact ⟨_, rfl, row_low (row_set RW.out (NoT.of (t := 39) E3.out (by decide)) _) (by omega), G2.out.set (p := ⟨w.heap.size + 1, 0, none⟩) (by simp) _⟩
set_option maxRecDepth 100000 in
set_option maxHeartbeats 1000000 in
theorem putRec_any (w : World) (hT : Tab w) (tv : Value) (ts : List SB) (ex : Bool) (hv : LS w tv ts) (hsm : ∀ x ∈ ts, smallS x) :
    Calls Tryz.prog 4 #[.agg #[tv, .bool ex]] w (PAns w (recW ⟨ts, ex⟩)) := by
  obtain ⟨ta, tc, rfl, _, _⟩ := hv.one
  have C := writtenG_any ta ts.length tc ex (w.alloc (.cells #[.slice ta ts.length tc, .bool ex] 24)) (hT.grew ((Grew.refl w).alloc _)) (recW ⟨ts, ex⟩) (fun W b B hS g hb => W2.wans (recType2 hS (((Grew.refl w).alloc _).trans g) (by rw [alloc_size] at hb; omega) _ ts ex hv hsm (by simp)))
  clear hT hv hsm
  generalize recW ⟨ts, ex⟩ = R at *
  go_enter Tryz.func4, Tryz.ntmps4
  go_wp2_with fail
  refine C.mono ?_
  intro en w1 ha
  clear C
  cases R with
  | error e =>
    obtain ⟨rfl, g1⟩ := ha
    have G1 : Hid (Grew w w1) := ((Grew.refl w).alloc _).trans g1
    clear g1
    go_wp2_with fail
    go_ret2
    exact ⟨rfl, G1.out⟩
  | ok m =>
    obtain ⟨rv, rfl, r1, g1⟩ := ha
    have G1 : Hid (Grew w w1) := ((Grew.refl w).alloc _).trans g1
    have R1 : Hid (w1.ownsRow w.heap.size 5 1 rv m.length (U8 m)) := row_low r1 (by rw [alloc_size]; omega)
    obtain ⟨ra, rc, rfl⟩ := row_one r1
    clear g1 r1
    go_wp2_with fail
    go_ret2
    exact ⟨_, rfl, R1.out, G1.out⟩
end Go.Proofs.YtchehejjdinifaaGreatDoor
