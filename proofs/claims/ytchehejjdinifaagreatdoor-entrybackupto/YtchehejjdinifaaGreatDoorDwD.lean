/-
  Tables' and globals' types, written by the document and by the program; no statement is proved here.
-/
import Derived.Test.YtchehejjdinifaaGreatDoorDwC
import Derived.Test.YtchehejjdinifaaGreatDoorWrT
namespace Go.Proofs.YtchehejjdinifaaGreatDoor
open Go.RowKit
set_option linter.unusedVariables false
set_option linter.unusedSimpArgs false
set_option linter.constructorNameAsVariable false

set_option maxRecDepth 100000 in
set_option maxHeartbeats 1000000 in
theorem tag2 {b B : Nat} {w : World} {l : List Int} (h : WS b B w l) (n : Int) (hl : l.length ≤ 17592186044000) :
    Calls Tryz.prog 56 #[.pointer (some ⟨b, 0, none⟩), .int .i64 n] w (W2 b B w l (tagW n)) := by
  have H : Hid (WS b B w l) := h
  have hb : b < w.heap.size := h.blt
  clear h
  have C1 : Hid (∀ w1, WS b B w1 (l ++ [0]) → Calls Tryz.prog 52 #[.pointer (some ⟨b, 0, none⟩), .int .i64 n] w1 (W2 b B w1 (l ++ [0]) (uidxW n))) := fun w1 u => index2 u n (by simp; omega)
  unfold tagW
  generalize uidxW n = R1 at *
  cases hx : R1 with
  | error e =>
    have S0 : Hid (WS b B w l) := H.out
    have T0 : Hid (WT b B w w) := WT.refl _ _ _
    go_enter Tryz.func56, Tryz.ntmps56
    go_wp2_with fail
    refine (W2.okc (put2 (r := [0]) (S0.out.grew ((Grew.refl _).alloc _)) (reads_new _ _ _) (by simp; omega)) rfl).mono ?_
    rintro en w1 ⟨rfl, t1, s1⟩
    have T1 : Hid (WT b B w w1) := (T0.out.trans (WT.of_grew ((Grew.refl _).alloc _))).trans t1
    have S1 : Hid (WS b B w1 (l ++ [0])) := s1
    clear t1 s1 T0 S0
    go_wp2_with fail
    refine (W2.erc (C1.out _ S1.out) hx).mono ?_
    rintro en w2 ⟨⟨p, rfl⟩, t2⟩
    have T2 : Hid (WT b B w w2) := T1.out.trans t2
    clear t2
    go_wp2_with fail
    exact ⟨rfl, ⟨p, rfl⟩, T2.out⟩
  | ok m =>
    have S0 : Hid (WS b B w l) := H.out
    have T0 : Hid (WT b B w w) := WT.refl _ _ _
    go_enter Tryz.func56, Tryz.ntmps56
    go_wp2_with fail
    refine (W2.okc (put2 (r := [0]) (S0.out.grew ((Grew.refl _).alloc _)) (reads_new _ _ _) (by simp; omega)) rfl).mono ?_
    rintro en w1 ⟨rfl, t1, s1⟩
    have T1 : Hid (WT b B w w1) := (T0.out.trans (WT.of_grew ((Grew.refl _).alloc _))).trans t1
    have S1 : Hid (WS b B w1 (l ++ [0])) := s1
    clear t1 s1 T0 S0
    go_wp2_with fail
    refine (W2.okc (C1.out _ S1.out) hx).mono ?_
    rintro en w2 ⟨rfl, t2, s2⟩
    have T2 : Hid (WT b B w w2) := T1.out.trans t2
    have S2 : Hid (WS b B w2 ((l ++ [0]) ++ m)) := s2
    clear t2 s2 T1 S1
    go_wp2_with fail
    go_end0
    exact ⟨rfl, T2.out, by have := S2.out; simpa [List.append_assoc] using this⟩
set_option maxRecDepth 100000 in
set_option maxHeartbeats 1000000 in
theorem pl_tt {b B : Nat} {w : World} {l : List Int} (h : WS b B w l) (mn : Int) (hn0 : 0 ≤ mn) (hn1 : mn ≤ 18446744073709551615) (mx : Int) (hx0 : 0 ≤ mx) (hx1 : mx ≤ 18446744073709551615) (hl : l.length ≤ 17592186044000) :
    Calls Tryz.prog 54 #[.pointer (some ⟨b, 0, none⟩), .agg #[.bool true, .int .u64 mn, .int .u64 mx, .bool true]] w (W2 b B w l (limW true mn mx true)) := by
  have H : Hid (WS b B w l) := h
  have hb : b < w.heap.size := h.blt
  clear h
  have E : limW true mn mx true = .ok (5 :: (PU mn ++ PU mx)) := by rw [limW, if_pos (by simp)]; simp
  rw [E]
  clear E
  have S0 : Hid (WS b B (w.alloc (.cells #[.bool true, .int .u64 mn, .int .u64 mx, .bool true] 29)) l) := H.out.grew ((Grew.refl w).alloc _)
  have T0 : Hid (WT b B w (w.alloc (.cells #[.bool true, .int .u64 mn, .int .u64 mx, .bool true] 29))) := WT.of_grew ((Grew.refl w).alloc _)
  have N0 : Hid ((w.alloc (.cells #[.bool true, .int .u64 mn, .int .u64 mx, .bool true] 29)).heap[w.heap.size]? = some (.cells #[.bool true, .int .u64 mn, .int .u64 mx, .bool true] 29 (0, 0))) := heap_alloc_last _ _
  go_enter Tryz.func54, Tryz.ntmps54
  go_wp2_with fail
  refine (need_yes S0.out).mono ?_
  rintro en w9 ⟨rfl, h9⟩
  obtain rfl := h9.symm
  clear h9
  go_wp2_with fail
  refine (need_yes S0.out).mono ?_
  rintro en w9 ⟨rfl, h9⟩
  obtain rfl := h9.symm
  clear h9
  go_wp2_with fail
  refine (W2.okc (put2 (r := [5]) (S0.out.grew ((Grew.refl _).alloc _)) (by have hrd := reads_new (w.alloc (.cells #[.bool true, .int .u64 mn, .int .u64 mx, .bool true] 29)) 5 5; rw [alloc_size] at hrd; exact hrd) (by simp; omega)) rfl).mono ?_
  rintro en w1 ⟨rfl, t1, s1⟩
  have T1 : Hid (WT b B w w1) := (T0.out.trans (WT.of_grew ((Grew.refl _).alloc _))).trans t1
  have S1 : Hid (WS b B w1 (l ++ [5])) := s1
  have N1 : Hid (w1.heap[w.heap.size]? = some (.cells #[.bool true, .int .u64 mn, .int .u64 mx, .bool true] 29 (0, 0))) := t1.other (heap_alloc N0.out _) (by simp; omega) (NoT.of (heap_alloc N0.out _) (by decide))
  clear t1 s1 T0 S0 N0
  have n0_1 := cell_of N1.out 0
  have n1_1 := cell_of N1.out 1
  have n2_1 := cell_of N1.out 2
  have n3_1 := cell_of N1.out 3
  simp at n0_1 n1_1 n2_1 n3_1
  go_wp2_with fail
  refine (W2.okc (unsigned2 S1.out mn (by simp; omega) hn0 hn1) rfl).mono ?_
  rintro en w2 ⟨rfl, t2, s2⟩
  have T2 : Hid (WT b B w w2) := T1.out.trans t2
  have S2 : Hid (WS b B w2 ((l ++ [5]) ++ PU mn)) := s2
  have N2 : Hid (w2.heap[w.heap.size]? = some (.cells #[.bool true, .int .u64 mn, .int .u64 mx, .bool true] 29 (0, 0))) := t2.other N1.out (by simp; omega) (NoT.of N1.out (by decide))
  clear t2 s2 T1 S1 N1
  have n0_2 := cell_of N2.out 0
  have n1_2 := cell_of N2.out 1
  have n2_2 := cell_of N2.out 2
  have n3_2 := cell_of N2.out 3
  simp at n0_2 n1_2 n2_2 n3_2
  go_wp2_with fail
  refine (W2.okc (unsigned2 S2.out mx (by have := PU_len mn; simp; omega) hx0 hx1) rfl).mono ?_
  rintro en w3 ⟨rfl, t3, s3⟩
  have T3 : Hid (WT b B w w3) := T2.out.trans t3
  have S3 : Hid (WS b B w3 (((l ++ [5]) ++ PU mn) ++ PU mx)) := s3
  have N3 : Hid (w3.heap[w.heap.size]? = some (.cells #[.bool true, .int .u64 mn, .int .u64 mx, .bool true] 29 (0, 0))) := t3.other N2.out (by simp; omega) (NoT.of N2.out (by decide))
  clear t3 s3 T2 S2 N2
  go_wp2_with fail
  go_end0
  exact ⟨rfl, T3.out, by have := S3.out; simpa [List.append_assoc] using this⟩
set_option maxRecDepth 100000 in
set_option maxHeartbeats 1000000 in
theorem pl_tf0 {b B : Nat} {w : World} {l : List Int} (h : WS b B w l) (mn : Int) (hn0 : 0 ≤ mn) (hn1 : mn ≤ 18446744073709551615) (hl : l.length ≤ 17592186044000) :
    Calls Tryz.prog 54 #[.pointer (some ⟨b, 0, none⟩), .agg #[.bool true, .int .u64 mn, .int .u64 0, .bool false]] w (W2 b B w l (limW true mn 0 false)) := by
  have H : Hid (WS b B w l) := h
  have hb : b < w.heap.size := h.blt
  clear h
  have E : limW true mn 0 false = .ok (4 :: (PU mn ++ [])) := by rw [limW, if_pos (by simp)]; simp
  rw [E]
  clear E
  have S0 : Hid (WS b B (w.alloc (.cells #[.bool true, .int .u64 mn, .int .u64 0, .bool false] 29)) l) := H.out.grew ((Grew.refl w).alloc _)
  have T0 : Hid (WT b B w (w.alloc (.cells #[.bool true, .int .u64 mn, .int .u64 0, .bool false] 29))) := WT.of_grew ((Grew.refl w).alloc _)
  have N0 : Hid ((w.alloc (.cells #[.bool true, .int .u64 mn, .int .u64 0, .bool false] 29)).heap[w.heap.size]? = some (.cells #[.bool true, .int .u64 mn, .int .u64 0, .bool false] 29 (0, 0))) := heap_alloc_last _ _
  go_enter Tryz.func54, Tryz.ntmps54
  go_wp2_with fail
  refine (need_yes S0.out).mono ?_
  rintro en w9 ⟨rfl, h9⟩
  obtain rfl := h9.symm
  clear h9
  go_wp2_with fail
  refine (need_yes S0.out).mono ?_
  rintro en w9 ⟨rfl, h9⟩
  obtain rfl := h9.symm
  clear h9
  go_wp2_with fail
  refine (W2.okc (put2 (r := [4]) (S0.out.grew ((Grew.refl _).alloc _)) (by have hrd := reads_new (w.alloc (.cells #[.bool true, .int .u64 mn, .int .u64 0, .bool false] 29)) 4 5; rw [alloc_size] at hrd; exact hrd) (by simp; omega)) rfl).mono ?_
  rintro en w1 ⟨rfl, t1, s1⟩
  have T1 : Hid (WT b B w w1) := (T0.out.trans (WT.of_grew ((Grew.refl _).alloc _))).trans t1
  have S1 : Hid (WS b B w1 (l ++ [4])) := s1
  have N1 : Hid (w1.heap[w.heap.size]? = some (.cells #[.bool true, .int .u64 mn, .int .u64 0, .bool false] 29 (0, 0))) := t1.other (heap_alloc N0.out _) (by simp; omega) (NoT.of (heap_alloc N0.out _) (by decide))
  clear t1 s1 T0 S0 N0
  have n0_1 := cell_of N1.out 0
  have n1_1 := cell_of N1.out 1
  have n2_1 := cell_of N1.out 2
  have n3_1 := cell_of N1.out 3
  simp at n0_1 n1_1 n2_1 n3_1
  go_wp2_with fail
  refine (W2.okc (unsigned2 S1.out mn (by simp; omega) hn0 hn1) rfl).mono ?_
  rintro en w2 ⟨rfl, t2, s2⟩
  have T2 : Hid (WT b B w w2) := T1.out.trans t2
  have S2 : Hid (WS b B w2 ((l ++ [4]) ++ PU mn)) := s2
  have N2 : Hid (w2.heap[w.heap.size]? = some (.cells #[.bool true, .int .u64 mn, .int .u64 0, .bool false] 29 (0, 0))) := t2.other N1.out (by simp; omega) (NoT.of N1.out (by decide))
  clear t2 s2 T1 S1 N1
  have n0_2 := cell_of N2.out 0
  have n1_2 := cell_of N2.out 1
  have n2_2 := cell_of N2.out 2
  have n3_2 := cell_of N2.out 3
  simp at n0_2 n1_2 n2_2 n3_2
  go_wp2_with fail
  go_end0
  exact ⟨rfl, T2.out, by have := S2.out; simpa [List.append_assoc] using this⟩
set_option maxRecDepth 100000 in
set_option maxHeartbeats 1000000 in
theorem pl_tf1 {b B : Nat} {w : World} {l : List Int} (h : WS b B w l) (mn : Int) (hn0 : 0 ≤ mn) (hn1 : mn ≤ 18446744073709551615) (mx : Int) (hx0 : 0 ≤ mx) (hx1 : mx ≤ 18446744073709551615) (hm0 : mx ≠ 0) (hl : l.length ≤ 17592186044000) :
    Calls Tryz.prog 54 #[.pointer (some ⟨b, 0, none⟩), .agg #[.bool true, .int .u64 mn, .int .u64 mx, .bool false]] w (W2 b B w l (limW true mn mx false)) := by
  have H : Hid (WS b B w l) := h
  have hb : b < w.heap.size := h.blt
  clear h
  have d3 : (mx == 0) = false := by simpa using hm0
  have E : limW true mn mx false = .error 4 := by rw [limW, if_neg (by simp; omega)]
  rw [E]
  clear E
  have S0 : Hid (WS b B (w.alloc (.cells #[.bool true, .int .u64 mn, .int .u64 mx, .bool false] 29)) l) := H.out.grew ((Grew.refl w).alloc _)
  have T0 : Hid (WT b B w (w.alloc (.cells #[.bool true, .int .u64 mn, .int .u64 mx, .bool false] 29))) := WT.of_grew ((Grew.refl w).alloc _)
  have N0 : Hid ((w.alloc (.cells #[.bool true, .int .u64 mn, .int .u64 mx, .bool false] 29)).heap[w.heap.size]? = some (.cells #[.bool true, .int .u64 mn, .int .u64 mx, .bool false] 29 (0, 0))) := heap_alloc_last _ _
  go_enter Tryz.func54, Tryz.ntmps54
  go_wp2_with fail
  refine (need_no S0.out).mono ?_
  rintro en w9 ⟨⟨p, rfl⟩, h9⟩
  obtain rfl := h9.symm
  go_wp2_with fail
  exact ⟨rfl, ⟨p, rfl⟩, T0.out⟩
set_option maxRecDepth 100000 in
set_option maxHeartbeats 1000000 in
theorem pl_ff1 {b B : Nat} {w : World} {l : List Int} (h : WS b B w l) (mn : Int) (hn0 : 0 ≤ mn) (hn1 : mn ≤ 18446744073709551615) (mx : Int) (hx0 : 0 ≤ mx) (hx1 : mx ≤ 18446744073709551615) (hm0 : mx ≠ 0) (hl : l.length ≤ 17592186044000) :
    Calls Tryz.prog 54 #[.pointer (some ⟨b, 0, none⟩), .agg #[.bool false, .int .u64 mn, .int .u64 mx, .bool false]] w (W2 b B w l (limW false mn mx false)) := by
  have H : Hid (WS b B w l) := h
  have hb : b < w.heap.size := h.blt
  clear h
  have d3 : (mx == 0) = false := by simpa using hm0
  have E : limW false mn mx false = .error 4 := by rw [limW, if_neg (by simp; omega)]
  rw [E]
  clear E
  have S0 : Hid (WS b B (w.alloc (.cells #[.bool false, .int .u64 mn, .int .u64 mx, .bool false] 29)) l) := H.out.grew ((Grew.refl w).alloc _)
  have T0 : Hid (WT b B w (w.alloc (.cells #[.bool false, .int .u64 mn, .int .u64 mx, .bool false] 29))) := WT.of_grew ((Grew.refl w).alloc _)
  have N0 : Hid ((w.alloc (.cells #[.bool false, .int .u64 mn, .int .u64 mx, .bool false] 29)).heap[w.heap.size]? = some (.cells #[.bool false, .int .u64 mn, .int .u64 mx, .bool false] 29 (0, 0))) := heap_alloc_last _ _
  go_enter Tryz.func54, Tryz.ntmps54
  go_wp2_with fail
  refine (need_no S0.out).mono ?_
  rintro en w9 ⟨⟨p, rfl⟩, h9⟩
  obtain rfl := h9.symm
  go_wp2_with fail
  exact ⟨rfl, ⟨p, rfl⟩, T0.out⟩
set_option maxRecDepth 100000 in
set_option maxHeartbeats 1000000 in
theorem pl_ftgs {b B : Nat} {w : World} {l : List Int} (h : WS b B w l) (mn : Int) (hn0 : 0 ≤ mn) (hn1 : mn ≤ 18446744073709551615) (mx : Int) (hx0 : 0 ≤ mx) (hx1 : mx ≤ 18446744073709551615) (hmn : mn ≤ 4294967295) (hmx : mx ≤ 4294967295) (hl : l.length ≤ 17592186044000) :
    Calls Tryz.prog 54 #[.pointer (some ⟨b, 0, none⟩), .agg #[.bool false, .int .u64 mn, .int .u64 mx, .bool true]] w (W2 b B w l (limW false mn mx true)) := by
  have H : Hid (WS b B w l) := h
  have hb : b < w.heap.size := h.blt
  clear h
  have d1 : decide (mn ≤ 4294967295) = true := by simp; omega
  have d2 : decide (mx ≤ 4294967295) = true := by simp; omega
  have E : limW false mn mx true = .ok (1 :: (PU mn ++ PU mx)) := by rw [limW, if_pos (by simp; omega)]; simp
  rw [E]
  clear E
  have S0 : Hid (WS b B (w.alloc (.cells #[.bool false, .int .u64 mn, .int .u64 mx, .bool true] 29)) l) := H.out.grew ((Grew.refl w).alloc _)
  have T0 : Hid (WT b B w (w.alloc (.cells #[.bool false, .int .u64 mn, .int .u64 mx, .bool true] 29))) := WT.of_grew ((Grew.refl w).alloc _)
  have N0 : Hid ((w.alloc (.cells #[.bool false, .int .u64 mn, .int .u64 mx, .bool true] 29)).heap[w.heap.size]? = some (.cells #[.bool false, .int .u64 mn, .int .u64 mx, .bool true] 29 (0, 0))) := heap_alloc_last _ _
  go_enter Tryz.func54, Tryz.ntmps54
  go_wp2_with fail
  refine (need_yes S0.out).mono ?_
  rintro en w9 ⟨rfl, h9⟩
  obtain rfl := h9.symm
  clear h9
  go_wp2_with fail
  refine (need_yes S0.out).mono ?_
  rintro en w9 ⟨rfl, h9⟩
  obtain rfl := h9.symm
  clear h9
  go_wp2_with fail
  refine (W2.okc (put2 (r := [1]) (S0.out.grew ((Grew.refl _).alloc _)) (by have hrd := reads_new (w.alloc (.cells #[.bool false, .int .u64 mn, .int .u64 mx, .bool true] 29)) 1 5; rw [alloc_size] at hrd; exact hrd) (by simp; omega)) rfl).mono ?_
  rintro en w1 ⟨rfl, t1, s1⟩
  have T1 : Hid (WT b B w w1) := (T0.out.trans (WT.of_grew ((Grew.refl _).alloc _))).trans t1
  have S1 : Hid (WS b B w1 (l ++ [1])) := s1
  have N1 : Hid (w1.heap[w.heap.size]? = some (.cells #[.bool false, .int .u64 mn, .int .u64 mx, .bool true] 29 (0, 0))) := t1.other (heap_alloc N0.out _) (by simp; omega) (NoT.of (heap_alloc N0.out _) (by decide))
  clear t1 s1 T0 S0 N0
  have n0_1 := cell_of N1.out 0
  have n1_1 := cell_of N1.out 1
  have n2_1 := cell_of N1.out 2
  have n3_1 := cell_of N1.out 3
  simp at n0_1 n1_1 n2_1 n3_1
  go_wp2_with fail
  refine (W2.okc (unsigned2 S1.out mn (by simp; omega) hn0 hn1) rfl).mono ?_
  rintro en w2 ⟨rfl, t2, s2⟩
  have T2 : Hid (WT b B w w2) := T1.out.trans t2
  have S2 : Hid (WS b B w2 ((l ++ [1]) ++ PU mn)) := s2
  have N2 : Hid (w2.heap[w.heap.size]? = some (.cells #[.bool false, .int .u64 mn, .int .u64 mx, .bool true] 29 (0, 0))) := t2.other N1.out (by simp; omega) (NoT.of N1.out (by decide))
  clear t2 s2 T1 S1 N1
  have n0_2 := cell_of N2.out 0
  have n1_2 := cell_of N2.out 1
  have n2_2 := cell_of N2.out 2
  have n3_2 := cell_of N2.out 3
  simp at n0_2 n1_2 n2_2 n3_2
  go_wp2_with fail
  refine (W2.okc (unsigned2 S2.out mx (by have := PU_len mn; simp; omega) hx0 hx1) rfl).mono ?_
  rintro en w3 ⟨rfl, t3, s3⟩
  have T3 : Hid (WT b B w w3) := T2.out.trans t3
  have S3 : Hid (WS b B w3 (((l ++ [1]) ++ PU mn) ++ PU mx)) := s3
  have N3 : Hid (w3.heap[w.heap.size]? = some (.cells #[.bool false, .int .u64 mn, .int .u64 mx, .bool true] 29 (0, 0))) := t3.other N2.out (by simp; omega) (NoT.of N2.out (by decide))
  clear t3 s3 T2 S2 N2
  go_wp2_with fail
  go_end0
  exact ⟨rfl, T3.out, by have := S3.out; simpa [List.append_assoc] using this⟩
set_option maxRecDepth 100000 in
set_option maxHeartbeats 1000000 in
theorem pl_ftgb {b B : Nat} {w : World} {l : List Int} (h : WS b B w l) (mn : Int) (hn0 : 0 ≤ mn) (hn1 : mn ≤ 18446744073709551615) (mx : Int) (hx0 : 0 ≤ mx) (hx1 : mx ≤ 18446744073709551615) (hmn : mn ≤ 4294967295) (hmx : 4294967295 < mx) (hl : l.length ≤ 17592186044000) :
    Calls Tryz.prog 54 #[.pointer (some ⟨b, 0, none⟩), .agg #[.bool false, .int .u64 mn, .int .u64 mx, .bool true]] w (W2 b B w l (limW false mn mx true)) := by
  have H : Hid (WS b B w l) := h
  have hb : b < w.heap.size := h.blt
  clear h
  have d1 : decide (mn ≤ 4294967295) = true := by simp; omega
  have d2 : decide (mx ≤ 4294967295) = false := by simp; omega
  have E : limW false mn mx true = .error 4 := by rw [limW, if_neg (by simp; omega)]
  rw [E]
  clear E
  have S0 : Hid (WS b B (w.alloc (.cells #[.bool false, .int .u64 mn, .int .u64 mx, .bool true] 29)) l) := H.out.grew ((Grew.refl w).alloc _)
  have T0 : Hid (WT b B w (w.alloc (.cells #[.bool false, .int .u64 mn, .int .u64 mx, .bool true] 29))) := WT.of_grew ((Grew.refl w).alloc _)
  have N0 : Hid ((w.alloc (.cells #[.bool false, .int .u64 mn, .int .u64 mx, .bool true] 29)).heap[w.heap.size]? = some (.cells #[.bool false, .int .u64 mn, .int .u64 mx, .bool true] 29 (0, 0))) := heap_alloc_last _ _
  go_enter Tryz.func54, Tryz.ntmps54
  go_wp2_with fail
  refine (need_yes S0.out).mono ?_
  rintro en w9 ⟨rfl, h9⟩
  obtain rfl := h9.symm
  clear h9
  go_wp2_with fail
  refine (need_no S0.out).mono ?_
  rintro en w9 ⟨⟨p, rfl⟩, h9⟩
  obtain rfl := h9.symm
  go_wp2_with fail
  exact ⟨rfl, ⟨p, rfl⟩, T0.out⟩
set_option maxRecDepth 100000 in
set_option maxHeartbeats 1000000 in
theorem pl_ftb {b B : Nat} {w : World} {l : List Int} (h : WS b B w l) (mn : Int) (hn0 : 0 ≤ mn) (hn1 : mn ≤ 18446744073709551615) (mx : Int) (hx0 : 0 ≤ mx) (hx1 : mx ≤ 18446744073709551615) (hmn : 4294967295 < mn) (hl : l.length ≤ 17592186044000) :
    Calls Tryz.prog 54 #[.pointer (some ⟨b, 0, none⟩), .agg #[.bool false, .int .u64 mn, .int .u64 mx, .bool true]] w (W2 b B w l (limW false mn mx true)) := by
  have H : Hid (WS b B w l) := h
  have hb : b < w.heap.size := h.blt
  clear h
  have d1 : decide (mn ≤ 4294967295) = false := by simp; omega
  have E : limW false mn mx true = .error 4 := by rw [limW, if_neg (by simp; omega)]
  rw [E]
  clear E
  have S0 : Hid (WS b B (w.alloc (.cells #[.bool false, .int .u64 mn, .int .u64 mx, .bool true] 29)) l) := H.out.grew ((Grew.refl w).alloc _)
  have T0 : Hid (WT b B w (w.alloc (.cells #[.bool false, .int .u64 mn, .int .u64 mx, .bool true] 29))) := WT.of_grew ((Grew.refl w).alloc _)
  have N0 : Hid ((w.alloc (.cells #[.bool false, .int .u64 mn, .int .u64 mx, .bool true] 29)).heap[w.heap.size]? = some (.cells #[.bool false, .int .u64 mn, .int .u64 mx, .bool true] 29 (0, 0))) := heap_alloc_last _ _
  go_enter Tryz.func54, Tryz.ntmps54
  go_wp2_with fail
  refine (need_yes S0.out).mono ?_
  rintro en w9 ⟨rfl, h9⟩
  obtain rfl := h9.symm
  clear h9
  go_wp2_with fail
  refine (need_no S0.out).mono ?_
  rintro en w9 ⟨⟨p, rfl⟩, h9⟩
  obtain rfl := h9.symm
  go_wp2_with fail
  exact ⟨rfl, ⟨p, rfl⟩, T0.out⟩
set_option maxRecDepth 100000 in
set_option maxHeartbeats 1000000 in
theorem pl_ffg0 {b B : Nat} {w : World} {l : List Int} (h : WS b B w l) (mn : Int) (hn0 : 0 ≤ mn) (hn1 : mn ≤ 18446744073709551615) (hmn : mn ≤ 4294967295) (hl : l.length ≤ 17592186044000) :
    Calls Tryz.prog 54 #[.pointer (some ⟨b, 0, none⟩), .agg #[.bool false, .int .u64 mn, .int .u64 0, .bool false]] w (W2 b B w l (limW false mn 0 false)) := by
  have H : Hid (WS b B w l) := h
  have hb : b < w.heap.size := h.blt
  clear h
  have d1 : decide (mn ≤ 4294967295) = true := by simp; omega
  have E : limW false mn 0 false = .ok (0 :: (PU mn ++ [])) := by rw [limW, if_pos (by simp; omega)]; simp
  rw [E]
  clear E
  have S0 : Hid (WS b B (w.alloc (.cells #[.bool false, .int .u64 mn, .int .u64 0, .bool false] 29)) l) := H.out.grew ((Grew.refl w).alloc _)
  have T0 : Hid (WT b B w (w.alloc (.cells #[.bool false, .int .u64 mn, .int .u64 0, .bool false] 29))) := WT.of_grew ((Grew.refl w).alloc _)
  have N0 : Hid ((w.alloc (.cells #[.bool false, .int .u64 mn, .int .u64 0, .bool false] 29)).heap[w.heap.size]? = some (.cells #[.bool false, .int .u64 mn, .int .u64 0, .bool false] 29 (0, 0))) := heap_alloc_last _ _
  go_enter Tryz.func54, Tryz.ntmps54
  go_wp2_with fail
  refine (need_yes S0.out).mono ?_
  rintro en w9 ⟨rfl, h9⟩
  obtain rfl := h9.symm
  clear h9
  go_wp2_with fail
  refine (need_yes S0.out).mono ?_
  rintro en w9 ⟨rfl, h9⟩
  obtain rfl := h9.symm
  clear h9
  go_wp2_with fail
  refine (W2.okc (put2 (r := [0]) (S0.out.grew ((Grew.refl _).alloc _)) (by have hrd := reads_new (w.alloc (.cells #[.bool false, .int .u64 mn, .int .u64 0, .bool false] 29)) 0 5; rw [alloc_size] at hrd; exact hrd) (by simp; omega)) rfl).mono ?_
  rintro en w1 ⟨rfl, t1, s1⟩
  have T1 : Hid (WT b B w w1) := (T0.out.trans (WT.of_grew ((Grew.refl _).alloc _))).trans t1
  have S1 : Hid (WS b B w1 (l ++ [0])) := s1
  have N1 : Hid (w1.heap[w.heap.size]? = some (.cells #[.bool false, .int .u64 mn, .int .u64 0, .bool false] 29 (0, 0))) := t1.other (heap_alloc N0.out _) (by simp; omega) (NoT.of (heap_alloc N0.out _) (by decide))
  clear t1 s1 T0 S0 N0
  have n0_1 := cell_of N1.out 0
  have n1_1 := cell_of N1.out 1
  have n2_1 := cell_of N1.out 2
  have n3_1 := cell_of N1.out 3
  simp at n0_1 n1_1 n2_1 n3_1
  go_wp2_with fail
  refine (W2.okc (unsigned2 S1.out mn (by simp; omega) hn0 hn1) rfl).mono ?_
  rintro en w2 ⟨rfl, t2, s2⟩
  have T2 : Hid (WT b B w w2) := T1.out.trans t2
  have S2 : Hid (WS b B w2 ((l ++ [0]) ++ PU mn)) := s2
  have N2 : Hid (w2.heap[w.heap.size]? = some (.cells #[.bool false, .int .u64 mn, .int .u64 0, .bool false] 29 (0, 0))) := t2.other N1.out (by simp; omega) (NoT.of N1.out (by decide))
  clear t2 s2 T1 S1 N1
  have n0_2 := cell_of N2.out 0
  have n1_2 := cell_of N2.out 1
  have n2_2 := cell_of N2.out 2
  have n3_2 := cell_of N2.out 3
  simp at n0_2 n1_2 n2_2 n3_2
  go_wp2_with fail
  go_end0
  exact ⟨rfl, T2.out, by have := S2.out; simpa [List.append_assoc] using this⟩
set_option maxRecDepth 100000 in
set_option maxHeartbeats 1000000 in
theorem pl_ffb0 {b B : Nat} {w : World} {l : List Int} (h : WS b B w l) (mn : Int) (hn0 : 0 ≤ mn) (hn1 : mn ≤ 18446744073709551615) (hmn : 4294967295 < mn) (hl : l.length ≤ 17592186044000) :
    Calls Tryz.prog 54 #[.pointer (some ⟨b, 0, none⟩), .agg #[.bool false, .int .u64 mn, .int .u64 0, .bool false]] w (W2 b B w l (limW false mn 0 false)) := by
  have H : Hid (WS b B w l) := h
  have hb : b < w.heap.size := h.blt
  clear h
  have d1 : decide (mn ≤ 4294967295) = false := by simp; omega
  have E : limW false mn 0 false = .error 4 := by rw [limW, if_neg (by simp; omega)]
  rw [E]
  clear E
  have S0 : Hid (WS b B (w.alloc (.cells #[.bool false, .int .u64 mn, .int .u64 0, .bool false] 29)) l) := H.out.grew ((Grew.refl w).alloc _)
  have T0 : Hid (WT b B w (w.alloc (.cells #[.bool false, .int .u64 mn, .int .u64 0, .bool false] 29))) := WT.of_grew ((Grew.refl w).alloc _)
  have N0 : Hid ((w.alloc (.cells #[.bool false, .int .u64 mn, .int .u64 0, .bool false] 29)).heap[w.heap.size]? = some (.cells #[.bool false, .int .u64 mn, .int .u64 0, .bool false] 29 (0, 0))) := heap_alloc_last _ _
  go_enter Tryz.func54, Tryz.ntmps54
  go_wp2_with fail
  refine (need_yes S0.out).mono ?_
  rintro en w9 ⟨rfl, h9⟩
  obtain rfl := h9.symm
  clear h9
  go_wp2_with fail
  refine (need_no S0.out).mono ?_
  rintro en w9 ⟨⟨p, rfl⟩, h9⟩
  obtain rfl := h9.symm
  go_wp2_with fail
  exact ⟨rfl, ⟨p, rfl⟩, T0.out⟩
theorem limits2 {b B : Nat} {w : World} {l : List Int} (h : WS b B w l) (wide hm : Bool) (mn mx : Int) (hn0 : 0 ≤ mn) (hn1 : mn ≤ 18446744073709551615) (hx0 : 0 ≤ mx) (hx1 : mx ≤ 18446744073709551615) (hl : l.length ≤ 17592186044000) :
    Calls Tryz.prog 54 #[.pointer (some ⟨b, 0, none⟩), .agg #[.bool wide, .int .u64 mn, .int .u64 mx, .bool hm]] w (W2 b B w l (limW wide mn mx hm)) := by
  cases hm with
  | true =>
    cases wide with
    | true => exact pl_tt h mn hn0 hn1 mx hx0 hx1 hl
    | false =>
      by_cases hmn : mn ≤ 4294967295
      · by_cases hmx : mx ≤ 4294967295
        · exact pl_ftgs h mn hn0 hn1 mx hx0 hx1 hmn hmx hl
        · exact pl_ftgb h mn hn0 hn1 mx hx0 hx1 hmn (by omega) hl
      · exact pl_ftb h mn hn0 hn1 mx hx0 hx1 (by omega) hl
  | false =>
    by_cases h0 : mx = 0
    · subst h0
      cases wide with
      | true => exact pl_tf0 h mn hn0 hn1 hl
      | false =>
        by_cases hmn : mn ≤ 4294967295
        · exact pl_ffg0 h mn hn0 hn1 hmn hl
        · exact pl_ffb0 h mn hn0 hn1 (by omega) hl
    · cases wide with
      | true => exact pl_tf1 h mn hn0 hn1 mx hx0 hx1 h0 hl
      | false => exact pl_ff1 h mn hn0 hn1 mx hx0 hx1 h0 hl
end Go.Proofs.YtchehejjdinifaaGreatDoor

namespace Go.Proofs.YtchehejjdinifaaGreatDoor
open Go.RowKit
set_option linter.unusedVariables false
set_option linter.unusedSimpArgs false
set_option linter.constructorNameAsVariable false

set_option maxRecDepth 100000 in
set_option maxHeartbeats 1000000 in
theorem pPutVal_any (w : World) (hT : Tab w) (n hp : Int) (nul : Bool) : Calls Tryz.prog 19 #[.agg #[.int .i64 n, .bool nul, .int .i64 hp]] w (PAns w (valW ⟨n, nul, hp⟩)) := by
  have C := writtenV_any n hp nul (w.alloc (.cells #[.int .i64 n, .bool nul, .int .i64 hp] 26)) (hT.grew ((Grew.refl w).alloc _)) (valW ⟨n, nul, hp⟩) (fun W b B hS _ => W2.wans (valType2 hS ⟨n, nul, hp⟩ (by simp)))
  clear hT
  generalize valW ⟨n, nul, hp⟩ = R at *
  go_enter Tryz.func19, Tryz.ntmps19
  go_wp2_with fail
  refine C.mono ?_
  intro en w1 ha
  clear C
  cases R with
  | error e =>
    obtain ⟨rfl, g1⟩ := ha
    have G1 : Hid (Grew w w1) := ((Grew.refl w).alloc _).trans g1
    clear g1
    go_wp2_with fail
    go_ret2
    exact ⟨rfl, G1.out⟩
  | ok m =>
    obtain ⟨rv, rfl, r1, g1⟩ := ha
    have G1 : Hid (Grew w w1) := ((Grew.refl w).alloc _).trans g1
    have R1 : Hid (w1.ownsRow w.heap.size 5 1 rv m.length (U8 m)) := row_low r1 (by rw [alloc_size]; omega)
    obtain ⟨ra, rc, rfl⟩ := row_one r1
    clear g1 r1
    go_wp2_with fail
    go_ret2
    exact ⟨_, rfl, R1.out, G1.out⟩
end Go.Proofs.YtchehejjdinifaaGreatDoor

namespace Go.Proofs.YtchehejjdinifaaGreatDoor
open Go.RowKit
set_option linter.unusedVariables false
set_option linter.unusedSimpArgs false
set_option linter.constructorNameAsVariable false

def tabW (v : VT) (wide : Bool) (mn mx : Int) (hm : Bool) : Except Nat (List Int) := thenW (refW v) (limW wide mn mx hm)
def gloW (v : VT) (mu : Bool) : Except Nat (List Int) := thenW (valW v) (.ok (flagB mu))
set_option maxRecDepth 100000 in
set_option maxHeartbeats 1000000 in
theorem tableType2 {b B : Nat} {w : World} {l : List Int} (h : WS b B w l) (n hp : Int) (nul wide hm : Bool) (mn mx : Int) (hm0 : 0 ≤ mn) (hm1 : mn ≤ 18446744073709551615) (hx0 : 0 ≤ mx) (hx1 : mx ≤ 18446744073709551615) (hl : l.length ≤ 17592186040000) :
    Calls Tryz.prog 53 #[.pointer (some ⟨b, 0, none⟩), .agg #[.int .i64 n, .bool nul, .int .i64 hp, .bool wide, .int .u64 mn, .int .u64 mx, .bool hm]] w (W2 b B w l (tabW ⟨n, nul, hp⟩ wide mn mx hm)) := by
  have H : Hid (WS b B w l) := h
  have hb : b < w.heap.size := h.blt
  clear h
  have C1 : Hid (∀ w1, WS b B w1 l → Calls Tryz.prog 64 #[.pointer (some ⟨b, 0, none⟩), .agg #[.int .i64 n, .bool nul, .int .i64 hp]] w1 (W2 b B w1 l (refW ⟨n, nul, hp⟩))) := fun w1 u => refType2 u ⟨n, nul, hp⟩ (by omega)
  have C2 : Hid (∀ w1 m, m.length ≤ 12 → WS b B w1 (l ++ m) → Calls Tryz.prog 54 #[.pointer (some ⟨b, 0, none⟩), .agg #[.bool wide, .int .u64 mn, .int .u64 mx, .bool hm]] w1 (W2 b B w1 (l ++ m) (limW wide mn mx hm))) := fun w1 m hm' u => limits2 u wide hm mn mx hm0 hm1 hx0 hx1 (by simp; omega)
  have HL : Hid (∀ m, refW ⟨n, nul, hp⟩ = .ok m → m.length ≤ 12) := fun m hm' => refW_len hm'
  unfold tabW
  generalize refW ⟨n, nul, hp⟩ = R1 at *
  generalize limW wide mn mx hm = R2 at *
  cases hx : R1 with
  | error e =>
    have S0 : Hid (WS b B (w.alloc (.cells #[.int .i64 n, .bool nul, .int .i64 hp, .bool wide, .int .u64 mn, .int .u64 mx, .bool hm] 31)) l) := H.out.grew ((Grew.refl w).alloc _)
    have T0 : Hid (WT b B w (w.alloc (.cells #[.int .i64 n, .bool nul, .int .i64 hp, .bool wide, .int .u64 mn, .int .u64 mx, .bool hm] 31))) := WT.of_grew ((Grew.refl w).alloc _)
    have N0 : Hid ((w.alloc (.cells #[.int .i64 n, .bool nul, .int .i64 hp, .bool wide, .int .u64 mn, .int .u64 mx, .bool hm] 31)).heap[w.heap.size]? = some (.cells #[.int .i64 n, .bool nul, .int .i64 hp, .bool wide, .int .u64 mn, .int .u64 mx, .bool hm] 31 (0, 0))) := heap_alloc_last _ _
    go_enter Tryz.func53, Tryz.ntmps53
    go_wp2_with fail
    refine (W2.erc (C1.out _ S0.out) hx).mono ?_
    rintro en w1 ⟨⟨p, rfl⟩, t1⟩
    have T1 : Hid (WT b B w w1) := T0.out.trans t1
    clear t1
    go_wp2_with fail
    exact ⟨rfl, ⟨p, rfl⟩, T1.out⟩
  | ok m =>
    have hml := HL.out m hx
    cases hy : R2 with
    | error e =>
      have S0 : Hid (WS b B (w.alloc (.cells #[.int .i64 n, .bool nul, .int .i64 hp, .bool wide, .int .u64 mn, .int .u64 mx, .bool hm] 31)) l) := H.out.grew ((Grew.refl w).alloc _)
      have T0 : Hid (WT b B w (w.alloc (.cells #[.int .i64 n, .bool nul, .int .i64 hp, .bool wide, .int .u64 mn, .int .u64 mx, .bool hm] 31))) := WT.of_grew ((Grew.refl w).alloc _)
      have N0 : Hid ((w.alloc (.cells #[.int .i64 n, .bool nul, .int .i64 hp, .bool wide, .int .u64 mn, .int .u64 mx, .bool hm] 31)).heap[w.heap.size]? = some (.cells #[.int .i64 n, .bool nul, .int .i64 hp, .bool wide, .int .u64 mn, .int .u64 mx, .bool hm] 31 (0, 0))) := heap_alloc_last _ _
      go_enter Tryz.func53, Tryz.ntmps53
      go_wp2_with fail
      refine (W2.okc (C1.out _ S0.out) hx).mono ?_
      rintro en w1 ⟨rfl, t1, s1⟩
      have T1 : Hid (WT b B w w1) := T0.out.trans t1
      have S1 : Hid (WS b B w1 (l ++ m)) := s1
      have N1 : Hid (w1.heap[w.heap.size]? = some (.cells #[.int .i64 n, .bool nul, .int .i64 hp, .bool wide, .int .u64 mn, .int .u64 mx, .bool hm] 31 (0, 0))) := t1.other N0.out (by simp; omega) (NoT.of N0.out (by decide))
      clear t1 s1 T0 S0 N0
      have n0_1 := cell_of N1.out 0
      have n1_1 := cell_of N1.out 1
      have n2_1 := cell_of N1.out 2
      have n3_1 := cell_of N1.out 3
      have n4_1 := cell_of N1.out 4
      have n5_1 := cell_of N1.out 5
      have n6_1 := cell_of N1.out 6
      simp at n0_1 n1_1 n2_1 n3_1 n4_1 n5_1 n6_1
      go_wp2_with fail
      refine (W2.erc (C2.out _ m hml S1.out) hy).mono ?_
      rintro en w2 ⟨⟨p, rfl⟩, t2⟩
      have T2 : Hid (WT b B w w2) := T1.out.trans t2
      clear t2
      go_wp2_with fail
      exact ⟨rfl, ⟨p, rfl⟩, T2.out⟩
    | ok k =>
      have S0 : Hid (WS b B (w.alloc (.cells #[.int .i64 n, .bool nul, .int .i64 hp, .bool wide, .int .u64 mn, .int .u64 mx, .bool hm] 31)) l) := H.out.grew ((Grew.refl w).alloc _)
      have T0 : Hid (WT b B w (w.alloc (.cells #[.int .i64 n, .bool nul, .int .i64 hp, .bool wide, .int .u64 mn, .int .u64 mx, .bool hm] 31))) := WT.of_grew ((Grew.refl w).alloc _)
      have N0 : Hid ((w.alloc (.cells #[.int .i64 n, .bool nul, .int .i64 hp, .bool wide, .int .u64 mn, .int .u64 mx, .bool hm] 31)).heap[w.heap.size]? = some (.cells #[.int .i64 n, .bool nul, .int .i64 hp, .bool wide, .int .u64 mn, .int .u64 mx, .bool hm] 31 (0, 0))) := heap_alloc_last _ _
      go_enter Tryz.func53, Tryz.ntmps53
      go_wp2_with fail
      refine (W2.okc (C1.out _ S0.out) hx).mono ?_
      rintro en w1 ⟨rfl, t1, s1⟩
      have T1 : Hid (WT b B w w1) := T0.out.trans t1
      have S1 : Hid (WS b B w1 (l ++ m)) := s1
      have N1 : Hid (w1.heap[w.heap.size]? = some (.cells #[.int .i64 n, .bool nul, .int .i64 hp, .bool wide, .int .u64 mn, .int .u64 mx, .bool hm] 31 (0, 0))) := t1.other N0.out (by simp; omega) (NoT.of N0.out (by decide))
      clear t1 s1 T0 S0 N0
      have n0_1 := cell_of N1.out 0
      have n1_1 := cell_of N1.out 1
      have n2_1 := cell_of N1.out 2
      have n3_1 := cell_of N1.out 3
      have n4_1 := cell_of N1.out 4
      have n5_1 := cell_of N1.out 5
      have n6_1 := cell_of N1.out 6
      simp at n0_1 n1_1 n2_1 n3_1 n4_1 n5_1 n6_1
      go_wp2_with fail
      refine (W2.okc (C2.out _ m hml S1.out) hy).mono ?_
      rintro en w2 ⟨rfl, t2, s2⟩
      have T2 : Hid (WT b B w w2) := T1.out.trans t2
      have S2 : Hid (WS b B w2 ((l ++ m) ++ k)) := s2
      have N2 : Hid (w2.heap[w.heap.size]? = some (.cells #[.int .i64 n, .bool nul, .int .i64 hp, .bool wide, .int .u64 mn, .int .u64 mx, .bool hm] 31 (0, 0))) := t2.other N1.out (by simp; omega) (NoT.of N1.out (by decide))
      clear t2 s2 T1 S1 N1
      go_wp2_with fail
      go_end0
      exact ⟨rfl, T2.out, by have := S2.out; simpa [List.append_assoc] using this⟩
set_option maxRecDepth 100000 in
set_option maxHeartbeats 1000000 in
theorem globalType2 {b B : Nat} {w : World} {l : List Int} (h : WS b B w l) (n hp : Int) (nul mu : Bool) (hl : l.length ≤ 17592186040000) :
    Calls Tryz.prog 55 #[.pointer (some ⟨b, 0, none⟩), .agg #[.int .i64 n, .bool nul, .int .i64 hp, .bool mu]] w (W2 b B w l (gloW ⟨n, nul, hp⟩ mu)) := by
  have H : Hid (WS b B w l) := h
  have hb : b < w.heap.size := h.blt
  clear h
  have C1 : Hid (∀ w1, WS b B w1 l → Calls Tryz.prog 37 #[.pointer (some ⟨b, 0, none⟩), .agg #[.int .i64 n, .bool nul, .int .i64 hp]] w1 (W2 b B w1 l (valW ⟨n, nul, hp⟩))) := fun w1 u => valType2 u ⟨n, nul, hp⟩ (by omega)
  have C2 : Hid (∀ w1 m, m.length ≤ 12 → WS b B w1 (l ++ m) → Calls Tryz.prog 82 #[.pointer (some ⟨b, 0, none⟩), .bool mu] w1 (W2 b B w1 (l ++ m) ((.ok (flagB mu) : Except Nat (List Int))))) := fun w1 m hm' u => flag2 u mu (by simp; omega)
  have HL : Hid (∀ m, valW ⟨n, nul, hp⟩ = .ok m → m.length ≤ 12) := fun m hm' => valW_len hm'
  unfold gloW
  generalize valW ⟨n, nul, hp⟩ = R1 at *
  generalize (.ok (flagB mu) : Except Nat (List Int)) = R2 at *
  cases hx : R1 with
  | error e =>
    have S0 : Hid (WS b B (w.alloc (.cells #[.int .i64 n, .bool nul, .int .i64 hp, .bool mu] 33)) l) := H.out.grew ((Grew.refl w).alloc _)
    have T0 : Hid (WT b B w (w.alloc (.cells #[.int .i64 n, .bool nul, .int .i64 hp, .bool mu] 33))) := WT.of_grew ((Grew.refl w).alloc _)
    have N0 : Hid ((w.alloc (.cells #[.int .i64 n, .bool nul, .int .i64 hp, .bool mu] 33)).heap[w.heap.size]? = some (.cells #[.int .i64 n, .bool nul, .int .i64 hp, .bool mu] 33 (0, 0))) := heap_alloc_last _ _
    go_enter Tryz.func55, Tryz.ntmps55
    go_wp2_with fail
    refine (W2.erc (C1.out _ S0.out) hx).mono ?_
    rintro en w1 ⟨⟨p, rfl⟩, t1⟩
    have T1 : Hid (WT b B w w1) := T0.out.trans t1
    clear t1
    go_wp2_with fail
    exact ⟨rfl, ⟨p, rfl⟩, T1.out⟩
  | ok m =>
    have hml := HL.out m hx
    cases hy : R2 with
    | error e =>
      have S0 : Hid (WS b B (w.alloc (.cells #[.int .i64 n, .bool nul, .int .i64 hp, .bool mu] 33)) l) := H.out.grew ((Grew.refl w).alloc _)
      have T0 : Hid (WT b B w (w.alloc (.cells #[.int .i64 n, .bool nul, .int .i64 hp, .bool mu] 33))) := WT.of_grew ((Grew.refl w).alloc _)
      have N0 : Hid ((w.alloc (.cells #[.int .i64 n, .bool nul, .int .i64 hp, .bool mu] 33)).heap[w.heap.size]? = some (.cells #[.int .i64 n, .bool nul, .int .i64 hp, .bool mu] 33 (0, 0))) := heap_alloc_last _ _
      go_enter Tryz.func55, Tryz.ntmps55
      go_wp2_with fail
      refine (W2.okc (C1.out _ S0.out) hx).mono ?_
      rintro en w1 ⟨rfl, t1, s1⟩
      have T1 : Hid (WT b B w w1) := T0.out.trans t1
      have S1 : Hid (WS b B w1 (l ++ m)) := s1
      have N1 : Hid (w1.heap[w.heap.size]? = some (.cells #[.int .i64 n, .bool nul, .int .i64 hp, .bool mu] 33 (0, 0))) := t1.other N0.out (by simp; omega) (NoT.of N0.out (by decide))
      clear t1 s1 T0 S0 N0
      have n0_1 := cell_of N1.out 0
      have n1_1 := cell_of N1.out 1
      have n2_1 := cell_of N1.out 2
      have n3_1 := cell_of N1.out 3
      simp at n0_1 n1_1 n2_1 n3_1
      go_wp2_with fail
      refine (W2.erc (C2.out _ m hml S1.out) hy).mono ?_
      rintro en w2 ⟨⟨p, rfl⟩, t2⟩
      have T2 : Hid (WT b B w w2) := T1.out.trans t2
      clear t2
      go_wp2_with fail
      exact ⟨rfl, ⟨p, rfl⟩, T2.out⟩
    | ok k =>
      have S0 : Hid (WS b B (w.alloc (.cells #[.int .i64 n, .bool nul, .int .i64 hp, .bool mu] 33)) l) := H.out.grew ((Grew.refl w).alloc _)
      have T0 : Hid (WT b B w (w.alloc (.cells #[.int .i64 n, .bool nul, .int .i64 hp, .bool mu] 33))) := WT.of_grew ((Grew.refl w).alloc _)
      have N0 : Hid ((w.alloc (.cells #[.int .i64 n, .bool nul, .int .i64 hp, .bool mu] 33)).heap[w.heap.size]? = some (.cells #[.int .i64 n, .bool nul, .int .i64 hp, .bool mu] 33 (0, 0))) := heap_alloc_last _ _
      go_enter Tryz.func55, Tryz.ntmps55
      go_wp2_with fail
      refine (W2.okc (C1.out _ S0.out) hx).mono ?_
      rintro en w1 ⟨rfl, t1, s1⟩
      have T1 : Hid (WT b B w w1) := T0.out.trans t1
      have S1 : Hid (WS b B w1 (l ++ m)) := s1
      have N1 : Hid (w1.heap[w.heap.size]? = some (.cells #[.int .i64 n, .bool nul, .int .i64 hp, .bool mu] 33 (0, 0))) := t1.other N0.out (by simp; omega) (NoT.of N0.out (by decide))
      clear t1 s1 T0 S0 N0
      have n0_1 := cell_of N1.out 0
      have n1_1 := cell_of N1.out 1
      have n2_1 := cell_of N1.out 2
      have n3_1 := cell_of N1.out 3
      simp at n0_1 n1_1 n2_1 n3_1
      go_wp2_with fail
      refine (W2.okc (C2.out _ m hml S1.out) hy).mono ?_
      rintro en w2 ⟨rfl, t2, s2⟩
      have T2 : Hid (WT b B w w2) := T1.out.trans t2
      have S2 : Hid (WS b B w2 ((l ++ m) ++ k)) := s2
      have N2 : Hid (w2.heap[w.heap.size]? = some (.cells #[.int .i64 n, .bool nul, .int .i64 hp, .bool mu] 33 (0, 0))) := t2.other N1.out (by simp; omega) (NoT.of N1.out (by decide))
      clear t2 s2 T1 S1 N1
      go_wp2_with fail
      go_end0
      exact ⟨rfl, T2.out, by have := S2.out; simpa [List.append_assoc] using this⟩
end Go.Proofs.YtchehejjdinifaaGreatDoor
