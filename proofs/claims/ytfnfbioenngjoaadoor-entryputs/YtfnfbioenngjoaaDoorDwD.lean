/-
  Tables' and globals' types, written by the document and by the program; no statement is proved here.
-/
import Derived.Test.YtfnfbioenngjoaaDoorWrY
namespace Go.Proofs.YtfnfbioenngjoaaDoor
open Go.RowKit
set_option linter.unusedVariables false
set_option linter.unusedSimpArgs false
set_option linter.constructorNameAsVariable false

def tabW (v : VT) (wide : Bool) (mn mx : Int) (hm : Bool) : Except Nat (List Int) := thenW (refW v) (limW wide mn mx hm)
def gloW (v : VT) (mu : Bool) : Except Nat (List Int) := thenW (valW v) (.ok (flagB mu))
set_option maxRecDepth 100000 in
set_option maxHeartbeats 1000000 in
theorem dtab_true {b B : Nat} {w : World} {st : Except Nat (List Int)} {N : Nat} (h : DW b B w st N) (n hp : Int) (nul wide hm : Bool) (mn mx : Int) (hn0 : -9223372036854775808 ≤ hp) (hn1 : hp ≤ 9223372036854775807) (hm0 : 0 ≤ mn) (hm1 : mn ≤ 18446744073709551615) (hx0 : 0 ≤ mx) (hx1 : mx ≤ 18446744073709551615) (h5 : n = 5) (hN : N ≤ 17592186040000) :
    Calls Tryd.prog 20 #[.pointer (some ⟨b, 0, none⟩), .agg #[.int .i64 n, .bool nul, .int .i64 hp, .bool wide, .int .u64 mn, .int .u64 mx, .bool hm]] w (DA b B w (thenW st (tabW ⟨n, nul, hp⟩ wide mn mx hm)) (N + 40)) := by
  have d5 : (n == 5) = true := by simpa using h5
  have E : Hid (thenW (thenW (thenW st (needW true 4)) (svW false ⟨n, nul, hp⟩)) (limW wide mn mx hm) = thenW st (tabW ⟨n, nul, hp⟩ wide mn mx hm)) := by show _ = _; rw [thenW_yes, tabW, show svW false ⟨n, nul, hp⟩ = refW ⟨n, nul, hp⟩ from by unfold svW valW; rw [if_neg (by simp), if_pos h5], thenW_assoc]
  have CV : Hid (∀ (W : World), DW b B W (thenW st (needW true 4)) N → Calls Tryd.prog 36 #[.pointer (some ⟨b, 0, none⟩), .agg #[.int .i64 n, .bool nul, .int .i64 hp], .bool false] W (DA b B W (thenW (thenW st (needW true 4)) (svW false ⟨n, nul, hp⟩)) (N + 12))) := fun W u => dwVal_any u ⟨n, nul, hp⟩ false ⟨hn0, hn1⟩ (by omega)
  clear h5
  have S0 : Hid (DW b B (w.alloc (.cells #[.int .i64 n, .bool nul, .int .i64 hp, .bool wide, .int .u64 mn, .int .u64 mx, .bool hm] 28)) st N) := h.grew ((Grew.refl w).alloc _)
  have T0 : Hid (WT b B w (w.alloc (.cells #[.int .i64 n, .bool nul, .int .i64 hp, .bool wide, .int .u64 mn, .int .u64 mx, .bool hm] 28))) := WT.of_grew ((Grew.refl w).alloc _)
  have B0 : Hid ((w.alloc (.cells #[.int .i64 n, .bool nul, .int .i64 hp, .bool wide, .int .u64 mn, .int .u64 mx, .bool hm] 28)).heap[w.heap.size]? = some (.cells #[.int .i64 n, .bool nul, .int .i64 hp, .bool wide, .int .u64 mn, .int .u64 mx, .bool hm] 28 (0, 0))) := heap_alloc_last w _
  have hb : b < w.heap.size := h.blt
  have hnP : w.heap.size ≠ b := by omega
  clear h
  go_enter Tryd.func20, Tryd.ntmps20
  go_wp2_with fail
  refine (must_any S0.out true 4 (by decide)).mono ?_
  rintro en w1 ⟨rfl, t1, s1⟩
  have T1 : Hid (WT b B w w1) := T0.out.trans t1
  have S1 : Hid (DW b B w1 (thenW st (needW true 4)) (N)) := s1
  have B1 : Hid (w1.heap[w.heap.size]? = some (.cells #[.int .i64 n, .bool nul, .int .i64 hp, .bool wide, .int .u64 mn, .int .u64 mx, .bool hm] 28 (0, 0))) := t1.other B0.out hnP (NoT.of B0.out (by decide))
  have f0_1 := cell_of B1.out 0
  have f1_1 := cell_of B1.out 1
  have f2_1 := cell_of B1.out 2
  have f3_1 := cell_of B1.out 3
  have f4_1 := cell_of B1.out 4
  have f5_1 := cell_of B1.out 5
  have f6_1 := cell_of B1.out 6
  simp at f0_1 f1_1 f2_1 f3_1 f4_1 f5_1 f6_1
  clear t1 s1 T0 S0 B0
  go_wp2_with fail
  refine (CV.out _ S1.out).mono ?_
  rintro en w2 ⟨rfl, t2, s2⟩
  have T2 : Hid (WT b B w w2) := T1.out.trans t2
  have S2 : Hid (DW b B w2 (thenW (thenW st (needW true 4)) (svW false ⟨n, nul, hp⟩)) (N + 12)) := s2
  have B2 : Hid (w2.heap[w.heap.size]? = some (.cells #[.int .i64 n, .bool nul, .int .i64 hp, .bool wide, .int .u64 mn, .int .u64 mx, .bool hm] 28 (0, 0))) := t2.other B1.out hnP (NoT.of B1.out (by decide))
  have f0_2 := cell_of B2.out 0
  have f1_2 := cell_of B2.out 1
  have f2_2 := cell_of B2.out 2
  have f3_2 := cell_of B2.out 3
  have f4_2 := cell_of B2.out 4
  have f5_2 := cell_of B2.out 5
  have f6_2 := cell_of B2.out 6
  simp at f0_2 f1_2 f2_2 f3_2 f4_2 f5_2 f6_2
  clear t2 s2 T1 S1 B1 f0_1 f1_1 f2_1 f3_1 f4_1 f5_1 f6_1
  go_wp2_with fail
  refine (dwLimits_any S2.out wide hm mn mx hm0 hm1 hx0 hx1 (by omega)).mono ?_
  rintro en w3 ⟨rfl, t3, s3⟩
  have T3 : Hid (WT b B w w3) := T2.out.trans t3
  have S3 : Hid (DW b B w3 (thenW (thenW (thenW st (needW true 4)) (svW false ⟨n, nul, hp⟩)) (limW wide mn mx hm)) (N + 12 + 23)) := s3
  have B3 : Hid (w3.heap[w.heap.size]? = some (.cells #[.int .i64 n, .bool nul, .int .i64 hp, .bool wide, .int .u64 mn, .int .u64 mx, .bool hm] 28 (0, 0))) := t3.other B2.out hnP (NoT.of B2.out (by decide))
  have f0_3 := cell_of B3.out 0
  have f1_3 := cell_of B3.out 1
  have f2_3 := cell_of B3.out 2
  have f3_3 := cell_of B3.out 3
  have f4_3 := cell_of B3.out 4
  have f5_3 := cell_of B3.out 5
  have f6_3 := cell_of B3.out 6
  simp at f0_3 f1_3 f2_3 f3_3 f4_3 f5_3 f6_3
  clear t3 s3 T2 S2 B2 f0_2 f1_2 f2_2 f3_2 f4_2 f5_2 f6_2
  go_wp2_with fail
  go_end0
  exact ⟨rfl, T3.out, by rw [← E.out]; exact S3.out.mono (by omega)⟩
set_option maxRecDepth 100000 in
set_option maxHeartbeats 1000000 in
theorem dtab_false {b B : Nat} {w : World} {st : Except Nat (List Int)} {N : Nat} (h : DW b B w st N) (n hp : Int) (nul wide hm : Bool) (mn mx : Int) (hn0 : -9223372036854775808 ≤ hp) (hn1 : hp ≤ 9223372036854775807) (hm0 : 0 ≤ mn) (hm1 : mn ≤ 18446744073709551615) (hx0 : 0 ≤ mx) (hx1 : mx ≤ 18446744073709551615) (h5 : n ≠ 5) (hN : N ≤ 17592186040000) :
    Calls Tryd.prog 20 #[.pointer (some ⟨b, 0, none⟩), .agg #[.int .i64 n, .bool nul, .int .i64 hp, .bool wide, .int .u64 mn, .int .u64 mx, .bool hm]] w (DA b B w (thenW st (tabW ⟨n, nul, hp⟩ wide mn mx hm)) (N + 40)) := by
  have d5 : (n == 5) = false := by simpa using h5
  have E : Hid (thenW (thenW (thenW st (needW false 4)) (svW false ⟨n, nul, hp⟩)) (limW wide mn mx hm) = thenW st (tabW ⟨n, nul, hp⟩ wide mn mx hm)) := by show _ = _; rw [thenW_no, thenW_err, tabW, refW, if_neg h5]; rfl
  have CV : Hid (∀ (W : World), DW b B W (thenW st (needW false 4)) N → Calls Tryd.prog 36 #[.pointer (some ⟨b, 0, none⟩), .agg #[.int .i64 n, .bool nul, .int .i64 hp], .bool false] W (DA b B W (thenW (thenW st (needW false 4)) (svW false ⟨n, nul, hp⟩)) (N + 12))) := fun W u => dwVal_any u ⟨n, nul, hp⟩ false ⟨hn0, hn1⟩ (by omega)
  clear h5
  have S0 : Hid (DW b B (w.alloc (.cells #[.int .i64 n, .bool nul, .int .i64 hp, .bool wide, .int .u64 mn, .int .u64 mx, .bool hm] 28)) st N) := h.grew ((Grew.refl w).alloc _)
  have T0 : Hid (WT b B w (w.alloc (.cells #[.int .i64 n, .bool nul, .int .i64 hp, .bool wide, .int .u64 mn, .int .u64 mx, .bool hm] 28))) := WT.of_grew ((Grew.refl w).alloc _)
  have B0 : Hid ((w.alloc (.cells #[.int .i64 n, .bool nul, .int .i64 hp, .bool wide, .int .u64 mn, .int .u64 mx, .bool hm] 28)).heap[w.heap.size]? = some (.cells #[.int .i64 n, .bool nul, .int .i64 hp, .bool wide, .int .u64 mn, .int .u64 mx, .bool hm] 28 (0, 0))) := heap_alloc_last w _
  have hb : b < w.heap.size := h.blt
  have hnP : w.heap.size ≠ b := by omega
  clear h
  go_enter Tryd.func20, Tryd.ntmps20
  go_wp2_with fail
  refine (must_any S0.out false 4 (by decide)).mono ?_
  rintro en w1 ⟨rfl, t1, s1⟩
  have T1 : Hid (WT b B w w1) := T0.out.trans t1
  have S1 : Hid (DW b B w1 (thenW st (needW false 4)) (N)) := s1
  have B1 : Hid (w1.heap[w.heap.size]? = some (.cells #[.int .i64 n, .bool nul, .int .i64 hp, .bool wide, .int .u64 mn, .int .u64 mx, .bool hm] 28 (0, 0))) := t1.other B0.out hnP (NoT.of B0.out (by decide))
  have f0_1 := cell_of B1.out 0
  have f1_1 := cell_of B1.out 1
  have f2_1 := cell_of B1.out 2
  have f3_1 := cell_of B1.out 3
  have f4_1 := cell_of B1.out 4
  have f5_1 := cell_of B1.out 5
  have f6_1 := cell_of B1.out 6
  simp at f0_1 f1_1 f2_1 f3_1 f4_1 f5_1 f6_1
  clear t1 s1 T0 S0 B0
  go_wp2_with fail
  refine (CV.out _ S1.out).mono ?_
  rintro en w2 ⟨rfl, t2, s2⟩
  have T2 : Hid (WT b B w w2) := T1.out.trans t2
  have S2 : Hid (DW b B w2 (thenW (thenW st (needW false 4)) (svW false ⟨n, nul, hp⟩)) (N + 12)) := s2
  have B2 : Hid (w2.heap[w.heap.size]? = some (.cells #[.int .i64 n, .bool nul, .int .i64 hp, .bool wide, .int .u64 mn, .int .u64 mx, .bool hm] 28 (0, 0))) := t2.other B1.out hnP (NoT.of B1.out (by decide))
  have f0_2 := cell_of B2.out 0
  have f1_2 := cell_of B2.out 1
  have f2_2 := cell_of B2.out 2
  have f3_2 := cell_of B2.out 3
  have f4_2 := cell_of B2.out 4
  have f5_2 := cell_of B2.out 5
  have f6_2 := cell_of B2.out 6
  simp at f0_2 f1_2 f2_2 f3_2 f4_2 f5_2 f6_2
  clear t2 s2 T1 S1 B1 f0_1 f1_1 f2_1 f3_1 f4_1 f5_1 f6_1
  go_wp2_with fail
  refine (dwLimits_any S2.out wide hm mn mx hm0 hm1 hx0 hx1 (by omega)).mono ?_
  rintro en w3 ⟨rfl, t3, s3⟩
  have T3 : Hid (WT b B w w3) := T2.out.trans t3
  have S3 : Hid (DW b B w3 (thenW (thenW (thenW st (needW false 4)) (svW false ⟨n, nul, hp⟩)) (limW wide mn mx hm)) (N + 12 + 23)) := s3
  have B3 : Hid (w3.heap[w.heap.size]? = some (.cells #[.int .i64 n, .bool nul, .int .i64 hp, .bool wide, .int .u64 mn, .int .u64 mx, .bool hm] 28 (0, 0))) := t3.other B2.out hnP (NoT.of B2.out (by decide))
  have f0_3 := cell_of B3.out 0
  have f1_3 := cell_of B3.out 1
  have f2_3 := cell_of B3.out 2
  have f3_3 := cell_of B3.out 3
  have f4_3 := cell_of B3.out 4
  have f5_3 := cell_of B3.out 5
  have f6_3 := cell_of B3.out 6
  simp at f0_3 f1_3 f2_3 f3_3 f4_3 f5_3 f6_3
  clear t3 s3 T2 S2 B2 f0_2 f1_2 f2_2 f3_2 f4_2 f5_2 f6_2
  go_wp2_with fail
  go_end0
  exact ⟨rfl, T3.out, by rw [← E.out]; exact S3.out.mono (by omega)⟩
theorem dwTable_any {b B : Nat} {w : World} {st : Except Nat (List Int)} {N : Nat} (h : DW b B w st N) (n hp : Int) (nul wide hm : Bool) (mn mx : Int) (hn0 : -9223372036854775808 ≤ hp) (hn1 : hp ≤ 9223372036854775807) (hm0 : 0 ≤ mn) (hm1 : mn ≤ 18446744073709551615) (hx0 : 0 ≤ mx) (hx1 : mx ≤ 18446744073709551615) (hN : N ≤ 17592186040000) :
    Calls Tryd.prog 20 #[.pointer (some ⟨b, 0, none⟩), .agg #[.int .i64 n, .bool nul, .int .i64 hp, .bool wide, .int .u64 mn, .int .u64 mx, .bool hm]] w (DA b B w (thenW st (tabW ⟨n, nul, hp⟩ wide mn mx hm)) (N + 40)) := by
  by_cases h5 : n = 5
  · exact dtab_true h n hp nul wide hm mn mx hn0 hn1 hm0 hm1 hx0 hx1 h5 hN
  · exact dtab_false h n hp nul wide hm mn mx hn0 hn1 hm0 hm1 hx0 hx1 h5 hN
set_option maxRecDepth 100000 in
set_option maxHeartbeats 1000000 in
theorem dwGlobal_any {b B : Nat} {w : World} {st : Except Nat (List Int)} {N : Nat} (h : DW b B w st N) (n hp : Int) (nul mu : Bool) (hn0 : -9223372036854775808 ≤ hp) (hn1 : hp ≤ 9223372036854775807) (hN : N ≤ 17592186040000) :
    Calls Tryd.prog 22 #[.pointer (some ⟨b, 0, none⟩), .agg #[.int .i64 n, .bool nul, .int .i64 hp, .bool mu]] w (DA b B w (thenW st (gloW ⟨n, nul, hp⟩ mu)) (N + 13)) := by
  have E : Hid (thenW (thenW st (svW false ⟨n, nul, hp⟩)) (.ok (flagB mu)) = thenW st (gloW ⟨n, nul, hp⟩ mu)) := by show _ = _; rw [gloW, thenW_assoc]; rfl
  have CV : Hid (∀ (W : World), DW b B W st N → Calls Tryd.prog 36 #[.pointer (some ⟨b, 0, none⟩), .agg #[.int .i64 n, .bool nul, .int .i64 hp], .bool false] W (DA b B W (thenW st (svW false ⟨n, nul, hp⟩)) (N + 12))) := fun W u => dwVal_any u ⟨n, nul, hp⟩ false ⟨hn0, hn1⟩ (by omega)
  have S0 : Hid (DW b B (w.alloc (.cells #[.int .i64 n, .bool nul, .int .i64 hp, .bool mu] 30)) st N) := h.grew ((Grew.refl w).alloc _)
  have T0 : Hid (WT b B w (w.alloc (.cells #[.int .i64 n, .bool nul, .int .i64 hp, .bool mu] 30))) := WT.of_grew ((Grew.refl w).alloc _)
  have B0 : Hid ((w.alloc (.cells #[.int .i64 n, .bool nul, .int .i64 hp, .bool mu] 30)).heap[w.heap.size]? = some (.cells #[.int .i64 n, .bool nul, .int .i64 hp, .bool mu] 30 (0, 0))) := heap_alloc_last w _
  have hb : b < w.heap.size := h.blt
  have hnP : w.heap.size ≠ b := by omega
  clear h
  go_enter Tryd.func22, Tryd.ntmps22
  go_wp2_with fail
  refine (CV.out _ S0.out).mono ?_
  rintro en w1 ⟨rfl, t1, s1⟩
  have T1 : Hid (WT b B w w1) := T0.out.trans t1
  have S1 : Hid (DW b B w1 (thenW st (svW false ⟨n, nul, hp⟩)) (N + 12)) := s1
  have B1 : Hid (w1.heap[w.heap.size]? = some (.cells #[.int .i64 n, .bool nul, .int .i64 hp, .bool mu] 30 (0, 0))) := t1.other B0.out hnP (NoT.of B0.out (by decide))
  have f0_1 := cell_of B1.out 0
  have f1_1 := cell_of B1.out 1
  have f2_1 := cell_of B1.out 2
  have f3_1 := cell_of B1.out 3
  simp at f0_1 f1_1 f2_1 f3_1
  clear t1 s1 T0 S0 B0
  go_wp2_with fail
  refine (dwFlag_any S1.out mu (by omega)).mono ?_
  rintro en w2 ⟨rfl, t2, s2⟩
  have T2 : Hid (WT b B w w2) := T1.out.trans t2
  have S2 : Hid (DW b B w2 (thenW (thenW st (svW false ⟨n, nul, hp⟩)) (.ok (flagB mu))) (N + 12 + 1)) := s2
  have B2 : Hid (w2.heap[w.heap.size]? = some (.cells #[.int .i64 n, .bool nul, .int .i64 hp, .bool mu] 30 (0, 0))) := t2.other B1.out hnP (NoT.of B1.out (by decide))
  have f0_2 := cell_of B2.out 0
  have f1_2 := cell_of B2.out 1
  have f2_2 := cell_of B2.out 2
  have f3_2 := cell_of B2.out 3
  simp at f0_2 f1_2 f2_2 f3_2
  clear t2 s2 T1 S1 B1 f0_1 f1_1 f2_1 f3_1
  go_wp2_with fail
  go_end0
  exact ⟨rfl, T2.out, by rw [← E.out]; exact S2.out.mono (by omega)⟩
set_option maxRecDepth 100000 in
set_option maxHeartbeats 1000000 in
theorem dPutTab_any (w : World) (n hp : Int) (nul wide hm : Bool) (mn mx : Int) (hn0 : -9223372036854775808 ≤ hp) (hn1 : hp ≤ 9223372036854775807) (hm0 : 0 ≤ mn) (hm1 : mn ≤ 18446744073709551615) (hx0 : 0 ≤ mx) (hx1 : mx ≤ 18446744073709551615) : Calls Tryd.prog 10 #[.agg #[.int .i64 n, .bool nul, .int .i64 hp, .bool wide, .int .u64 mn, .int .u64 mx, .bool hm]] w (PAns w (tabW ⟨n, nul, hp⟩ wide mn mx hm)) := by
  have S0 : DW ((w.alloc (.cells #[.int .i64 n, .bool nul, .int .i64 hp, .bool wide, .int .u64 mn, .int .u64 mx, .bool hm] 28))).heap.size (((w.alloc (.cells #[.int .i64 n, .bool nul, .int .i64 hp, .bool wide, .int .u64 mn, .int .u64 mx, .bool hm] 28))).heap.size + 1) ((w.alloc (.cells #[.int .i64 n, .bool nul, .int .i64 hp, .bool wide, .int .u64 mn, .int .u64 mx, .bool hm] 28)).alloc (.cells #[.slice none 0 0, .int .i64 0] 59)) (.ok []) 0 := dw_new _
  rw [alloc_size] at S0
  have G0 : Hid (Grew w ((w.alloc (.cells #[.int .i64 n, .bool nul, .int .i64 hp, .bool wide, .int .u64 mn, .int .u64 mx, .bool hm] 28)).alloc (.cells #[.slice none 0 0, .int .i64 0] 59))) := ((Grew.refl w).alloc _).alloc _
  have C := dwTable_any S0 n hp nul wide hm mn mx hn0 hn1 hm0 hm1 hx0 hx1 (by omega)
  rw [thenW_l] at C
  obtain ⟨R, hR⟩ : ∃ R, R = tabW ⟨n, nul, hp⟩ wide mn mx hm := ⟨_, rfl⟩
  rw [← hR] at C ⊢
  clear hR S0
  go_enter Tryd.func10, Tryd.ntmps10
  go_wp2_with fail
  refine C.mono ?_
  rintro en w1 ⟨rfl, t1, s1⟩
  have G1 : Hid (Grew w w1) := t1.grew0 ((Grew.refl w).alloc _ |>.alloc _) (by omega) (by omega)
  have D := done_any s1 G1.out (by omega)
  clear C t1 s1
  go_wp2_with fail
  refine D.mono ?_
  intro en w2 ha
  cases R with
  | error e =>
    obtain ⟨rfl, g2⟩ := ha
    have G2 : Hid (Grew w w2) := g2
    clear g2 D
    go_wp2_with fail
    go_ret2
    exact ⟨rfl, G2.out⟩
  | ok m =>
    obtain ⟨rv, rfl, r2, g2⟩ := ha
    have F2 : Hid (w2.ownsRow w.heap.size 5 1 rv m.length (U8 m) ∧ Grew w w2) := ⟨r2, g2⟩
    obtain ⟨ra, rc, rfl⟩ := row_one r2
    clear r2 g2 D
    go_wp2_with fail
    go_ret2
    exact ⟨_, rfl, F2.out⟩
set_option maxRecDepth 100000 in
set_option maxHeartbeats 1000000 in
theorem dPutGlo_any (w : World) (n hp : Int) (nul mu : Bool) (hn0 : -9223372036854775808 ≤ hp) (hn1 : hp ≤ 9223372036854775807) : Calls Tryd.prog 12 #[.agg #[.int .i64 n, .bool nul, .int .i64 hp, .bool mu]] w (PAns w (gloW ⟨n, nul, hp⟩ mu)) := by
  have S0 : DW ((w.alloc (.cells #[.int .i64 n, .bool nul, .int .i64 hp, .bool mu] 30))).heap.size (((w.alloc (.cells #[.int .i64 n, .bool nul, .int .i64 hp, .bool mu] 30))).heap.size + 1) ((w.alloc (.cells #[.int .i64 n, .bool nul, .int .i64 hp, .bool mu] 30)).alloc (.cells #[.slice none 0 0, .int .i64 0] 59)) (.ok []) 0 := dw_new _
  rw [alloc_size] at S0
  have G0 : Hid (Grew w ((w.alloc (.cells #[.int .i64 n, .bool nul, .int .i64 hp, .bool mu] 30)).alloc (.cells #[.slice none 0 0, .int .i64 0] 59))) := ((Grew.refl w).alloc _).alloc _
  have C := dwGlobal_any S0 n hp nul mu hn0 hn1 (by omega)
  rw [thenW_l] at C
  obtain ⟨R, hR⟩ : ∃ R, R = gloW ⟨n, nul, hp⟩ mu := ⟨_, rfl⟩
  rw [← hR] at C ⊢
  clear hR S0
  go_enter Tryd.func12, Tryd.ntmps12
  go_wp2_with fail
  refine C.mono ?_
  rintro en w1 ⟨rfl, t1, s1⟩
  have G1 : Hid (Grew w w1) := t1.grew0 ((Grew.refl w).alloc _ |>.alloc _) (by omega) (by omega)
  have D := done_any s1 G1.out (by omega)
  clear C t1 s1
  go_wp2_with fail
  refine D.mono ?_
  intro en w2 ha
  cases R with
  | error e =>
    obtain ⟨rfl, g2⟩ := ha
    have G2 : Hid (Grew w w2) := g2
    clear g2 D
    go_wp2_with fail
    go_ret2
    exact ⟨rfl, G2.out⟩
  | ok m =>
    obtain ⟨rv, rfl, r2, g2⟩ := ha
    have F2 : Hid (w2.ownsRow w.heap.size 5 1 rv m.length (U8 m) ∧ Grew w w2) := ⟨r2, g2⟩
    obtain ⟨ra, rc, rfl⟩ := row_one r2
    clear r2 g2 D
    go_wp2_with fail
    go_ret2
    exact ⟨_, rfl, F2.out⟩
set_option maxRecDepth 100000 in
set_option maxHeartbeats 1000000 in
theorem tableType2 {b B : Nat} {w : World} {l : List Int} (h : WS b B w l) (n hp : Int) (nul wide hm : Bool) (mn mx : Int) (hm0 : 0 ≤ mn) (hm1 : mn ≤ 18446744073709551615) (hx0 : 0 ≤ mx) (hx1 : mx ≤ 18446744073709551615) (hl : l.length ≤ 17592186040000) :
    Calls Tryd.prog 28 #[.pointer (some ⟨b, 0, none⟩), .agg #[.int .i64 n, .bool nul, .int .i64 hp, .bool wide, .int .u64 mn, .int .u64 mx, .bool hm]] w (W2 b B w l (tabW ⟨n, nul, hp⟩ wide mn mx hm)) := by
  have H : Hid (WS b B w l) := h
  have hb : b < w.heap.size := h.blt
  clear h
  have C1 : Hid (∀ w1, WS b B w1 l → Calls Tryd.prog 43 #[.pointer (some ⟨b, 0, none⟩), .agg #[.int .i64 n, .bool nul, .int .i64 hp]] w1 (W2 b B w1 l (refW ⟨n, nul, hp⟩))) := fun w1 u => refType2 u ⟨n, nul, hp⟩ (by omega)
  have C2 : Hid (∀ w1 m, m.length ≤ 12 → WS b B w1 (l ++ m) → Calls Tryd.prog 44 #[.pointer (some ⟨b, 0, none⟩), .agg #[.bool wide, .int .u64 mn, .int .u64 mx, .bool hm]] w1 (W2 b B w1 (l ++ m) (limW wide mn mx hm))) := fun w1 m hm' u => limits2 u wide hm mn mx hm0 hm1 hx0 hx1 (by simp; omega)
  have HL : Hid (∀ m, refW ⟨n, nul, hp⟩ = .ok m → m.length ≤ 12) := fun m hm' => refW_len hm'
  unfold tabW
  generalize refW ⟨n, nul, hp⟩ = R1 at *
  generalize limW wide mn mx hm = R2 at *
  cases hx : R1 with
  | error e =>
    have S0 : Hid (WS b B (w.alloc (.cells #[.int .i64 n, .bool nul, .int .i64 hp, .bool wide, .int .u64 mn, .int .u64 mx, .bool hm] 28)) l) := H.out.grew ((Grew.refl w).alloc _)
    have T0 : Hid (WT b B w (w.alloc (.cells #[.int .i64 n, .bool nul, .int .i64 hp, .bool wide, .int .u64 mn, .int .u64 mx, .bool hm] 28))) := WT.of_grew ((Grew.refl w).alloc _)
    have N0 : Hid ((w.alloc (.cells #[.int .i64 n, .bool nul, .int .i64 hp, .bool wide, .int .u64 mn, .int .u64 mx, .bool hm] 28)).heap[w.heap.size]? = some (.cells #[.int .i64 n, .bool nul, .int .i64 hp, .bool wide, .int .u64 mn, .int .u64 mx, .bool hm] 28 (0, 0))) := heap_alloc_last _ _
    go_enter Tryd.func28, Tryd.ntmps28
    go_wp2_with fail
    refine (W2.erc (C1.out _ S0.out) hx).mono ?_
    rintro en w1 ⟨⟨p, rfl⟩, t1⟩
    have T1 : Hid (WT b B w w1) := T0.out.trans t1
    clear t1
    go_wp2_with fail
    exact ⟨rfl, ⟨p, rfl⟩, T1.out⟩
  | ok m =>
    have hml := HL.out m hx
    cases hy : R2 with
    | error e =>
      have S0 : Hid (WS b B (w.alloc (.cells #[.int .i64 n, .bool nul, .int .i64 hp, .bool wide, .int .u64 mn, .int .u64 mx, .bool hm] 28)) l) := H.out.grew ((Grew.refl w).alloc _)
      have T0 : Hid (WT b B w (w.alloc (.cells #[.int .i64 n, .bool nul, .int .i64 hp, .bool wide, .int .u64 mn, .int .u64 mx, .bool hm] 28))) := WT.of_grew ((Grew.refl w).alloc _)
      have N0 : Hid ((w.alloc (.cells #[.int .i64 n, .bool nul, .int .i64 hp, .bool wide, .int .u64 mn, .int .u64 mx, .bool hm] 28)).heap[w.heap.size]? = some (.cells #[.int .i64 n, .bool nul, .int .i64 hp, .bool wide, .int .u64 mn, .int .u64 mx, .bool hm] 28 (0, 0))) := heap_alloc_last _ _
      go_enter Tryd.func28, Tryd.ntmps28
      go_wp2_with fail
      refine (W2.okc (C1.out _ S0.out) hx).mono ?_
      rintro en w1 ⟨rfl, t1, s1⟩
      have T1 : Hid (WT b B w w1) := T0.out.trans t1
      have S1 : Hid (WS b B w1 (l ++ m)) := s1
      have N1 : Hid (w1.heap[w.heap.size]? = some (.cells #[.int .i64 n, .bool nul, .int .i64 hp, .bool wide, .int .u64 mn, .int .u64 mx, .bool hm] 28 (0, 0))) := t1.other N0.out (by simp; omega) (NoT.of N0.out (by decide))
      clear t1 s1 T0 S0 N0
      have n0_1 := cell_of N1.out 0
      have n1_1 := cell_of N1.out 1
      have n2_1 := cell_of N1.out 2
      have n3_1 := cell_of N1.out 3
      have n4_1 := cell_of N1.out 4
      have n5_1 := cell_of N1.out 5
      have n6_1 := cell_of N1.out 6
      simp at n0_1 n1_1 n2_1 n3_1 n4_1 n5_1 n6_1
      go_wp2_with fail
      refine (W2.erc (C2.out _ m hml S1.out) hy).mono ?_
      rintro en w2 ⟨⟨p, rfl⟩, t2⟩
      have T2 : Hid (WT b B w w2) := T1.out.trans t2
      clear t2
      go_wp2_with fail
      exact ⟨rfl, ⟨p, rfl⟩, T2.out⟩
    | ok k =>
      have S0 : Hid (WS b B (w.alloc (.cells #[.int .i64 n, .bool nul, .int .i64 hp, .bool wide, .int .u64 mn, .int .u64 mx, .bool hm] 28)) l) := H.out.grew ((Grew.refl w).alloc _)
      have T0 : Hid (WT b B w (w.alloc (.cells #[.int .i64 n, .bool nul, .int .i64 hp, .bool wide, .int .u64 mn, .int .u64 mx, .bool hm] 28))) := WT.of_grew ((Grew.refl w).alloc _)
      have N0 : Hid ((w.alloc (.cells #[.int .i64 n, .bool nul, .int .i64 hp, .bool wide, .int .u64 mn, .int .u64 mx, .bool hm] 28)).heap[w.heap.size]? = some (.cells #[.int .i64 n, .bool nul, .int .i64 hp, .bool wide, .int .u64 mn, .int .u64 mx, .bool hm] 28 (0, 0))) := heap_alloc_last _ _
      go_enter Tryd.func28, Tryd.ntmps28
      go_wp2_with fail
      refine (W2.okc (C1.out _ S0.out) hx).mono ?_
      rintro en w1 ⟨rfl, t1, s1⟩
      have T1 : Hid (WT b B w w1) := T0.out.trans t1
      have S1 : Hid (WS b B w1 (l ++ m)) := s1
      have N1 : Hid (w1.heap[w.heap.size]? = some (.cells #[.int .i64 n, .bool nul, .int .i64 hp, .bool wide, .int .u64 mn, .int .u64 mx, .bool hm] 28 (0, 0))) := t1.other N0.out (by simp; omega) (NoT.of N0.out (by decide))
      clear t1 s1 T0 S0 N0
      have n0_1 := cell_of N1.out 0
      have n1_1 := cell_of N1.out 1
      have n2_1 := cell_of N1.out 2
      have n3_1 := cell_of N1.out 3
      have n4_1 := cell_of N1.out 4
      have n5_1 := cell_of N1.out 5
      have n6_1 := cell_of N1.out 6
      simp at n0_1 n1_1 n2_1 n3_1 n4_1 n5_1 n6_1
      go_wp2_with fail
      refine (W2.okc (C2.out _ m hml S1.out) hy).mono ?_
      rintro en w2 ⟨rfl, t2, s2⟩
      have T2 : Hid (WT b B w w2) := T1.out.trans t2
      have S2 : Hid (WS b B w2 ((l ++ m) ++ k)) := s2
      have N2 : Hid (w2.heap[w.heap.size]? = some (.cells #[.int .i64 n, .bool nul, .int .i64 hp, .bool wide, .int .u64 mn, .int .u64 mx, .bool hm] 28 (0, 0))) := t2.other N1.out (by simp; omega) (NoT.of N1.out (by decide))
      clear t2 s2 T1 S1 N1
      go_wp2_with fail
      go_end0
      exact ⟨rfl, T2.out, by have := S2.out; simpa [List.append_assoc] using this⟩
set_option maxRecDepth 100000 in
set_option maxHeartbeats 1000000 in
theorem globalType2 {b B : Nat} {w : World} {l : List Int} (h : WS b B w l) (n hp : Int) (nul mu : Bool) (hl : l.length ≤ 17592186040000) :
    Calls Tryd.prog 30 #[.pointer (some ⟨b, 0, none⟩), .agg #[.int .i64 n, .bool nul, .int .i64 hp, .bool mu]] w (W2 b B w l (gloW ⟨n, nul, hp⟩ mu)) := by
  have H : Hid (WS b B w l) := h
  have hb : b < w.heap.size := h.blt
  clear h
  have C1 : Hid (∀ w1, WS b B w1 l → Calls Tryd.prog 46 #[.pointer (some ⟨b, 0, none⟩), .agg #[.int .i64 n, .bool nul, .int .i64 hp]] w1 (W2 b B w1 l (valW ⟨n, nul, hp⟩))) := fun w1 u => valType2 u ⟨n, nul, hp⟩ (by omega)
  have C2 : Hid (∀ w1 m, m.length ≤ 12 → WS b B w1 (l ++ m) → Calls Tryd.prog 47 #[.pointer (some ⟨b, 0, none⟩), .bool mu] w1 (W2 b B w1 (l ++ m) ((.ok (flagB mu) : Except Nat (List Int))))) := fun w1 m hm' u => flag2 u mu (by simp; omega)
  have HL : Hid (∀ m, valW ⟨n, nul, hp⟩ = .ok m → m.length ≤ 12) := fun m hm' => valW_len hm'
  unfold gloW
  generalize valW ⟨n, nul, hp⟩ = R1 at *
  generalize (.ok (flagB mu) : Except Nat (List Int)) = R2 at *
  cases hx : R1 with
  | error e =>
    have S0 : Hid (WS b B (w.alloc (.cells #[.int .i64 n, .bool nul, .int .i64 hp, .bool mu] 30)) l) := H.out.grew ((Grew.refl w).alloc _)
    have T0 : Hid (WT b B w (w.alloc (.cells #[.int .i64 n, .bool nul, .int .i64 hp, .bool mu] 30))) := WT.of_grew ((Grew.refl w).alloc _)
    have N0 : Hid ((w.alloc (.cells #[.int .i64 n, .bool nul, .int .i64 hp, .bool mu] 30)).heap[w.heap.size]? = some (.cells #[.int .i64 n, .bool nul, .int .i64 hp, .bool mu] 30 (0, 0))) := heap_alloc_last _ _
    go_enter Tryd.func30, Tryd.ntmps30
    go_wp2_with fail
    refine (W2.erc (C1.out _ S0.out) hx).mono ?_
    rintro en w1 ⟨⟨p, rfl⟩, t1⟩
    have T1 : Hid (WT b B w w1) := T0.out.trans t1
    clear t1
    go_wp2_with fail
    exact ⟨rfl, ⟨p, rfl⟩, T1.out⟩
  | ok m =>
    have hml := HL.out m hx
    cases hy : R2 with
    | error e =>
      have S0 : Hid (WS b B (w.alloc (.cells #[.int .i64 n, .bool nul, .int .i64 hp, .bool mu] 30)) l) := H.out.grew ((Grew.refl w).alloc _)
      have T0 : Hid (WT b B w (w.alloc (.cells #[.int .i64 n, .bool nul, .int .i64 hp, .bool mu] 30))) := WT.of_grew ((Grew.refl w).alloc _)
      have N0 : Hid ((w.alloc (.cells #[.int .i64 n, .bool nul, .int .i64 hp, .bool mu] 30)).heap[w.heap.size]? = some (.cells #[.int .i64 n, .bool nul, .int .i64 hp, .bool mu] 30 (0, 0))) := heap_alloc_last _ _
      go_enter Tryd.func30, Tryd.ntmps30
      go_wp2_with fail
      refine (W2.okc (C1.out _ S0.out) hx).mono ?_
      rintro en w1 ⟨rfl, t1, s1⟩
      have T1 : Hid (WT b B w w1) := T0.out.trans t1
      have S1 : Hid (WS b B w1 (l ++ m)) := s1
      have N1 : Hid (w1.heap[w.heap.size]? = some (.cells #[.int .i64 n, .bool nul, .int .i64 hp, .bool mu] 30 (0, 0))) := t1.other N0.out (by simp; omega) (NoT.of N0.out (by decide))
      clear t1 s1 T0 S0 N0
      have n0_1 := cell_of N1.out 0
      have n1_1 := cell_of N1.out 1
      have n2_1 := cell_of N1.out 2
      have n3_1 := cell_of N1.out 3
      simp at n0_1 n1_1 n2_1 n3_1
      go_wp2_with fail
      refine (W2.erc (C2.out _ m hml S1.out) hy).mono ?_
      rintro en w2 ⟨⟨p, rfl⟩, t2⟩
      have T2 : Hid (WT b B w w2) := T1.out.trans t2
      clear t2
      go_wp2_with fail
      exact ⟨rfl, ⟨p, rfl⟩, T2.out⟩
    | ok k =>
      have S0 : Hid (WS b B (w.alloc (.cells #[.int .i64 n, .bool nul, .int .i64 hp, .bool mu] 30)) l) := H.out.grew ((Grew.refl w).alloc _)
      have T0 : Hid (WT b B w (w.alloc (.cells #[.int .i64 n, .bool nul, .int .i64 hp, .bool mu] 30))) := WT.of_grew ((Grew.refl w).alloc _)
      have N0 : Hid ((w.alloc (.cells #[.int .i64 n, .bool nul, .int .i64 hp, .bool mu] 30)).heap[w.heap.size]? = some (.cells #[.int .i64 n, .bool nul, .int .i64 hp, .bool mu] 30 (0, 0))) := heap_alloc_last _ _
      go_enter Tryd.func30, Tryd.ntmps30
      go_wp2_with fail
      refine (W2.okc (C1.out _ S0.out) hx).mono ?_
      rintro en w1 ⟨rfl, t1, s1⟩
      have T1 : Hid (WT b B w w1) := T0.out.trans t1
      have S1 : Hid (WS b B w1 (l ++ m)) := s1
      have N1 : Hid (w1.heap[w.heap.size]? = some (.cells #[.int .i64 n, .bool nul, .int .i64 hp, .bool mu] 30 (0, 0))) := t1.other N0.out (by simp; omega) (NoT.of N0.out (by decide))
      clear t1 s1 T0 S0 N0
      have n0_1 := cell_of N1.out 0
      have n1_1 := cell_of N1.out 1
      have n2_1 := cell_of N1.out 2
      have n3_1 := cell_of N1.out 3
      simp at n0_1 n1_1 n2_1 n3_1
      go_wp2_with fail
      refine (W2.okc (C2.out _ m hml S1.out) hy).mono ?_
      rintro en w2 ⟨rfl, t2, s2⟩
      have T2 : Hid (WT b B w w2) := T1.out.trans t2
      have S2 : Hid (WS b B w2 ((l ++ m) ++ k)) := s2
      have N2 : Hid (w2.heap[w.heap.size]? = some (.cells #[.int .i64 n, .bool nul, .int .i64 hp, .bool mu] 30 (0, 0))) := t2.other N1.out (by simp; omega) (NoT.of N1.out (by decide))
      clear t2 s2 T1 S1 N1
      go_wp2_with fail
      go_end0
      exact ⟨rfl, T2.out, by have := S2.out; simpa [List.append_assoc] using this⟩
set_option maxRecDepth 100000 in
set_option maxHeartbeats 1000000 in
theorem wcaughtA (bE : Nat) (p e y : Int) (older : List PanicEntry) (w : World) (hE : w.heap[bE]? = some (ic y 39)) :
    CallsD Tryd.prog 42 #[.pointer (some ⟨bE, 0, none⟩)] (.panicking ({ v := .iface 78 (.agg #[.int .i64 p, .int .i64 e]), recovered := false } :: older)) w fun en u' w' =>
      en = .returned (.tuple #[]) ∧ u' = .panicking ({ v := .iface 78 (.agg #[.int .i64 p, .int .i64 e]), recovered := true } :: older) ∧ w' = w.setCell ⟨bE, 0, none⟩ (.int .i64 e) := by
  have c1 := cell_of hE 0
  have z1 := free_of hE 0
  simp at c1
  clear hE
  refine callsD_of_wpS Tryd.func42 rfl fun c₀ cs hu => ?_
  apply wpS_seq
  apply wpS_region
  simp [wpOpsS, go_sem, recoverD, hu, Tryd.ntmps42, Exit.thenS]
  refine wpS_of_wp ?_
  rw [show (#[Value.pointer (some { block := bE, off := 0 })] ++
          ((Array.replicate 7 undef).setIfInBounds 1 (Value.iface 78 (Value.agg #[Value.int IntKind.i64 p, Value.int IntKind.i64 e]))).setIfInBounds 0 (Value.iface 78 (Value.agg #[Value.int IntKind.i64 p, Value.int IntKind.i64 e])) : Array Value) = #[Value.pointer (some { block := bE, off := 0 }), Value.iface 78 (Value.agg #[Value.int IntKind.i64 p, Value.int IntKind.i64 e]), Value.iface 78 (Value.agg #[Value.int IntKind.i64 p, Value.int IntKind.i64 e]), undef, undef, undef, undef, undef] from rfl]
  clear hu
  have ha := assertF
  have hf := fieldE
  go_wp2
  simp [bodyPostS, results, Tryd.results42]
theorem widleA (bE : Nat) (w : World) :
    CallsD Tryd.prog 42 #[.pointer (some ⟨bE, 0, none⟩)] .returning w fun en u' w' => en = .returned (.tuple #[]) ∧ u' = .returning ∧ w' = w := by
  refine callsD_of_wpS Tryd.func42 rfl fun c₀ cs hu => ?_
  apply wpS_seq
  apply wpS_region
  simp [wpOpsS, go_sem, recoverD, hu, Tryd.ntmps42, Exit.thenS]
  refine wpS_of_wp ?_
  rw [show (#[Value.pointer (some { block := bE, off := 0 })] ++
          ((Array.replicate 7 undef).setIfInBounds 1 Value.nilIface).setIfInBounds 0 Value.nilIface : Array Value) = #[Value.pointer (some { block := bE, off := 0 }), .nilIface, .nilIface, undef, undef, undef, undef, undef] from rfl]
  go_wp2
  cases c₀
  simp_all [bodyPostS, results, Tryd.results42]
set_option maxRecDepth 100000 in
set_option maxHeartbeats 1000000 in
theorem writtenA_any (n hp : Int) (nul wide hm : Bool) (mn mx : Int) (w : World) (hT : Tab w) (R : Except Nat (List Int))
    (HC : ∀ (W : World) (b B : Nat), WS b B W [] → Grew w W → Calls Tryd.prog 28 #[.pointer (some ⟨b, 0, none⟩), .agg #[.int .i64 n, .bool nul, .int .i64 hp, .bool wide, .int .u64 mn, .int .u64 mx, .bool hm]] W (WAns b B W [] R)) :
    Calls Tryd.prog 27 #[.agg #[.int .i64 n, .bool nul, .int .i64 hp, .bool wide, .int .u64 mn, .int .u64 mx, .bool hm], .func (.func 28) #[] #[]] w (PAns w R) := by
  have hmf : ∀ (fn : Fn) (first cap : Array Value) (w : World), (Instr.makeFunc fn first cap).run Tryd.prog w = .ok (.func fn first cap) w := fun _ _ _ _ => rfl
  have HT : Hid (Tab w) := hT
  have hpos := hT.pos
  have HCC : Hid (∀ (W : World) (b B : Nat), WS b B W [] → Grew w W → Calls Tryd.prog 28 #[.pointer (some ⟨b, 0, none⟩), .agg #[.int .i64 n, .bool nul, .int .i64 hp, .bool wide, .int .u64 mn, .int .u64 mx, .bool hm]] W (WAns b B W [] R)) := HC
  clear hT HC
  go_enter_defers Tryd.func27, Tryd.ntmps27
  go_wp2_with fail
  generalize hW : ((w.alloc (Obj.cells #[Value.int IntKind.i64 n, Value.bool nul, Value.int IntKind.i64 hp, Value.bool wide, Value.int IntKind.u64 mn, Value.int IntKind.u64 mx, Value.bool hm] 28)).alloc (Obj.cells #[Value.int IntKind.i64 0] 39)).alloc (Obj.cells #[Value.slice none 0 0] 80) = W
  have G0 : Hid (Grew w W) := by rw [← hW]; exact (((Grew.refl w).alloc _).alloc _).alloc _
  obtain ⟨X0, E0, o0⟩ : Hid (W.heap[w.heap.size]? = some (.cells #[.int .i64 n, .bool nul, .int .i64 hp, .bool wide, .int .u64 mn, .int .u64 mx, .bool hm] 28 (0, 0))) ∧ Hid (W.heap[w.heap.size + 1]? = some (ic 0 39)) ∧ W.heap[w.heap.size + 1 + 1]? = some (wob (.slice none 0 0)) := by
    rw [← hW]
    exact heap_three _ _ _ _
  have hsz : W.heap.size = w.heap.size + 1 + 1 + 1 := by rw [← hW]; simp
  have S0 : Hid (WS (w.heap.size + 1 + 1) (w.heap.size + 1 + 1 + 1) W []) := ⟨⟨_, o0, World.ownsRow_nil _ _ _ _⟩, by omega, by omega, HT.out.grew G0.out, by omega, by omega⟩
  clear hW o0
  have V := HCC.out W _ _ S0.out G0.out
  cases R with
  | error e =>
    refine V.mono ?_
    rintro en w2 ⟨⟨p, rfl⟩, t2⟩
    have g2 : Grew w w2 := (t2.turn (G0.out.turn _) (by omega)).grew (Grew.refl w) (by intro y hy; simp at hy; omega)
    have E3 := t2.other E0.out (by omega) (by omega)
    have c0 := cell_of E3 0
    simp [ic] at c0
    clear V t2
    unfold flt
    go_wp2_with fail
    refine leaves_cons (f := 42) (args := #[.pointer (some ⟨w.heap.size + 1, 0, none⟩)]) (by simp) (by simp [go_sem]) ?_
    refine (wcaughtA _ p e 0 [] _ E3).mono ?_
    rintro en u' w4 ⟨rfl, rfl, rfl⟩
    simp [Leaves, settle, results, Tryd.results27, go_sem, c0]
    exact ⟨rfl, g2.set (p := ⟨w.heap.size + 1, 0, none⟩) (by simp) _⟩
  | ok m =>
    refine V.mono ?_
    rintro en w2 ⟨rfl, t2, s2⟩
    have G2 : Hid (Grew w w2) := (t2.turn (G0.out.turn _) (by omega)).grew (Grew.refl w) (by intro y hy; simp at hy; omega)
    have E3 : Hid (w2.heap[w.heap.size + 1]? = some (ic 0 39)) := t2.other E0.out (by omega) (by omega)
    obtain ⟨o, ho, hw⟩ := s2.ex
    obtain ⟨oa, oc, rfl⟩ := row_one hw
    have q0 := cell_of ho 0
    have c0 := cell_of E3.out 0
    have y4 := free_of E3.out 0
    simp [ic] at c0
    simp at q0
    have rw1 : w2.ownsRow (w.heap.size + 1 + 1 + 1) 5 1 (.slice oa m.length oc) m.length (U8 m) := by simpa using hw
    have RW : Hid (w2.ownsRow (w.heap.size + 1 + 1 + 1) 5 1 (.slice oa m.length oc) m.length (U8 m)) := rw1
    clear rw1
    clear V t2 s2 ho hw
    go_wp2_with fail
    refine leaves_cons (f := 42) (args := #[.pointer (some ⟨w.heap.size + 1, 0, none⟩)]) (by simp) (by simp [go_sem]) ?_
    refine (widleA _ _).mono ?_
    rintro en u' w5 ⟨rfl, rfl, rfl⟩
    simp [Leaves, settle, results, Tryd.results27, go_sem, c0]
    exact ⟨_, rfl, row_low (row_set RW.out (NoT.of (t := 39) E3.out (by decide)) _) (by omega), G2.out.set (p := ⟨w.heap.size + 1, 0, none⟩) (by simp) _⟩
set_option maxRecDepth 100000 in
set_option maxHeartbeats 1000000 in
theorem wcaughtO (bE : Nat) (p e y : Int) (older : List PanicEntry) (w : World) (hE : w.heap[bE]? = some (ic y 39)) :
    CallsD Tryd.prog 45 #[.pointer (some ⟨bE, 0, none⟩)] (.panicking ({ v := .iface 78 (.agg #[.int .i64 p, .int .i64 e]), recovered := false } :: older)) w fun en u' w' =>
      en = .returned (.tuple #[]) ∧ u' = .panicking ({ v := .iface 78 (.agg #[.int .i64 p, .int .i64 e]), recovered := true } :: older) ∧ w' = w.setCell ⟨bE, 0, none⟩ (.int .i64 e) := by
  have c1 := cell_of hE 0
  have z1 := free_of hE 0
  simp at c1
  clear hE
  refine callsD_of_wpS Tryd.func45 rfl fun c₀ cs hu => ?_
  apply wpS_seq
  apply wpS_region
  simp [wpOpsS, go_sem, recoverD, hu, Tryd.ntmps45, Exit.thenS]
  refine wpS_of_wp ?_
  rw [show (#[Value.pointer (some { block := bE, off := 0 })] ++
          ((Array.replicate 7 undef).setIfInBounds 1 (Value.iface 78 (Value.agg #[Value.int IntKind.i64 p, Value.int IntKind.i64 e]))).setIfInBounds 0 (Value.iface 78 (Value.agg #[Value.int IntKind.i64 p, Value.int IntKind.i64 e])) : Array Value) = #[Value.pointer (some { block := bE, off := 0 }), Value.iface 78 (Value.agg #[Value.int IntKind.i64 p, Value.int IntKind.i64 e]), Value.iface 78 (Value.agg #[Value.int IntKind.i64 p, Value.int IntKind.i64 e]), undef, undef, undef, undef, undef] from rfl]
  clear hu
  have ha := assertF
  have hf := fieldE
  go_wp2
  simp [bodyPostS, results, Tryd.results45]
theorem widleO (bE : Nat) (w : World) :
    CallsD Tryd.prog 45 #[.pointer (some ⟨bE, 0, none⟩)] .returning w fun en u' w' => en = .returned (.tuple #[]) ∧ u' = .returning ∧ w' = w := by
  refine callsD_of_wpS Tryd.func45 rfl fun c₀ cs hu => ?_
  apply wpS_seq
  apply wpS_region
  simp [wpOpsS, go_sem, recoverD, hu, Tryd.ntmps45, Exit.thenS]
  refine wpS_of_wp ?_
  rw [show (#[Value.pointer (some { block := bE, off := 0 })] ++
          ((Array.replicate 7 undef).setIfInBounds 1 Value.nilIface).setIfInBounds 0 Value.nilIface : Array Value) = #[Value.pointer (some { block := bE, off := 0 }), .nilIface, .nilIface, undef, undef, undef, undef, undef] from rfl]
  go_wp2
  cases c₀
  simp_all [bodyPostS, results, Tryd.results45]
set_option maxRecDepth 100000 in
set_option maxHeartbeats 1000000 in
theorem writtenO_any (n hp : Int) (nul mu : Bool) (w : World) (hT : Tab w) (R : Except Nat (List Int))
    (HC : ∀ (W : World) (b B : Nat), WS b B W [] → Grew w W → Calls Tryd.prog 30 #[.pointer (some ⟨b, 0, none⟩), .agg #[.int .i64 n, .bool nul, .int .i64 hp, .bool mu]] W (WAns b B W [] R)) :
    Calls Tryd.prog 29 #[.agg #[.int .i64 n, .bool nul, .int .i64 hp, .bool mu], .func (.func 30) #[] #[]] w (PAns w R) := by
  have hmf : ∀ (fn : Fn) (first cap : Array Value) (w : World), (Instr.makeFunc fn first cap).run Tryd.prog w = .ok (.func fn first cap) w := fun _ _ _ _ => rfl
  have HT : Hid (Tab w) := hT
  have hpos := hT.pos
  have HCC : Hid (∀ (W : World) (b B : Nat), WS b B W [] → Grew w W → Calls Tryd.prog 30 #[.pointer (some ⟨b, 0, none⟩), .agg #[.int .i64 n, .bool nul, .int .i64 hp, .bool mu]] W (WAns b B W [] R)) := HC
  clear hT HC
  go_enter_defers Tryd.func29, Tryd.ntmps29
  go_wp2_with fail
  generalize hW : ((w.alloc (Obj.cells #[Value.int IntKind.i64 n, Value.bool nul, Value.int IntKind.i64 hp, Value.bool mu] 30)).alloc (Obj.cells #[Value.int IntKind.i64 0] 39)).alloc (Obj.cells #[Value.slice none 0 0] 80) = W
  have G0 : Hid (Grew w W) := by rw [← hW]; exact (((Grew.refl w).alloc _).alloc _).alloc _
  obtain ⟨X0, E0, o0⟩ : Hid (W.heap[w.heap.size]? = some (.cells #[.int .i64 n, .bool nul, .int .i64 hp, .bool mu] 30 (0, 0))) ∧ Hid (W.heap[w.heap.size + 1]? = some (ic 0 39)) ∧ W.heap[w.heap.size + 1 + 1]? = some (wob (.slice none 0 0)) := by
    rw [← hW]
    exact heap_three _ _ _ _
  have hsz : W.heap.size = w.heap.size + 1 + 1 + 1 := by rw [← hW]; simp
  have S0 : Hid (WS (w.heap.size + 1 + 1) (w.heap.size + 1 + 1 + 1) W []) := ⟨⟨_, o0, World.ownsRow_nil _ _ _ _⟩, by omega, by omega, HT.out.grew G0.out, by omega, by omega⟩
  clear hW o0
  have V := HCC.out W _ _ S0.out G0.out
  cases R with
  | error e =>
    refine V.mono ?_
    rintro en w2 ⟨⟨p, rfl⟩, t2⟩
    have g2 : Grew w w2 := (t2.turn (G0.out.turn _) (by omega)).grew (Grew.refl w) (by intro y hy; simp at hy; omega)
    have E3 := t2.other E0.out (by omega) (by omega)
    have c0 := cell_of E3 0
    simp [ic] at c0
    clear V t2
    unfold flt
    go_wp2_with fail
    refine leaves_cons (f := 45) (args := #[.pointer (some ⟨w.heap.size + 1, 0, none⟩)]) (by simp) (by simp [go_sem]) ?_
    refine (wcaughtO _ p e 0 [] _ E3).mono ?_
    rintro en u' w4 ⟨rfl, rfl, rfl⟩
    simp [Leaves, settle, results, Tryd.results29, go_sem, c0]
    exact ⟨rfl, g2.set (p := ⟨w.heap.size + 1, 0, none⟩) (by simp) _⟩
  | ok m =>
    refine V.mono ?_
    rintro en w2 ⟨rfl, t2, s2⟩
    have G2 : Hid (Grew w w2) := (t2.turn (G0.out.turn _) (by omega)).grew (Grew.refl w) (by intro y hy; simp at hy; omega)
    have E3 : Hid (w2.heap[w.heap.size + 1]? = some (ic 0 39)) := t2.other E0.out (by omega) (by omega)
    obtain ⟨o, ho, hw⟩ := s2.ex
    obtain ⟨oa, oc, rfl⟩ := row_one hw
    have q0 := cell_of ho 0
    have c0 := cell_of E3.out 0
    have y4 := free_of E3.out 0
    simp [ic] at c0
    simp at q0
    have rw1 : w2.ownsRow (w.heap.size + 1 + 1 + 1) 5 1 (.slice oa m.length oc) m.length (U8 m) := by simpa using hw
    have RW : Hid (w2.ownsRow (w.heap.size + 1 + 1 + 1) 5 1 (.slice oa m.length oc) m.length (U8 m)) := rw1
    clear rw1
    clear V t2 s2 ho hw
    go_wp2_with fail
    refine leaves_cons (f := 45) (args := #[.pointer (some ⟨w.heap.size + 1, 0, none⟩)]) (by simp) (by simp [go_sem]) ?_
    refine (widleO _ _).mono ?_
    rintro en u' w5 ⟨rfl, rfl, rfl⟩
    simp [Leaves, settle, results, Tryd.results29, go_sem, c0]
    exact ⟨_, rfl, row_low (row_set RW.out (NoT.of (t := 39) E3.out (by decide)) _) (by omega), G2.out.set (p := ⟨w.heap.size + 1, 0, none⟩) (by simp) _⟩
set_option maxRecDepth 100000 in
set_option maxHeartbeats 1000000 in
theorem pPutTab_any (w : World) (hT : Tab w) (n hp : Int) (nul wide hm : Bool) (mn mx : Int) (hm0 : 0 ≤ mn) (hm1 : mn ≤ 18446744073709551615) (hx0 : 0 ≤ mx) (hx1 : mx ≤ 18446744073709551615) : Calls Tryd.prog 9 #[.agg #[.int .i64 n, .bool nul, .int .i64 hp, .bool wide, .int .u64 mn, .int .u64 mx, .bool hm]] w (PAns w (tabW ⟨n, nul, hp⟩ wide mn mx hm)) := by
  have C := writtenA_any n hp nul wide hm mn mx (w.alloc (.cells #[.int .i64 n, .bool nul, .int .i64 hp, .bool wide, .int .u64 mn, .int .u64 mx, .bool hm] 28)) (hT.grew ((Grew.refl w).alloc _)) (tabW ⟨n, nul, hp⟩ wide mn mx hm) (fun W b B hS _ => W2.wans (tableType2 hS n hp nul wide hm mn mx hm0 hm1 hx0 hx1 (by simp)))
  clear hT
  generalize tabW ⟨n, nul, hp⟩ wide mn mx hm = R at *
  go_enter Tryd.func9, Tryd.ntmps9
  go_wp2_with fail
  refine C.mono ?_
  intro en w1 ha
  clear C
  cases R with
  | error e =>
    obtain ⟨rfl, g1⟩ := ha
    have G1 : Hid (Grew w w1) := ((Grew.refl w).alloc _).trans g1
    clear g1
    go_wp2_with fail
    go_ret2
    exact ⟨rfl, G1.out⟩
  | ok m =>
    obtain ⟨rv, rfl, r1, g1⟩ := ha
    have G1 : Hid (Grew w w1) := ((Grew.refl w).alloc _).trans g1
    have R1 : Hid (w1.ownsRow w.heap.size 5 1 rv m.length (U8 m)) := row_low r1 (by rw [alloc_size]; omega)
    obtain ⟨ra, rc, rfl⟩ := row_one r1
    clear g1 r1
    go_wp2_with fail
    go_ret2
    exact ⟨_, rfl, R1.out, G1.out⟩
set_option maxRecDepth 100000 in
set_option maxHeartbeats 1000000 in
theorem pPutGlo_any (w : World) (hT : Tab w) (n hp : Int) (nul mu : Bool) : Calls Tryd.prog 11 #[.agg #[.int .i64 n, .bool nul, .int .i64 hp, .bool mu]] w (PAns w (gloW ⟨n, nul, hp⟩ mu)) := by
  have C := writtenO_any n hp nul mu (w.alloc (.cells #[.int .i64 n, .bool nul, .int .i64 hp, .bool mu] 30)) (hT.grew ((Grew.refl w).alloc _)) (gloW ⟨n, nul, hp⟩ mu) (fun W b B hS _ => W2.wans (globalType2 hS n hp nul mu (by simp)))
  clear hT
  generalize gloW ⟨n, nul, hp⟩ mu = R at *
  go_enter Tryd.func11, Tryd.ntmps11
  go_wp2_with fail
  refine C.mono ?_
  intro en w1 ha
  clear C
  cases R with
  | error e =>
    obtain ⟨rfl, g1⟩ := ha
    have G1 : Hid (Grew w w1) := ((Grew.refl w).alloc _).trans g1
    clear g1
    go_wp2_with fail
    go_ret2
    exact ⟨rfl, G1.out⟩
  | ok m =>
    obtain ⟨rv, rfl, r1, g1⟩ := ha
    have G1 : Hid (Grew w w1) := ((Grew.refl w).alloc _).trans g1
    have R1 : Hid (w1.ownsRow w.heap.size 5 1 rv m.length (U8 m)) := row_low r1 (by rw [alloc_size]; omega)
    obtain ⟨ra, rc, rfl⟩ := row_one r1
    clear g1 r1
    go_wp2_with fail
    go_ret2
    exact ⟨_, rfl, R1.out, G1.out⟩
end Go.Proofs.YtfnfbioenngjoaaDoor
