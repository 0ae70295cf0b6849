/-
  Same at equal instructions, by form; no statement is proved here.
-/
import Derived.Test.YtohapnninjdlfaaGreatDoorRm9
namespace Go.Proofs.YtohapnninjdlfaaGreatDoor
open Go.RowKit
set_option linter.unusedVariables false
set_option linter.unusedSimpArgs false
set_option linter.constructorNameAsVariable false

set_option maxRecDepth 100000 in
set_option maxHeartbeats 4000000 in
theorem same13_any (op x y n al me off bt bn bh : Int) (bz : Bool) (labs : List Int) (tys : List VT) (cas : List CA) (la1 la2 ta1 ta2 ca1 ca2 : Option Addr) (lc1 lc2 tc1 tc2 cc1 cc2 : Nat) (w : World) (B : Nat) (rl1 : RowU B w (.slice la1 labs.length lc1) labs) (rl2 : RowU B w (.slice la2 labs.length lc2) labs) (rt1 : RowV B w (.slice ta1 tys.length tc1) tys) (rt2 : RowV B w (.slice ta2 tys.length tc2) tys) (rc1 : RowC B w (.slice ca1 cas.length cc1) cas) (rc2 : RowC B w (.slice ca2 cas.length cc2) cas) (h0 : 0 ≤ op) (hop : op ≤ 65535) (hk : formP op = 13) :
    Calls Tryz.prog 6 #[.agg #[.int .i64 op, .int .u32 x, .int .u32 y, .int .u64 n, .int .u32 al, .int .u32 me, .int .u64 off, .int .i64 bt, .int .i64 bn, .bool bz, .int .i64 bh, .slice none 0 0, .slice none 0 0, .bool false, .slice la1 labs.length lc1, .slice ta1 tys.length tc1, .slice ca1 cas.length cc1], .agg #[.int .i64 op, .int .u32 x, .int .u32 y, .int .u64 n, .int .u32 al, .int .u32 me, .int .u64 off, .int .i64 bt, .int .i64 bn, .bool bz, .int .i64 bh, .slice none 0 0, .slice none 0 0, .bool false, .slice la2 labs.length lc2, .slice ta2 tys.length tc2, .slice ca2 cas.length cc2]] w fun en w' => en = .returned (.bool true) ∧ Grew w w' := by
  have HL1 : Hid (RowU B w (.slice la1 labs.length lc1) labs) := rl1
  have HL2 : Hid (RowU B w (.slice la2 labs.length lc2) labs) := rl2
  have HT1 : Hid (RowV B w (.slice ta1 tys.length tc1) tys) := rt1
  have HT2 : Hid (RowV B w (.slice ta2 tys.length tc2) tys) := rt2
  have HC1 : Hid (RowC B w (.slice ca1 cas.length cc1) cas) := rc1
  have HC2 : Hid (RowC B w (.slice ca2 cas.length cc2) cas) := rc2
  obtain ⟨GW, h1, h2⟩ := two_alloc2 w #[.int .i64 op, .int .u32 x, .int .u32 y, .int .u64 n, .int .u32 al, .int .u32 me, .int .u64 off, .int .i64 bt, .int .i64 bn, .bool bz, .int .i64 bh, .slice none 0 0, .slice none 0 0, .bool false, .slice la1 labs.length lc1, .slice ta1 tys.length tc1, .slice ca1 cas.length cc1] #[.int .i64 op, .int .u32 x, .int .u32 y, .int .u64 n, .int .u32 al, .int .u32 me, .int .u64 off, .int .i64 bt, .int .i64 bn, .bool bz, .int .i64 bh, .slice none 0 0, .slice none 0 0, .bool false, .slice la2 labs.length lc2, .slice ta2 tys.length tc2, .slice ca2 cas.length cc2] 36
  clear rl1 rl2 rt1 rt2 rc1 rc2
  have HWD : Hid (BA (formD op) = BA [104, 101, 97, 112]) := by show BA (formD op) = _; rw [word_is, hk]; rfl
  have HK : Hid (formP op = 13) := hk
  clear hk
  go_enter Tryz.func6, Tryz.ntmps6
  go_wp2_with (first
    | with_reducible refine stop_load 3 rfl ?_
    | fail)
  generalize (w.alloc (.cells #[.int .i64 op, .int .u32 x, .int .u32 y, .int .u64 n, .int .u32 al, .int .u32 me, .int .u64 off, .int .i64 bt, .int .i64 bn, .bool bz, .int .i64 bh, .slice none 0 0, .slice none 0 0, .bool false, .slice la1 labs.length lc1, .slice ta1 tys.length tc1, .slice ca1 cas.length cc1] 36)).alloc (.cells #[.int .i64 op, .int .u32 x, .int .u32 y, .int .u64 n, .int .u32 al, .int .u32 me, .int .u64 off, .int .i64 bt, .int .i64 bn, .bool bz, .int .i64 bh, .slice none 0 0, .slice none 0 0, .bool false, .slice la2 labs.length lc2, .slice ta2 tys.length tc2, .slice ca2 cas.length cc2] 36) = W at *
  have p0 := cell_of h1 0
  have q0 := cell_of h2 0
  have p1 := cell_of h1 1
  have q1 := cell_of h2 1
  have p2 := cell_of h1 2
  have q2 := cell_of h2 2
  have p3 := cell_of h1 3
  have q3 := cell_of h2 3
  have p4 := cell_of h1 4
  have q4 := cell_of h2 4
  have p5 := cell_of h1 5
  have q5 := cell_of h2 5
  have p6 := cell_of h1 6
  have q6 := cell_of h2 6
  have p7 := cell_of h1 7
  have q7 := cell_of h2 7
  have p8 := cell_of h1 8
  have q8 := cell_of h2 8
  have p9 := cell_of h1 9
  have q9 := cell_of h2 9
  have p10 := cell_of h1 10
  have q10 := cell_of h2 10
  have p11 := cell_of h1 11
  have q11 := cell_of h2 11
  have p12 := cell_of h1 12
  have q12 := cell_of h2 12
  have p13 := cell_of h1 13
  have q13 := cell_of h2 13
  have p14 := cell_of h1 14
  have q14 := cell_of h2 14
  have p15 := cell_of h1 15
  have q15 := cell_of h2 15
  have p16 := cell_of h1 16
  have q16 := cell_of h2 16
  simp at p0 q0 p1 q1 p2 q2 p3 q3 p4 q4 p5 q5 p6 q6 p7 q7 p8 q8 p9 q9 p10 q10 p11 q11 p12 q12 p13 q13 p14 q14 p15 q15 p16 q16
  have H1 : Hid (W.heap[w.heap.size]? = some (.cells #[.int .i64 op, .int .u32 x, .int .u32 y, .int .u64 n, .int .u32 al, .int .u32 me, .int .u64 off, .int .i64 bt, .int .i64 bn, .bool bz, .int .i64 bh, .slice none 0 0, .slice none 0 0, .bool false, .slice la1 labs.length lc1, .slice ta1 tys.length tc1, .slice ca1 cas.length cc1] 36 (0, 0))) := h1
  have H2 : Hid (W.heap[w.heap.size + 1]? = some (.cells #[.int .i64 op, .int .u32 x, .int .u32 y, .int .u64 n, .int .u32 al, .int .u32 me, .int .u64 off, .int .i64 bt, .int .i64 bn, .bool bz, .int .i64 bh, .slice none 0 0, .slice none 0 0, .bool false, .slice la2 labs.length lc2, .slice ta2 tys.length tc2, .slice ca2 cas.length cc2] 36 (0, 0))) := h2
  clear h1 h2
  unfold Stop
  have hlt1 : w.heap.size < W.heap.size := lt_of_obj H1.out
  have hlt2 : w.heap.size + 1 < W.heap.size := lt_of_obj H2.out
  go_wp2_with fail
  refine (refForm_any op (by omega) (by omega) W).mono ?_
  rintro en w1 ⟨rfl, g1⟩
  have G1 : Hid (Grew W w1) := g1
  rw [HWD.out]
  obtain ⟨sx, hsx⟩ : ∃ sx, BA [104, 101, 97, 112] = sx := ⟨_, rfl⟩
  rw [hsx]
  have q0s : (sx.toList == [98, 108, 111, 99, 107]) = false := by rw [← hsx, ba_list]; decide
  have q1s : (sx.toList == [116, 114, 121]) = false := by rw [← hsx, ba_list]; decide
  have q2s : (sx.toList == [120]) = false := by rw [← hsx, ba_list]; decide
  have q3s : (sx.toList == [120, 121]) = false := by rw [← hsx, ba_list]; decide
  have q4s : (sx.toList == [120, 110]) = false := by rw [← hsx, ba_list]; decide
  have q5s : (sx.toList == [116, 97, 98, 108, 101]) = false := by rw [← hsx, ba_list]; decide
  have q6s : (sx.toList == [115, 101, 108, 101, 99, 116]) = false := by rw [← hsx, ba_list]; decide
  have q7s : (sx.toList == [104, 101, 97, 112]) = true := by rw [← hsx, ba_list]; decide
  clear hsx
  have p15a := cell_gr hlt1 p15 g1
  have q15a := cell_gr hlt2 q15 g1
  clear g1
  go_wp2_with fail
  refine (sameVals_any (row_turn HT1.out ((GW.out.trans G1.out).turn []) (by simp)) (row_turn HT2.out ((GW.out.trans G1.out).turn []) (by simp)) (row_max HT1.out)).mono ?_
  rintro en w6 ⟨rfl, g6⟩
  have G6 : Hid (Grew W w6) := G1.out.trans g6
  clear g6
  go_wp2_with fail
  go_ret
  exact ⟨rfl, GW.out.trans G6.out⟩
set_option maxRecDepth 100000 in
set_option maxHeartbeats 4000000 in
theorem same14_any (op x y n al me off bt bn bh : Int) (bz : Bool) (labs : List Int) (tys : List VT) (cas : List CA) (la1 la2 ta1 ta2 ca1 ca2 : Option Addr) (lc1 lc2 tc1 tc2 cc1 cc2 : Nat) (w : World) (B : Nat) (rl1 : RowU B w (.slice la1 labs.length lc1) labs) (rl2 : RowU B w (.slice la2 labs.length lc2) labs) (rt1 : RowV B w (.slice ta1 tys.length tc1) tys) (rt2 : RowV B w (.slice ta2 tys.length tc2) tys) (rc1 : RowC B w (.slice ca1 cas.length cc1) cas) (rc2 : RowC B w (.slice ca2 cas.length cc2) cas) (h0 : 0 ≤ op) (hop : op ≤ 65535) (hk : formP op = 14) :
    Calls Tryz.prog 6 #[.agg #[.int .i64 op, .int .u32 x, .int .u32 y, .int .u64 n, .int .u32 al, .int .u32 me, .int .u64 off, .int .i64 bt, .int .i64 bn, .bool bz, .int .i64 bh, .slice none 0 0, .slice none 0 0, .bool false, .slice la1 labs.length lc1, .slice ta1 tys.length tc1, .slice ca1 cas.length cc1], .agg #[.int .i64 op, .int .u32 x, .int .u32 y, .int .u64 n, .int .u32 al, .int .u32 me, .int .u64 off, .int .i64 bt, .int .i64 bn, .bool bz, .int .i64 bh, .slice none 0 0, .slice none 0 0, .bool false, .slice la2 labs.length lc2, .slice ta2 tys.length tc2, .slice ca2 cas.length cc2]] w fun en w' => en = .returned (.bool true) ∧ Grew w w' := by
  have HL1 : Hid (RowU B w (.slice la1 labs.length lc1) labs) := rl1
  have HL2 : Hid (RowU B w (.slice la2 labs.length lc2) labs) := rl2
  have HT1 : Hid (RowV B w (.slice ta1 tys.length tc1) tys) := rt1
  have HT2 : Hid (RowV B w (.slice ta2 tys.length tc2) tys) := rt2
  have HC1 : Hid (RowC B w (.slice ca1 cas.length cc1) cas) := rc1
  have HC2 : Hid (RowC B w (.slice ca2 cas.length cc2) cas) := rc2
  obtain ⟨GW, h1, h2⟩ := two_alloc2 w #[.int .i64 op, .int .u32 x, .int .u32 y, .int .u64 n, .int .u32 al, .int .u32 me, .int .u64 off, .int .i64 bt, .int .i64 bn, .bool bz, .int .i64 bh, .slice none 0 0, .slice none 0 0, .bool false, .slice la1 labs.length lc1, .slice ta1 tys.length tc1, .slice ca1 cas.length cc1] #[.int .i64 op, .int .u32 x, .int .u32 y, .int .u64 n, .int .u32 al, .int .u32 me, .int .u64 off, .int .i64 bt, .int .i64 bn, .bool bz, .int .i64 bh, .slice none 0 0, .slice none 0 0, .bool false, .slice la2 labs.length lc2, .slice ta2 tys.length tc2, .slice ca2 cas.length cc2] 36
  clear rl1 rl2 rt1 rt2 rc1 rc2
  have HWD : Hid (BA (formD op) = BA [99, 97, 115, 116]) := by show BA (formD op) = _; rw [word_is, hk]; rfl
  have HK : Hid (formP op = 14) := hk
  clear hk
  go_enter Tryz.func6, Tryz.ntmps6
  go_wp2_with (first
    | with_reducible refine stop_load 3 rfl ?_
    | fail)
  generalize (w.alloc (.cells #[.int .i64 op, .int .u32 x, .int .u32 y, .int .u64 n, .int .u32 al, .int .u32 me, .int .u64 off, .int .i64 bt, .int .i64 bn, .bool bz, .int .i64 bh, .slice none 0 0, .slice none 0 0, .bool false, .slice la1 labs.length lc1, .slice ta1 tys.length tc1, .slice ca1 cas.length cc1] 36)).alloc (.cells #[.int .i64 op, .int .u32 x, .int .u32 y, .int .u64 n, .int .u32 al, .int .u32 me, .int .u64 off, .int .i64 bt, .int .i64 bn, .bool bz, .int .i64 bh, .slice none 0 0, .slice none 0 0, .bool false, .slice la2 labs.length lc2, .slice ta2 tys.length tc2, .slice ca2 cas.length cc2] 36) = W at *
  have p0 := cell_of h1 0
  have q0 := cell_of h2 0
  have p1 := cell_of h1 1
  have q1 := cell_of h2 1
  have p2 := cell_of h1 2
  have q2 := cell_of h2 2
  have p3 := cell_of h1 3
  have q3 := cell_of h2 3
  have p4 := cell_of h1 4
  have q4 := cell_of h2 4
  have p5 := cell_of h1 5
  have q5 := cell_of h2 5
  have p6 := cell_of h1 6
  have q6 := cell_of h2 6
  have p7 := cell_of h1 7
  have q7 := cell_of h2 7
  have p8 := cell_of h1 8
  have q8 := cell_of h2 8
  have p9 := cell_of h1 9
  have q9 := cell_of h2 9
  have p10 := cell_of h1 10
  have q10 := cell_of h2 10
  have p11 := cell_of h1 11
  have q11 := cell_of h2 11
  have p12 := cell_of h1 12
  have q12 := cell_of h2 12
  have p13 := cell_of h1 13
  have q13 := cell_of h2 13
  have p14 := cell_of h1 14
  have q14 := cell_of h2 14
  have p15 := cell_of h1 15
  have q15 := cell_of h2 15
  have p16 := cell_of h1 16
  have q16 := cell_of h2 16
  simp at p0 q0 p1 q1 p2 q2 p3 q3 p4 q4 p5 q5 p6 q6 p7 q7 p8 q8 p9 q9 p10 q10 p11 q11 p12 q12 p13 q13 p14 q14 p15 q15 p16 q16
  have H1 : Hid (W.heap[w.heap.size]? = some (.cells #[.int .i64 op, .int .u32 x, .int .u32 y, .int .u64 n, .int .u32 al, .int .u32 me, .int .u64 off, .int .i64 bt, .int .i64 bn, .bool bz, .int .i64 bh, .slice none 0 0, .slice none 0 0, .bool false, .slice la1 labs.length lc1, .slice ta1 tys.length tc1, .slice ca1 cas.length cc1] 36 (0, 0))) := h1
  have H2 : Hid (W.heap[w.heap.size + 1]? = some (.cells #[.int .i64 op, .int .u32 x, .int .u32 y, .int .u64 n, .int .u32 al, .int .u32 me, .int .u64 off, .int .i64 bt, .int .i64 bn, .bool bz, .int .i64 bh, .slice none 0 0, .slice none 0 0, .bool false, .slice la2 labs.length lc2, .slice ta2 tys.length tc2, .slice ca2 cas.length cc2] 36 (0, 0))) := h2
  clear h1 h2
  unfold Stop
  have hlt1 : w.heap.size < W.heap.size := lt_of_obj H1.out
  have hlt2 : w.heap.size + 1 < W.heap.size := lt_of_obj H2.out
  go_wp2_with fail
  refine (refForm_any op (by omega) (by omega) W).mono ?_
  rintro en w1 ⟨rfl, g1⟩
  have G1 : Hid (Grew W w1) := g1
  rw [HWD.out]
  obtain ⟨sx, hsx⟩ : ∃ sx, BA [99, 97, 115, 116] = sx := ⟨_, rfl⟩
  rw [hsx]
  have q0s : (sx.toList == [98, 108, 111, 99, 107]) = false := by rw [← hsx, ba_list]; decide
  have q1s : (sx.toList == [116, 114, 121]) = false := by rw [← hsx, ba_list]; decide
  have q2s : (sx.toList == [120]) = false := by rw [← hsx, ba_list]; decide
  have q3s : (sx.toList == [120, 121]) = false := by rw [← hsx, ba_list]; decide
  have q4s : (sx.toList == [120, 110]) = false := by rw [← hsx, ba_list]; decide
  have q5s : (sx.toList == [116, 97, 98, 108, 101]) = false := by rw [← hsx, ba_list]; decide
  have q6s : (sx.toList == [115, 101, 108, 101, 99, 116]) = false := by rw [← hsx, ba_list]; decide
  have q7s : (sx.toList == [104, 101, 97, 112]) = false := by rw [← hsx, ba_list]; decide
  have q8s : (sx.toList == [99, 97, 115, 116]) = true := by rw [← hsx, ba_list]; decide
  clear hsx
  have p15a := cell_gr hlt1 p15 g1
  have q15a := cell_gr hlt2 q15 g1
  clear g1
  go_wp2_with fail
  refine (sameVals_any (row_turn HT1.out ((GW.out.trans G1.out).turn []) (by simp)) (row_turn HT2.out ((GW.out.trans G1.out).turn []) (by simp)) (row_max HT1.out)).mono ?_
  rintro en w6 ⟨rfl, g6⟩
  have G6 : Hid (Grew W w6) := G1.out.trans g6
  clear g6
  go_wp2_with fail
  go_ret
  exact ⟨rfl, GW.out.trans G6.out⟩
set_option maxRecDepth 100000 in
set_option maxHeartbeats 4000000 in
theorem same15_any (op x y n al me off bt bn bh : Int) (bz : Bool) (labs : List Int) (tys : List VT) (cas : List CA) (la1 la2 ta1 ta2 ca1 ca2 : Option Addr) (lc1 lc2 tc1 tc2 cc1 cc2 : Nat) (w : World) (B : Nat) (rl1 : RowU B w (.slice la1 labs.length lc1) labs) (rl2 : RowU B w (.slice la2 labs.length lc2) labs) (rt1 : RowV B w (.slice ta1 tys.length tc1) tys) (rt2 : RowV B w (.slice ta2 tys.length tc2) tys) (rc1 : RowC B w (.slice ca1 cas.length cc1) cas) (rc2 : RowC B w (.slice ca2 cas.length cc2) cas) (h0 : 0 ≤ op) (hop : op ≤ 65535) (hk : formP op = 15) :
    Calls Tryz.prog 6 #[.agg #[.int .i64 op, .int .u32 x, .int .u32 y, .int .u64 n, .int .u32 al, .int .u32 me, .int .u64 off, .int .i64 bt, .int .i64 bn, .bool bz, .int .i64 bh, .slice none 0 0, .slice none 0 0, .bool false, .slice la1 labs.length lc1, .slice ta1 tys.length tc1, .slice ca1 cas.length cc1], .agg #[.int .i64 op, .int .u32 x, .int .u32 y, .int .u64 n, .int .u32 al, .int .u32 me, .int .u64 off, .int .i64 bt, .int .i64 bn, .bool bz, .int .i64 bh, .slice none 0 0, .slice none 0 0, .bool false, .slice la2 labs.length lc2, .slice ta2 tys.length tc2, .slice ca2 cas.length cc2]] w fun en w' => en = .returned (.bool true) ∧ Grew w w' := by
  have HL1 : Hid (RowU B w (.slice la1 labs.length lc1) labs) := rl1
  have HL2 : Hid (RowU B w (.slice la2 labs.length lc2) labs) := rl2
  have HT1 : Hid (RowV B w (.slice ta1 tys.length tc1) tys) := rt1
  have HT2 : Hid (RowV B w (.slice ta2 tys.length tc2) tys) := rt2
  have HC1 : Hid (RowC B w (.slice ca1 cas.length cc1) cas) := rc1
  have HC2 : Hid (RowC B w (.slice ca2 cas.length cc2) cas) := rc2
  obtain ⟨GW, h1, h2⟩ := two_alloc2 w #[.int .i64 op, .int .u32 x, .int .u32 y, .int .u64 n, .int .u32 al, .int .u32 me, .int .u64 off, .int .i64 bt, .int .i64 bn, .bool bz, .int .i64 bh, .slice none 0 0, .slice none 0 0, .bool false, .slice la1 labs.length lc1, .slice ta1 tys.length tc1, .slice ca1 cas.length cc1] #[.int .i64 op, .int .u32 x, .int .u32 y, .int .u64 n, .int .u32 al, .int .u32 me, .int .u64 off, .int .i64 bt, .int .i64 bn, .bool bz, .int .i64 bh, .slice none 0 0, .slice none 0 0, .bool false, .slice la2 labs.length lc2, .slice ta2 tys.length tc2, .slice ca2 cas.length cc2] 36
  clear rl1 rl2 rt1 rt2 rc1 rc2
  have HWD : Hid (BA (formD op) = BA [98, 114, 95, 99, 97, 115, 116]) := by show BA (formD op) = _; rw [word_is, hk]; rfl
  have HK : Hid (formP op = 15) := hk
  clear hk
  go_enter Tryz.func6, Tryz.ntmps6
  go_wp2_with (first
    | with_reducible refine stop_load 3 rfl ?_
    | fail)
  generalize (w.alloc (.cells #[.int .i64 op, .int .u32 x, .int .u32 y, .int .u64 n, .int .u32 al, .int .u32 me, .int .u64 off, .int .i64 bt, .int .i64 bn, .bool bz, .int .i64 bh, .slice none 0 0, .slice none 0 0, .bool false, .slice la1 labs.length lc1, .slice ta1 tys.length tc1, .slice ca1 cas.length cc1] 36)).alloc (.cells #[.int .i64 op, .int .u32 x, .int .u32 y, .int .u64 n, .int .u32 al, .int .u32 me, .int .u64 off, .int .i64 bt, .int .i64 bn, .bool bz, .int .i64 bh, .slice none 0 0, .slice none 0 0, .bool false, .slice la2 labs.length lc2, .slice ta2 tys.length tc2, .slice ca2 cas.length cc2] 36) = W at *
  have p0 := cell_of h1 0
  have q0 := cell_of h2 0
  have p1 := cell_of h1 1
  have q1 := cell_of h2 1
  have p2 := cell_of h1 2
  have q2 := cell_of h2 2
  have p3 := cell_of h1 3
  have q3 := cell_of h2 3
  have p4 := cell_of h1 4
  have q4 := cell_of h2 4
  have p5 := cell_of h1 5
  have q5 := cell_of h2 5
  have p6 := cell_of h1 6
  have q6 := cell_of h2 6
  have p7 := cell_of h1 7
  have q7 := cell_of h2 7
  have p8 := cell_of h1 8
  have q8 := cell_of h2 8
  have p9 := cell_of h1 9
  have q9 := cell_of h2 9
  have p10 := cell_of h1 10
  have q10 := cell_of h2 10
  have p11 := cell_of h1 11
  have q11 := cell_of h2 11
  have p12 := cell_of h1 12
  have q12 := cell_of h2 12
  have p13 := cell_of h1 13
  have q13 := cell_of h2 13
  have p14 := cell_of h1 14
  have q14 := cell_of h2 14
  have p15 := cell_of h1 15
  have q15 := cell_of h2 15
  have p16 := cell_of h1 16
  have q16 := cell_of h2 16
  simp at p0 q0 p1 q1 p2 q2 p3 q3 p4 q4 p5 q5 p6 q6 p7 q7 p8 q8 p9 q9 p10 q10 p11 q11 p12 q12 p13 q13 p14 q14 p15 q15 p16 q16
  have H1 : Hid (W.heap[w.heap.size]? = some (.cells #[.int .i64 op, .int .u32 x, .int .u32 y, .int .u64 n, .int .u32 al, .int .u32 me, .int .u64 off, .int .i64 bt, .int .i64 bn, .bool bz, .int .i64 bh, .slice none 0 0, .slice none 0 0, .bool false, .slice la1 labs.length lc1, .slice ta1 tys.length tc1, .slice ca1 cas.length cc1] 36 (0, 0))) := h1
  have H2 : Hid (W.heap[w.heap.size + 1]? = some (.cells #[.int .i64 op, .int .u32 x, .int .u32 y, .int .u64 n, .int .u32 al, .int .u32 me, .int .u64 off, .int .i64 bt, .int .i64 bn, .bool bz, .int .i64 bh, .slice none 0 0, .slice none 0 0, .bool false, .slice la2 labs.length lc2, .slice ta2 tys.length tc2, .slice ca2 cas.length cc2] 36 (0, 0))) := h2
  clear h1 h2
  unfold Stop
  have hlt1 : w.heap.size < W.heap.size := lt_of_obj H1.out
  have hlt2 : w.heap.size + 1 < W.heap.size := lt_of_obj H2.out
  go_wp2_with fail
  refine (refForm_any op (by omega) (by omega) W).mono ?_
  rintro en w1 ⟨rfl, g1⟩
  have G1 : Hid (Grew W w1) := g1
  rw [HWD.out]
  obtain ⟨sx, hsx⟩ : ∃ sx, BA [98, 114, 95, 99, 97, 115, 116] = sx := ⟨_, rfl⟩
  rw [hsx]
  have q0s : (sx.toList == [98, 108, 111, 99, 107]) = false := by rw [← hsx, ba_list]; decide
  have q1s : (sx.toList == [116, 114, 121]) = false := by rw [← hsx, ba_list]; decide
  have q2s : (sx.toList == [120]) = false := by rw [← hsx, ba_list]; decide
  have q3s : (sx.toList == [120, 121]) = false := by rw [← hsx, ba_list]; decide
  have q4s : (sx.toList == [120, 110]) = false := by rw [← hsx, ba_list]; decide
  have q5s : (sx.toList == [116, 97, 98, 108, 101]) = false := by rw [← hsx, ba_list]; decide
  have q6s : (sx.toList == [115, 101, 108, 101, 99, 116]) = false := by rw [← hsx, ba_list]; decide
  have q7s : (sx.toList == [104, 101, 97, 112]) = false := by rw [← hsx, ba_list]; decide
  have q8s : (sx.toList == [99, 97, 115, 116]) = false := by rw [← hsx, ba_list]; decide
  have q9s : (sx.toList == [98, 114, 95, 99, 97, 115, 116]) = true := by rw [← hsx, ba_list]; decide
  clear hsx
  have p1a := cell_gr hlt1 p1 g1
  have q1a := cell_gr hlt2 q1 g1
  have p15a := cell_gr hlt1 p15 g1
  have q15a := cell_gr hlt2 q15 g1
  clear g1
  go_wp2_with fail
  refine (sameVals_any (row_turn HT1.out ((GW.out.trans G1.out).turn []) (by simp)) (row_turn HT2.out ((GW.out.trans G1.out).turn []) (by simp)) (row_max HT1.out)).mono ?_
  rintro en w6 ⟨rfl, g6⟩
  have G6 : Hid (Grew W w6) := G1.out.trans g6
  clear g6
  go_wp2_with fail
  go_ret
  exact ⟨rfl, GW.out.trans G6.out⟩
set_option maxRecDepth 100000 in
set_option maxHeartbeats 4000000 in
theorem same16_any (op x y n al me off bt bn bh : Int) (bz : Bool) (labs : List Int) (tys : List VT) (cas : List CA) (la1 la2 ta1 ta2 ca1 ca2 : Option Addr) (lc1 lc2 tc1 tc2 cc1 cc2 : Nat) (w : World) (B : Nat) (rl1 : RowU B w (.slice la1 labs.length lc1) labs) (rl2 : RowU B w (.slice la2 labs.length lc2) labs) (rt1 : RowV B w (.slice ta1 tys.length tc1) tys) (rt2 : RowV B w (.slice ta2 tys.length tc2) tys) (rc1 : RowC B w (.slice ca1 cas.length cc1) cas) (rc2 : RowC B w (.slice ca2 cas.length cc2) cas) (h0 : 0 ≤ op) (hop : op ≤ 65535) (hk : formP op = 16) :
    Calls Tryz.prog 6 #[.agg #[.int .i64 op, .int .u32 x, .int .u32 y, .int .u64 n, .int .u32 al, .int .u32 me, .int .u64 off, .int .i64 bt, .int .i64 bn, .bool bz, .int .i64 bh, .slice none 0 0, .slice none 0 0, .bool false, .slice la1 labs.length lc1, .slice ta1 tys.length tc1, .slice ca1 cas.length cc1], .agg #[.int .i64 op, .int .u32 x, .int .u32 y, .int .u64 n, .int .u32 al, .int .u32 me, .int .u64 off, .int .i64 bt, .int .i64 bn, .bool bz, .int .i64 bh, .slice none 0 0, .slice none 0 0, .bool false, .slice la2 labs.length lc2, .slice ta2 tys.length tc2, .slice ca2 cas.length cc2]] w fun en w' => en = .returned (.bool true) ∧ Grew w w' := by
  have HL1 : Hid (RowU B w (.slice la1 labs.length lc1) labs) := rl1
  have HL2 : Hid (RowU B w (.slice la2 labs.length lc2) labs) := rl2
  have HT1 : Hid (RowV B w (.slice ta1 tys.length tc1) tys) := rt1
  have HT2 : Hid (RowV B w (.slice ta2 tys.length tc2) tys) := rt2
  have HC1 : Hid (RowC B w (.slice ca1 cas.length cc1) cas) := rc1
  have HC2 : Hid (RowC B w (.slice ca2 cas.length cc2) cas) := rc2
  obtain ⟨GW, h1, h2⟩ := two_alloc2 w #[.int .i64 op, .int .u32 x, .int .u32 y, .int .u64 n, .int .u32 al, .int .u32 me, .int .u64 off, .int .i64 bt, .int .i64 bn, .bool bz, .int .i64 bh, .slice none 0 0, .slice none 0 0, .bool false, .slice la1 labs.length lc1, .slice ta1 tys.length tc1, .slice ca1 cas.length cc1] #[.int .i64 op, .int .u32 x, .int .u32 y, .int .u64 n, .int .u32 al, .int .u32 me, .int .u64 off, .int .i64 bt, .int .i64 bn, .bool bz, .int .i64 bh, .slice none 0 0, .slice none 0 0, .bool false, .slice la2 labs.length lc2, .slice ta2 tys.length tc2, .slice ca2 cas.length cc2] 36
  clear rl1 rl2 rt1 rt2 rc1 rc2
  have HWD : Hid (BA (formD op) = BA [120, 110]) := by show BA (formD op) = _; rw [word_is, hk]; rfl
  have HK : Hid (formP op = 16) := hk
  clear hk
  go_enter Tryz.func6, Tryz.ntmps6
  go_wp2_with (first
    | with_reducible refine stop_load 3 rfl ?_
    | fail)
  generalize (w.alloc (.cells #[.int .i64 op, .int .u32 x, .int .u32 y, .int .u64 n, .int .u32 al, .int .u32 me, .int .u64 off, .int .i64 bt, .int .i64 bn, .bool bz, .int .i64 bh, .slice none 0 0, .slice none 0 0, .bool false, .slice la1 labs.length lc1, .slice ta1 tys.length tc1, .slice ca1 cas.length cc1] 36)).alloc (.cells #[.int .i64 op, .int .u32 x, .int .u32 y, .int .u64 n, .int .u32 al, .int .u32 me, .int .u64 off, .int .i64 bt, .int .i64 bn, .bool bz, .int .i64 bh, .slice none 0 0, .slice none 0 0, .bool false, .slice la2 labs.length lc2, .slice ta2 tys.length tc2, .slice ca2 cas.length cc2] 36) = W at *
  have p0 := cell_of h1 0
  have q0 := cell_of h2 0
  have p1 := cell_of h1 1
  have q1 := cell_of h2 1
  have p2 := cell_of h1 2
  have q2 := cell_of h2 2
  have p3 := cell_of h1 3
  have q3 := cell_of h2 3
  have p4 := cell_of h1 4
  have q4 := cell_of h2 4
  have p5 := cell_of h1 5
  have q5 := cell_of h2 5
  have p6 := cell_of h1 6
  have q6 := cell_of h2 6
  have p7 := cell_of h1 7
  have q7 := cell_of h2 7
  have p8 := cell_of h1 8
  have q8 := cell_of h2 8
  have p9 := cell_of h1 9
  have q9 := cell_of h2 9
  have p10 := cell_of h1 10
  have q10 := cell_of h2 10
  have p11 := cell_of h1 11
  have q11 := cell_of h2 11
  have p12 := cell_of h1 12
  have q12 := cell_of h2 12
  have p13 := cell_of h1 13
  have q13 := cell_of h2 13
  have p14 := cell_of h1 14
  have q14 := cell_of h2 14
  have p15 := cell_of h1 15
  have q15 := cell_of h2 15
  have p16 := cell_of h1 16
  have q16 := cell_of h2 16
  simp at p0 q0 p1 q1 p2 q2 p3 q3 p4 q4 p5 q5 p6 q6 p7 q7 p8 q8 p9 q9 p10 q10 p11 q11 p12 q12 p13 q13 p14 q14 p15 q15 p16 q16
  have H1 : Hid (W.heap[w.heap.size]? = some (.cells #[.int .i64 op, .int .u32 x, .int .u32 y, .int .u64 n, .int .u32 al, .int .u32 me, .int .u64 off, .int .i64 bt, .int .i64 bn, .bool bz, .int .i64 bh, .slice none 0 0, .slice none 0 0, .bool false, .slice la1 labs.length lc1, .slice ta1 tys.length tc1, .slice ca1 cas.length cc1] 36 (0, 0))) := h1
  have H2 : Hid (W.heap[w.heap.size + 1]? = some (.cells #[.int .i64 op, .int .u32 x, .int .u32 y, .int .u64 n, .int .u32 al, .int .u32 me, .int .u64 off, .int .i64 bt, .int .i64 bn, .bool bz, .int .i64 bh, .slice none 0 0, .slice none 0 0, .bool false, .slice la2 labs.length lc2, .slice ta2 tys.length tc2, .slice ca2 cas.length cc2] 36 (0, 0))) := h2
  clear h1 h2
  unfold Stop
  have hlt1 : w.heap.size < W.heap.size := lt_of_obj H1.out
  have hlt2 : w.heap.size + 1 < W.heap.size := lt_of_obj H2.out
  go_wp2_with fail
  refine (refForm_any op (by omega) (by omega) W).mono ?_
  rintro en w1 ⟨rfl, g1⟩
  have G1 : Hid (Grew W w1) := g1
  rw [HWD.out]
  obtain ⟨sx, hsx⟩ : ∃ sx, BA [120, 110] = sx := ⟨_, rfl⟩
  rw [hsx]
  have q0s : (sx.toList == [98, 108, 111, 99, 107]) = false := by rw [← hsx, ba_list]; decide
  have q1s : (sx.toList == [116, 114, 121]) = false := by rw [← hsx, ba_list]; decide
  have q2s : (sx.toList == [120]) = false := by rw [← hsx, ba_list]; decide
  have q3s : (sx.toList == [120, 121]) = false := by rw [← hsx, ba_list]; decide
  have q4s : (sx.toList == [120, 110]) = true := by rw [← hsx, ba_list]; decide
  clear hsx
  have p1a := cell_gr hlt1 p1 g1
  have q1a := cell_gr hlt2 q1 g1
  have p3a := cell_gr hlt1 p3 g1
  have q3a := cell_gr hlt2 q3 g1
  clear g1
  go_wp2_with fail
  go_ret
  exact ⟨rfl, (GW.out.trans G1.out)⟩
end Go.Proofs.YtohapnninjdlfaaGreatDoor
