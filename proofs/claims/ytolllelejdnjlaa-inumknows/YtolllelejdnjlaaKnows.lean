/-
  Proved: for every opcode InumKnows returns true, and the argument reads as before: which opcodes are operators on whole numbers, how many values each takes, of which types, and its name, are as the document tells. No conditions.
-/
import Derived.Test.YtolllelejdnjlaaKnowW
import Derived.ChangeMaps5
import Derived.ShutString
import Derived.ChangeOld
import Derived.Below
import Derived.SizedLaws
import Derived.BigQuiet
namespace Go.Proofs.Ytolllelejdnjlaa
open Go.RowKit
set_option linter.unusedVariables false
set_option linter.unusedSimpArgs false

set_option maxRecDepth 100000 in
theorem ans_t (op : Int) (w : World) (h0 : 69 ≤ op) (h1 : op ≤ 90)
    (T : Hid (∀ w : World, Calls Try.prog 24 #[.int .i64 op] w fun e w' => e = .returned (.bool true) ∧ w' = w)) :
    Calls Try.prog 14 #[.int .i64 op] w fun e w' => e = .returned (.int .i64 32) ∧ w' = w := by
  go_enter Try.func14, Try.ntmps14
  go_wp2_with fail
  refine (T.out _).mono ?_
  rintro e w1 ⟨rfl, hw⟩
  obtain rfl := hw.symm
  go_wp2_with fail
  go_ret
  exact ⟨rfl, rfl⟩
set_option maxRecDepth 100000 in
theorem ans_w (op : Int) (w : World) (h : op = 167)
    (T : Hid (∀ w : World, Calls Try.prog 24 #[.int .i64 op] w fun e w' => e = .returned (.bool false) ∧ w' = w)) :
    Calls Try.prog 14 #[.int .i64 op] w fun e w' => e = .returned (.int .i64 32) ∧ w' = w := by
  subst h
  go_enter Try.func14, Try.ntmps14
  go_wp2_with fail
  refine (T.out _).mono ?_
  rintro e w1 ⟨rfl, hw⟩
  obtain rfl := hw.symm
  go_wp2_with fail
  go_ret
  exact ⟨rfl, rfl⟩
set_option maxRecDepth 100000 in
theorem ans_e (op : Int) (w : World) (h0 : 172 ≤ op) (h1 : op ≤ 173)
    (T : Hid (∀ w : World, Calls Try.prog 24 #[.int .i64 op] w fun e w' => e = .returned (.bool false) ∧ w' = w)) :
    Calls Try.prog 14 #[.int .i64 op] w fun e w' => e = .returned (.int .i64 64) ∧ w' = w := by
  have b0 : (op == 167) = false := beq_eq_false_iff_ne.2 (by omega)
  have hh : op = 172 ∨ op = 173 := by omega
  rcases hh with rfl | rfl <;>
  · go_enter Try.func14, Try.ntmps14
    go_wp2_with fail
    refine (T.out _).mono ?_
    rintro e w1 ⟨rfl, hw⟩
    obtain rfl := hw.symm
    go_wp2_with fail
    go_ret
    exact ⟨rfl, rfl⟩
set_option maxRecDepth 100000 in
theorem ans_b (op B : Int) (w : World) (h0 : 91 ≤ op) (h1 : ¬ op = 167) (h2 : ¬ op = 172) (h3 : ¬ op = 173)
    (T : Hid (∀ w : World, Calls Try.prog 24 #[.int .i64 op] w fun e w' => e = .returned (.bool false) ∧ w' = w))
    (BB : Hid (∀ w : World, Calls Try.prog 13 #[.int .i64 op] w fun e w' => e = .returned (.int .i64 B) ∧ w' = w)) :
    Calls Try.prog 14 #[.int .i64 op] w fun e w' => e = .returned (.int .i64 B) ∧ w' = w := by
  have b0 : (op == 167) = false := beq_eq_false_iff_ne.2 h1
  have b1 : (op == 172) = false := beq_eq_false_iff_ne.2 h2
  have b2 : (op == 173) = false := beq_eq_false_iff_ne.2 h3
  clear h1 h2 h3
  go_enter Try.func14, Try.ntmps14
  go_wp2_with fail
  refine (T.out _).mono ?_
  rintro e w1 ⟨rfl, hw⟩
  obtain rfl := hw.symm
  go_wp2_with fail
  refine (BB.out _).mono ?_
  rintro e w2 ⟨rfl, hw2⟩
  obtain rfl := hw2.symm
  go_wp2_with fail
  go_ret
  exact ⟨rfl, rfl⟩
theorem RAns_any (op : Int) (w : World) (hk : kd op ≠ 0) : Calls Try.prog 14 #[.int .i64 op] w fun e w' => e = .returned (.int .i64 (wd (gv op))) ∧ w' = w := by
  have BB := fun (w : World) => RBits_any op w
  unfold rb at BB
  rw [if_neg hk] at BB
  by_cases c0 : 80 ≤ op ∧ op ≤ 90
  · rw [(kt_0 c0).2.2]; exact ans_t op w (by omega) (by omega) (fun w => Test_yes op w (by omega) (by omega))
  by_cases c1 : 69 ≤ op ∧ op ≤ 79
  · rw [(kt_1 c1).2.2]; exact ans_t op w (by omega) (by omega) (fun w => Test_yes op w (by omega) (by omega))
  by_cases c2 : 121 ≤ op ∧ op ≤ 138
  · rw [(kt_2 c2).2.1] at BB; rw [(kt_2 c2).2.2]; exact ans_b op _ w (by omega) (by omega) (by omega) (by omega) (fun w => Test_no op w (by omega)) BB
  by_cases c3 : 103 ≤ op ∧ op ≤ 120
  · rw [(kt_3 c3).2.1] at BB; rw [(kt_3 c3).2.2]; exact ans_b op _ w (by omega) (by omega) (by omega) (by omega) (fun w => Test_no op w (by omega)) BB
  by_cases c4 : 194 ≤ op ∧ op ≤ 196
  · rw [(kt_4 c4).2.1] at BB; rw [(kt_4 c4).2.2]; exact ans_b op _ w (by omega) (by omega) (by omega) (by omega) (fun w => Test_no op w (by omega)) BB
  by_cases c5 : 192 ≤ op ∧ op ≤ 193
  · rw [(kt_5 c5).2.1] at BB; rw [(kt_5 c5).2.2]; exact ans_b op _ w (by omega) (by omega) (by omega) (by omega) (fun w => Test_no op w (by omega)) BB
  by_cases c6 : op = 167
  · rw [(kt_6 c6).2.2]; exact ans_w op w c6 (fun w => Test_no op w (by omega))
  by_cases c7 : 172 ≤ op ∧ op ≤ 173
  · rw [(kt_7 c7).2.2]; exact ans_e op w c7.1 c7.2 (fun w => Test_no op w (by omega))
  exact absurd (kt_no c0 c1 c2 c3 c4 c5 c6 c7).1 hk
set_option maxRecDepth 100000 in
set_option maxHeartbeats 1000000 in
theorem knows_no (op : Int) (s : ByteArray) (w : World)
    (A : Hid (∀ w : World, Calls Try.prog 7 #[.int .i64 op] w fun e w' => e = .returned (.tuple #[.int .i64 0, .int .i64 1]) ∧ Grew w w'))
    (B : Hid (∀ w : World, Calls Try.prog 8 #[.int .i64 op] w fun e w' => e = .returned (.int .i64 0) ∧ w' = w))
    (NN : Hid (∀ w : World, Calls Try.prog 9 #[.int .i64 op] w fun e w' => e = .returned (.string s) ∧ Grew w w'))
    (RN : Hid (∀ w : World, Calls Try.prog 10 #[.int .i64 op] w fun e w' => e = .returned (.string s) ∧ w' = w))
    (T : Hid (∀ w : World, Calls Try.prog 11 #[.int .i64 op] w fun e w' => e = .returned (.tuple #[.int .i64 0, .int .i64 0, .int .i64 1]) ∧ Grew w w'))
    (AW : Hid (∀ w : World, Calls Try.prog 12 #[] w fun e w' => e = .returned (.bool true) ∧ Grew w w')) :
    Calls Try.prog 3 #[.int .i64 op] w fun e w' => e = .returned (.bool true) ∧ Grew w w' := by
  have hss : (s.toList == s.toList) = true := by simp
  go_enter Try.func3, Try.ntmps3
  go_wp2_with fail
  refine (A.out _).mono ?_
  rintro e w1 ⟨rfl, g1⟩
  have G1 : Hid (Grew w w1) := g1
  clear g1
  go_wp2_with fail
  refine (B.out _).mono ?_
  rintro e w1' ⟨rfl, hw⟩
  obtain rfl := hw.symm
  go_wp2_with fail
  refine (NN.out _).mono ?_
  rintro e w2 ⟨rfl, g2⟩
  have G2 : Hid (Grew w w2) := G1.out.trans g2
  clear g2
  go_wp2_with fail
  refine (RN.out _).mono ?_
  rintro e w2' ⟨rfl, hw2⟩
  obtain rfl := hw2.symm
  go_wp2_with fail
  refine (T.out _).mono ?_
  rintro e w3 ⟨rfl, g3⟩
  have G3 : Hid (Grew w w3) := G2.out.trans g3
  clear g3
  go_wp2_with fail
  refine (AW.out _).mono ?_
  rintro e w4 ⟨rfl, g4⟩
  have G4 : Hid (Grew w w4) := G3.out.trans g4
  clear g4
  go_wp2_with fail
  go_ret
  exact ⟨rfl, G4.out⟩
set_option maxRecDepth 100000 in
set_option maxHeartbeats 1000000 in
theorem knows_11 (op r : Int) (s : ByteArray) (w : World) (hr : (r == 0) = false) (hr2 : (r != 0) = true)
    (A : Hid (∀ w : World, Calls Try.prog 7 #[.int .i64 op] w fun e w' => e = .returned (.tuple #[.int .i64 r, .int .i64 0]) ∧ Grew w w'))
    (B : Hid (∀ w : World, Calls Try.prog 8 #[.int .i64 op] w fun e w' => e = .returned (.int .i64 r) ∧ w' = w))
    (NN : Hid (∀ w : World, Calls Try.prog 9 #[.int .i64 op] w fun e w' => e = .returned (.string s) ∧ Grew w w'))
    (RN : Hid (∀ w : World, Calls Try.prog 10 #[.int .i64 op] w fun e w' => e = .returned (.string s) ∧ w' = w))
    (T : Hid (∀ w : World, Calls Try.prog 11 #[.int .i64 op] w fun e w' => e = .returned (.tuple #[.int .i64 1, .int .i64 1, .int .i64 0]) ∧ Grew w w'))
    (BI : Hid (∀ w : World, Calls Try.prog 13 #[.int .i64 op] w fun e w' => e = .returned (.int .i64 32) ∧ w' = w))
    (AN : Hid (∀ w : World, Calls Try.prog 14 #[.int .i64 op] w fun e w' => e = .returned (.int .i64 32) ∧ w' = w)) :
    Calls Try.prog 3 #[.int .i64 op] w fun e w' => e = .returned (.bool true) ∧ Grew w w' := by
  have hss : (s.toList == s.toList) = true := by simp
  go_enter Try.func3, Try.ntmps3
  go_wp2_with fail
  refine (A.out _).mono ?_
  rintro e w1 ⟨rfl, g1⟩
  have G1 : Hid (Grew w w1) := g1
  clear g1
  go_wp2_with fail
  refine (B.out _).mono ?_
  rintro e w1' ⟨rfl, hw⟩
  obtain rfl := hw.symm
  go_wp2_with fail
  refine (NN.out _).mono ?_
  rintro e w2 ⟨rfl, g2⟩
  have G2 : Hid (Grew w w2) := G1.out.trans g2
  clear g2
  go_wp2_with fail
  refine (RN.out _).mono ?_
  rintro e w2' ⟨rfl, hw2⟩
  obtain rfl := hw2.symm
  go_wp2_with fail
  refine (T.out _).mono ?_
  rintro e w3 ⟨rfl, g3⟩
  have G3 : Hid (Grew w w3) := G2.out.trans g3
  clear g3
  go_wp2_with fail
  refine (BI.out _).mono ?_
  rintro e w4 ⟨rfl, hw4⟩
  obtain rfl := hw4.symm
  go_wp2_with fail
  refine (AN.out _).mono ?_
  rintro e w5 ⟨rfl, hw5⟩
  obtain rfl := hw5.symm
  go_wp2_with fail
  go_ret
  exact ⟨rfl, G3.out⟩
set_option maxRecDepth 100000 in
set_option maxHeartbeats 1000000 in
theorem knows_12 (op r : Int) (s : ByteArray) (w : World) (hr : (r == 0) = false) (hr2 : (r != 0) = true)
    (A : Hid (∀ w : World, Calls Try.prog 7 #[.int .i64 op] w fun e w' => e = .returned (.tuple #[.int .i64 r, .int .i64 0]) ∧ Grew w w'))
    (B : Hid (∀ w : World, Calls Try.prog 8 #[.int .i64 op] w fun e w' => e = .returned (.int .i64 r) ∧ w' = w))
    (NN : Hid (∀ w : World, Calls Try.prog 9 #[.int .i64 op] w fun e w' => e = .returned (.string s) ∧ Grew w w'))
    (RN : Hid (∀ w : World, Calls Try.prog 10 #[.int .i64 op] w fun e w' => e = .returned (.string s) ∧ w' = w))
    (T : Hid (∀ w : World, Calls Try.prog 11 #[.int .i64 op] w fun e w' => e = .returned (.tuple #[.int .i64 1, .int .i64 2, .int .i64 0]) ∧ Grew w w'))
    (BI : Hid (∀ w : World, Calls Try.prog 13 #[.int .i64 op] w fun e w' => e = .returned (.int .i64 32) ∧ w' = w))
    (AN : Hid (∀ w : World, Calls Try.prog 14 #[.int .i64 op] w fun e w' => e = .returned (.int .i64 64) ∧ w' = w)) :
    Calls Try.prog 3 #[.int .i64 op] w fun e w' => e = .returned (.bool true) ∧ Grew w w' := by
  have hss : (s.toList == s.toList) = true := by simp
  go_enter Try.func3, Try.ntmps3
  go_wp2_with fail
  refine (A.out _).mono ?_
  rintro e w1 ⟨rfl, g1⟩
  have G1 : Hid (Grew w w1) := g1
  clear g1
  go_wp2_with fail
  refine (B.out _).mono ?_
  rintro e w1' ⟨rfl, hw⟩
  obtain rfl := hw.symm
  go_wp2_with fail
  refine (NN.out _).mono ?_
  rintro e w2 ⟨rfl, g2⟩
  have G2 : Hid (Grew w w2) := G1.out.trans g2
  clear g2
  go_wp2_with fail
  refine (RN.out _).mono ?_
  rintro e w2' ⟨rfl, hw2⟩
  obtain rfl := hw2.symm
  go_wp2_with fail
  refine (T.out _).mono ?_
  rintro e w3 ⟨rfl, g3⟩
  have G3 : Hid (Grew w w3) := G2.out.trans g3
  clear g3
  go_wp2_with fail
  refine (BI.out _).mono ?_
  rintro e w4 ⟨rfl, hw4⟩
  obtain rfl := hw4.symm
  go_wp2_with fail
  refine (AN.out _).mono ?_
  rintro e w5 ⟨rfl, hw5⟩
  obtain rfl := hw5.symm
  go_wp2_with fail
  go_ret
  exact ⟨rfl, G3.out⟩
set_option maxRecDepth 100000 in
set_option maxHeartbeats 1000000 in
theorem knows_21 (op r : Int) (s : ByteArray) (w : World) (hr : (r == 0) = false) (hr2 : (r != 0) = true)
    (A : Hid (∀ w : World, Calls Try.prog 7 #[.int .i64 op] w fun e w' => e = .returned (.tuple #[.int .i64 r, .int .i64 0]) ∧ Grew w w'))
    (B : Hid (∀ w : World, Calls Try.prog 8 #[.int .i64 op] w fun e w' => e = .returned (.int .i64 r) ∧ w' = w))
    (NN : Hid (∀ w : World, Calls Try.prog 9 #[.int .i64 op] w fun e w' => e = .returned (.string s) ∧ Grew w w'))
    (RN : Hid (∀ w : World, Calls Try.prog 10 #[.int .i64 op] w fun e w' => e = .returned (.string s) ∧ w' = w))
    (T : Hid (∀ w : World, Calls Try.prog 11 #[.int .i64 op] w fun e w' => e = .returned (.tuple #[.int .i64 2, .int .i64 1, .int .i64 0]) ∧ Grew w w'))
    (BI : Hid (∀ w : World, Calls Try.prog 13 #[.int .i64 op] w fun e w' => e = .returned (.int .i64 64) ∧ w' = w))
    (AN : Hid (∀ w : World, Calls Try.prog 14 #[.int .i64 op] w fun e w' => e = .returned (.int .i64 32) ∧ w' = w)) :
    Calls Try.prog 3 #[.int .i64 op] w fun e w' => e = .returned (.bool true) ∧ Grew w w' := by
  have hss : (s.toList == s.toList) = true := by simp
  go_enter Try.func3, Try.ntmps3
  go_wp2_with fail
  refine (A.out _).mono ?_
  rintro e w1 ⟨rfl, g1⟩
  have G1 : Hid (Grew w w1) := g1
  clear g1
  go_wp2_with fail
  refine (B.out _).mono ?_
  rintro e w1' ⟨rfl, hw⟩
  obtain rfl := hw.symm
  go_wp2_with fail
  refine (NN.out _).mono ?_
  rintro e w2 ⟨rfl, g2⟩
  have G2 : Hid (Grew w w2) := G1.out.trans g2
  clear g2
  go_wp2_with fail
  refine (RN.out _).mono ?_
  rintro e w2' ⟨rfl, hw2⟩
  obtain rfl := hw2.symm
  go_wp2_with fail
  refine (T.out _).mono ?_
  rintro e w3 ⟨rfl, g3⟩
  have G3 : Hid (Grew w w3) := G2.out.trans g3
  clear g3
  go_wp2_with fail
  refine (BI.out _).mono ?_
  rintro e w4 ⟨rfl, hw4⟩
  obtain rfl := hw4.symm
  go_wp2_with fail
  refine (AN.out _).mono ?_
  rintro e w5 ⟨rfl, hw5⟩
  obtain rfl := hw5.symm
  go_wp2_with fail
  go_ret
  exact ⟨rfl, G3.out⟩
set_option maxRecDepth 100000 in
set_option maxHeartbeats 1000000 in
theorem knows_22 (op r : Int) (s : ByteArray) (w : World) (hr : (r == 0) = false) (hr2 : (r != 0) = true)
    (A : Hid (∀ w : World, Calls Try.prog 7 #[.int .i64 op] w fun e w' => e = .returned (.tuple #[.int .i64 r, .int .i64 0]) ∧ Grew w w'))
    (B : Hid (∀ w : World, Calls Try.prog 8 #[.int .i64 op] w fun e w' => e = .returned (.int .i64 r) ∧ w' = w))
    (NN : Hid (∀ w : World, Calls Try.prog 9 #[.int .i64 op] w fun e w' => e = .returned (.string s) ∧ Grew w w'))
    (RN : Hid (∀ w : World, Calls Try.prog 10 #[.int .i64 op] w fun e w' => e = .returned (.string s) ∧ w' = w))
    (T : Hid (∀ w : World, Calls Try.prog 11 #[.int .i64 op] w fun e w' => e = .returned (.tuple #[.int .i64 2, .int .i64 2, .int .i64 0]) ∧ Grew w w'))
    (BI : Hid (∀ w : World, Calls Try.prog 13 #[.int .i64 op] w fun e w' => e = .returned (.int .i64 64) ∧ w' = w))
    (AN : Hid (∀ w : World, Calls Try.prog 14 #[.int .i64 op] w fun e w' => e = .returned (.int .i64 64) ∧ w' = w)) :
    Calls Try.prog 3 #[.int .i64 op] w fun e w' => e = .returned (.bool true) ∧ Grew w w' := by
  have hss : (s.toList == s.toList) = true := by simp
  go_enter Try.func3, Try.ntmps3
  go_wp2_with fail
  refine (A.out _).mono ?_
  rintro e w1 ⟨rfl, g1⟩
  have G1 : Hid (Grew w w1) := g1
  clear g1
  go_wp2_with fail
  refine (B.out _).mono ?_
  rintro e w1' ⟨rfl, hw⟩
  obtain rfl := hw.symm
  go_wp2_with fail
  refine (NN.out _).mono ?_
  rintro e w2 ⟨rfl, g2⟩
  have G2 : Hid (Grew w w2) := G1.out.trans g2
  clear g2
  go_wp2_with fail
  refine (RN.out _).mono ?_
  rintro e w2' ⟨rfl, hw2⟩
  obtain rfl := hw2.symm
  go_wp2_with fail
  refine (T.out _).mono ?_
  rintro e w3 ⟨rfl, g3⟩
  have G3 : Hid (Grew w w3) := G2.out.trans g3
  clear g3
  go_wp2_with fail
  refine (BI.out _).mono ?_
  rintro e w4 ⟨rfl, hw4⟩
  obtain rfl := hw4.symm
  go_wp2_with fail
  refine (AN.out _).mono ?_
  rintro e w5 ⟨rfl, hw5⟩
  obtain rfl := hw5.symm
  go_wp2_with fail
  go_ret
  exact ⟨rfl, G3.out⟩
theorem knows_walk (op : Int) (w : World) (o0 : -9223372036854775808 ≤ op) (o1 : op ≤ 9223372036854775807) :
    Calls Try.prog 3 #[.int .i64 op] w fun e w' => e = .returned (.bool true) ∧ Grew w w' := by
  obtain ⟨k0, k1⟩ := kd_bd op
  have F := fun (w : World) => find_any op w o0 o1
  have R := fun (w : World) => arity_any (kd op) w
  have A := fun (w : World) => arity_x op _ _ _ _ w F R
  have NN := fun (w : World) => name_x op _ _ _ _ w F (fun w => word_any (kd op) w k0 k1)
  have RN := fun (w : World) => RName_any op w
  have B := fun (w : World) => RArity_any op w
  have BI := fun (w : World) => RBits_any op w
  unfold rb at BI
  by_cases hk : kd op = 0
  · have ha : ark (kd op) = 0 := by rw [hk]; rfl
    rw [ha] at A B
    rw [if_pos rfl] at A
    rw [hk] at F
    exact knows_no op _ w A B NN RN (fun w => types_no op _ _ w F) awake_any
  · have AN := fun (w : World) => RAns_any op w hk
    have T := fun (w : World) => types_yes op _ _ _ w (beq_eq_false_iff_ne.2 hk) F
    have hr : ark (kd op) ≠ 0 := by
      unfold ark; rw [if_neg hk]; split <;> decide
    rw [if_neg hr] at A
    rw [if_neg hk] at BI
    have h1 : (ark (kd op) == 0) = false := beq_eq_false_iff_ne.2 hr
    have h2 : (ark (kd op) != 0) = true := by rw [bne_iff_ne]; exact hr
    rcases tk_or op with ht | ht <;> rcases gv_or op with hg | hg <;> rw [ht] at BI <;> rw [hg] at AN <;> rw [ht, hg] at T
    · exact knows_11 op _ _ w h1 h2 A B NN RN T BI AN
    · exact knows_12 op _ _ w h1 h2 A B NN RN T BI AN
    · exact knows_21 op _ _ w h1 h2 A B NN RN T BI AN
    · exact knows_22 op _ _ w h1 h2 A B NN RN T BI AN
end Go.Proofs.Ytolllelejdnjlaa
namespace Go.Proofs.Ytolllelejdnjlaa.inumKnows
open Go.ChangeShapes Go.WideShapes Go.ChangeAt Go.RowKit
set_option linter.unusedVariables false

theorem own : ownKnob Try.prog.godebug = none := by kernel_rfl
set_option maxRecDepth 100000 in
theorem lifted (os : Os) (started : os.Started) (H : Type) (enc : TypeId × Value → H) :
    ReturnsInHanded {} Try.checked os 3 .any (Rows.inumKnowsSpec.pre6 enc Try.prog Try.f3 Rows.inumKnowsRow.domain false) (Rows.inumKnowsSpec.post enc Try.prog Try.f3 false true false false) := by
  refine returnsInHanded_of_change_sized (C := Try.checked) own started (by kernel_rfl) Try.func3
    (ChangeSpec.witness6 (enc := enc) (C := Try.checked) false ⟨#[], #[.int .i64 0], []⟩ 8 (by kernel_rfl) (by kernel_rfl) (by kernel_rfl) (by kernel_rfl)) ?_
  intro W base args ds gs before hval0 hW hcnd hsz0 _
  clear hsz0
  have hval : ∀ (j : Nat) t v, Try.f3.params[j]? = some t → args[j]? = some v → Value.okWide Try.prog W .any base t v := hval0
  have hW' := hW
  obtain ⟨p, q, hA0, hV, rfl, hfz, hnd⟩ := hW
  have hA : DataW.TrodAll enc Try.prog W 0 (fun _ => true) true Try.f3.params.toList args.toList ds p := hA0
  rw [Try.params3] at hA hval
  obtain ⟨v0, vs0, d0, ds0, p0, q0, hargs, rfl, rfl, h0, r0⟩ := trodAll_cons hA
  obtain ⟨rfl, rfl, rfl⟩ := trodAll_nil r0
  obtain rfl : args = #[v0] := by cases args; simp_all
  obtain ⟨rfl, rfl⟩ := trodVars_none hV
  obtain ⟨a0, rfl, rfl, rfl, w0⟩ := open_int Try.underlying3 (hval 0 3 v0 rfl rfl) h0
  have b0 := bounds_i64 w0
  clear hA0 hval0
  refine (knows_walk a0 W (by omega) (by omega)).mono fun e W' ⟨he, bel⟩ => ?_
  subst he
  exact ⟨_, rfl, _, _, _, [], _, [], hW', trodAll_mk1 (shut_bool Try.underlying4 _), (trodAll_cons_mk (shut_int Try.underlying3 w0) trodAll_mk0), rfl, bel.1.frame _, fun h => by cases h⟩

theorem over : Rows.inumKnowsRow.holds Try.pinned (OpenSpec.ofChange Rows.inumKnowsSpec) :=
  OpenClaim.holds_of_wide 3 Try.f3 rfl rfl rfl rfl rfl rfl rfl ⟨rfl, rfl, rfl, rfl, rfl⟩ rfl rfl rfl rfl rfl (by kernel_rfl) Try.func3 (by kernel_rfl)
    (of_decide_eq_true (by kernel_rfl)) (by unfold Func.isWrapper; first | (rw [if_pos (by decide +kernel)]; kernel_rfl) | (rw [if_neg (by decide +kernel)]; exact ⟨rfl, rfl⟩))
    (fun os started H enc _ => lifted os started H enc)

end Go.Proofs.Ytolllelejdnjlaa.inumKnows
namespace Go.Proofs.Ytolllelejdnjlaa
theorem inumKnows_holds : Rows.InumKnowsSaid := inumKnows.over
#print axioms inumKnows_holds
end Go.Proofs.Ytolllelejdnjlaa
