/-
  The walks of the document's compared and divided; no statement is proved here.
-/
import Derived.Test.YtolllelejdnjlaaRefS
import Derived.Test.YtolllelejdnjlaaRefN
import Derived.Test.YtolllelejdnjlaaAri
import Derived.Test.YtolllelejdnjlaaOvf
namespace Go.Proofs.Ytolllelejdnjlaa
open Go.RowKit
set_option linter.unusedVariables false
set_option linter.unusedSimpArgs false

set_option maxRecDepth 100000 in
theorem cpd_2 (s : ByteArray) (a b u x y r : Int) (w : World) (q2 : (s.toList == [101, 113]) = true)
    (A : Hid (∀ w : World, Calls Try.prog 39 #[.int .u64 a, .int .i64 u] w fun e w' => e = .returned (.int .i64 x) ∧ w' = w))
    (B : Hid (∀ w : World, Calls Try.prog 39 #[.int .u64 b, .int .i64 u] w fun e w' => e = .returned (.int .i64 y) ∧ w' = w))
    (T : Hid (∀ w : World, Calls Try.prog 40 #[.bool (a == b)] w fun e w' => e = .returned (.int .u64 r) ∧ w' = w)) :
    Calls Try.prog 30 #[.string s, .int .u64 a, .int .u64 b, .int .i64 u] w fun e w' => e = .returned (.int .u64 r) ∧ w' = w := by
  go_enter Try.func30, Try.ntmps30
  go_wp2_with fail
  refine (A.out _).mono ?_
  rintro e w1 ⟨rfl, hw⟩
  obtain rfl := hw.symm
  go_wp2_with fail
  refine (B.out _).mono ?_
  rintro e w2 ⟨rfl, hw2⟩
  obtain rfl := hw2.symm
  go_wp2_with fail
  refine (T.out _).mono ?_
  rintro e w3 ⟨rfl, hw3⟩
  obtain rfl := hw3.symm
  go_wp2_with fail
  go_ret
  exact ⟨rfl, rfl⟩
set_option maxRecDepth 100000 in
theorem cpd_3 (s : ByteArray) (a b u x y r : Int) (w : World) (q2 : (s.toList == [101, 113]) = false) (q3 : (s.toList == [110, 101]) = true)
    (A : Hid (∀ w : World, Calls Try.prog 39 #[.int .u64 a, .int .i64 u] w fun e w' => e = .returned (.int .i64 x) ∧ w' = w))
    (B : Hid (∀ w : World, Calls Try.prog 39 #[.int .u64 b, .int .i64 u] w fun e w' => e = .returned (.int .i64 y) ∧ w' = w))
    (T : Hid (∀ w : World, Calls Try.prog 40 #[.bool (a != b)] w fun e w' => e = .returned (.int .u64 r) ∧ w' = w)) :
    Calls Try.prog 30 #[.string s, .int .u64 a, .int .u64 b, .int .i64 u] w fun e w' => e = .returned (.int .u64 r) ∧ w' = w := by
  go_enter Try.func30, Try.ntmps30
  go_wp2_with fail
  refine (A.out _).mono ?_
  rintro e w1 ⟨rfl, hw⟩
  obtain rfl := hw.symm
  go_wp2_with fail
  refine (B.out _).mono ?_
  rintro e w2 ⟨rfl, hw2⟩
  obtain rfl := hw2.symm
  go_wp2_with fail
  refine (T.out _).mono ?_
  rintro e w3 ⟨rfl, hw3⟩
  obtain rfl := hw3.symm
  go_wp2_with fail
  go_ret
  exact ⟨rfl, rfl⟩
set_option maxRecDepth 100000 in
theorem cpd_4 (s : ByteArray) (a b u x y r : Int) (w : World) (q2 : (s.toList == [101, 113]) = false) (q3 : (s.toList == [110, 101]) = false) (q4 : (s.toList == [108, 116, 95, 115]) = true)
    (A : Hid (∀ w : World, Calls Try.prog 39 #[.int .u64 a, .int .i64 u] w fun e w' => e = .returned (.int .i64 x) ∧ w' = w))
    (B : Hid (∀ w : World, Calls Try.prog 39 #[.int .u64 b, .int .i64 u] w fun e w' => e = .returned (.int .i64 y) ∧ w' = w))
    (T : Hid (∀ w : World, Calls Try.prog 40 #[.bool (decide (x < y))] w fun e w' => e = .returned (.int .u64 r) ∧ w' = w)) :
    Calls Try.prog 30 #[.string s, .int .u64 a, .int .u64 b, .int .i64 u] w fun e w' => e = .returned (.int .u64 r) ∧ w' = w := by
  go_enter Try.func30, Try.ntmps30
  go_wp2_with fail
  refine (A.out _).mono ?_
  rintro e w1 ⟨rfl, hw⟩
  obtain rfl := hw.symm
  go_wp2_with fail
  refine (B.out _).mono ?_
  rintro e w2 ⟨rfl, hw2⟩
  obtain rfl := hw2.symm
  go_wp2_with fail
  refine (T.out _).mono ?_
  rintro e w3 ⟨rfl, hw3⟩
  obtain rfl := hw3.symm
  go_wp2_with fail
  go_ret
  exact ⟨rfl, rfl⟩
set_option maxRecDepth 100000 in
theorem cpd_5 (s : ByteArray) (a b u x y r : Int) (w : World) (q2 : (s.toList == [101, 113]) = false) (q3 : (s.toList == [110, 101]) = false) (q4 : (s.toList == [108, 116, 95, 115]) = false) (q5 : (s.toList == [108, 116, 95, 117]) = true)
    (A : Hid (∀ w : World, Calls Try.prog 39 #[.int .u64 a, .int .i64 u] w fun e w' => e = .returned (.int .i64 x) ∧ w' = w))
    (B : Hid (∀ w : World, Calls Try.prog 39 #[.int .u64 b, .int .i64 u] w fun e w' => e = .returned (.int .i64 y) ∧ w' = w))
    (T : Hid (∀ w : World, Calls Try.prog 40 #[.bool (decide (a < b))] w fun e w' => e = .returned (.int .u64 r) ∧ w' = w)) :
    Calls Try.prog 30 #[.string s, .int .u64 a, .int .u64 b, .int .i64 u] w fun e w' => e = .returned (.int .u64 r) ∧ w' = w := by
  go_enter Try.func30, Try.ntmps30
  go_wp2_with fail
  refine (A.out _).mono ?_
  rintro e w1 ⟨rfl, hw⟩
  obtain rfl := hw.symm
  go_wp2_with fail
  refine (B.out _).mono ?_
  rintro e w2 ⟨rfl, hw2⟩
  obtain rfl := hw2.symm
  go_wp2_with fail
  refine (T.out _).mono ?_
  rintro e w3 ⟨rfl, hw3⟩
  obtain rfl := hw3.symm
  go_wp2_with fail
  go_ret
  exact ⟨rfl, rfl⟩
set_option maxRecDepth 100000 in
theorem cpd_6 (s : ByteArray) (a b u x y r : Int) (w : World) (q2 : (s.toList == [101, 113]) = false) (q3 : (s.toList == [110, 101]) = false) (q4 : (s.toList == [108, 116, 95, 115]) = false) (q5 : (s.toList == [108, 116, 95, 117]) = false) (q6 : (s.toList == [103, 116, 95, 115]) = true)
    (A : Hid (∀ w : World, Calls Try.prog 39 #[.int .u64 a, .int .i64 u] w fun e w' => e = .returned (.int .i64 x) ∧ w' = w))
    (B : Hid (∀ w : World, Calls Try.prog 39 #[.int .u64 b, .int .i64 u] w fun e w' => e = .returned (.int .i64 y) ∧ w' = w))
    (T : Hid (∀ w : World, Calls Try.prog 40 #[.bool (decide (y < x))] w fun e w' => e = .returned (.int .u64 r) ∧ w' = w)) :
    Calls Try.prog 30 #[.string s, .int .u64 a, .int .u64 b, .int .i64 u] w fun e w' => e = .returned (.int .u64 r) ∧ w' = w := by
  go_enter Try.func30, Try.ntmps30
  go_wp2_with fail
  refine (A.out _).mono ?_
  rintro e w1 ⟨rfl, hw⟩
  obtain rfl := hw.symm
  go_wp2_with fail
  refine (B.out _).mono ?_
  rintro e w2 ⟨rfl, hw2⟩
  obtain rfl := hw2.symm
  go_wp2_with fail
  refine (T.out _).mono ?_
  rintro e w3 ⟨rfl, hw3⟩
  obtain rfl := hw3.symm
  go_wp2_with fail
  go_ret
  exact ⟨rfl, rfl⟩
set_option maxRecDepth 100000 in
theorem cpd_7 (s : ByteArray) (a b u x y r : Int) (w : World) (q2 : (s.toList == [101, 113]) = false) (q3 : (s.toList == [110, 101]) = false) (q4 : (s.toList == [108, 116, 95, 115]) = false) (q5 : (s.toList == [108, 116, 95, 117]) = false) (q6 : (s.toList == [103, 116, 95, 115]) = false) (q7 : (s.toList == [103, 116, 95, 117]) = true)
    (A : Hid (∀ w : World, Calls Try.prog 39 #[.int .u64 a, .int .i64 u] w fun e w' => e = .returned (.int .i64 x) ∧ w' = w))
    (B : Hid (∀ w : World, Calls Try.prog 39 #[.int .u64 b, .int .i64 u] w fun e w' => e = .returned (.int .i64 y) ∧ w' = w))
    (T : Hid (∀ w : World, Calls Try.prog 40 #[.bool (decide (b < a))] w fun e w' => e = .returned (.int .u64 r) ∧ w' = w)) :
    Calls Try.prog 30 #[.string s, .int .u64 a, .int .u64 b, .int .i64 u] w fun e w' => e = .returned (.int .u64 r) ∧ w' = w := by
  go_enter Try.func30, Try.ntmps30
  go_wp2_with fail
  refine (A.out _).mono ?_
  rintro e w1 ⟨rfl, hw⟩
  obtain rfl := hw.symm
  go_wp2_with fail
  refine (B.out _).mono ?_
  rintro e w2 ⟨rfl, hw2⟩
  obtain rfl := hw2.symm
  go_wp2_with fail
  refine (T.out _).mono ?_
  rintro e w3 ⟨rfl, hw3⟩
  obtain rfl := hw3.symm
  go_wp2_with fail
  go_ret
  exact ⟨rfl, rfl⟩
set_option maxRecDepth 100000 in
theorem cpd_8 (s : ByteArray) (a b u x y r : Int) (w : World) (q2 : (s.toList == [101, 113]) = false) (q3 : (s.toList == [110, 101]) = false) (q4 : (s.toList == [108, 116, 95, 115]) = false) (q5 : (s.toList == [108, 116, 95, 117]) = false) (q6 : (s.toList == [103, 116, 95, 115]) = false) (q7 : (s.toList == [103, 116, 95, 117]) = false) (q8 : (s.toList == [108, 101, 95, 115]) = true)
    (A : Hid (∀ w : World, Calls Try.prog 39 #[.int .u64 a, .int .i64 u] w fun e w' => e = .returned (.int .i64 x) ∧ w' = w))
    (B : Hid (∀ w : World, Calls Try.prog 39 #[.int .u64 b, .int .i64 u] w fun e w' => e = .returned (.int .i64 y) ∧ w' = w))
    (T : Hid (∀ w : World, Calls Try.prog 40 #[.bool (decide (x ≤ y))] w fun e w' => e = .returned (.int .u64 r) ∧ w' = w)) :
    Calls Try.prog 30 #[.string s, .int .u64 a, .int .u64 b, .int .i64 u] w fun e w' => e = .returned (.int .u64 r) ∧ w' = w := by
  go_enter Try.func30, Try.ntmps30
  go_wp2_with fail
  refine (A.out _).mono ?_
  rintro e w1 ⟨rfl, hw⟩
  obtain rfl := hw.symm
  go_wp2_with fail
  refine (B.out _).mono ?_
  rintro e w2 ⟨rfl, hw2⟩
  obtain rfl := hw2.symm
  go_wp2_with fail
  refine (T.out _).mono ?_
  rintro e w3 ⟨rfl, hw3⟩
  obtain rfl := hw3.symm
  go_wp2_with fail
  go_ret
  exact ⟨rfl, rfl⟩
set_option maxRecDepth 100000 in
theorem cpd_9 (s : ByteArray) (a b u x y r : Int) (w : World) (q2 : (s.toList == [101, 113]) = false) (q3 : (s.toList == [110, 101]) = false) (q4 : (s.toList == [108, 116, 95, 115]) = false) (q5 : (s.toList == [108, 116, 95, 117]) = false) (q6 : (s.toList == [103, 116, 95, 115]) = false) (q7 : (s.toList == [103, 116, 95, 117]) = false) (q8 : (s.toList == [108, 101, 95, 115]) = false) (q9 : (s.toList == [108, 101, 95, 117]) = true)
    (A : Hid (∀ w : World, Calls Try.prog 39 #[.int .u64 a, .int .i64 u] w fun e w' => e = .returned (.int .i64 x) ∧ w' = w))
    (B : Hid (∀ w : World, Calls Try.prog 39 #[.int .u64 b, .int .i64 u] w fun e w' => e = .returned (.int .i64 y) ∧ w' = w))
    (T : Hid (∀ w : World, Calls Try.prog 40 #[.bool (decide (a ≤ b))] w fun e w' => e = .returned (.int .u64 r) ∧ w' = w)) :
    Calls Try.prog 30 #[.string s, .int .u64 a, .int .u64 b, .int .i64 u] w fun e w' => e = .returned (.int .u64 r) ∧ w' = w := by
  go_enter Try.func30, Try.ntmps30
  go_wp2_with fail
  refine (A.out _).mono ?_
  rintro e w1 ⟨rfl, hw⟩
  obtain rfl := hw.symm
  go_wp2_with fail
  refine (B.out _).mono ?_
  rintro e w2 ⟨rfl, hw2⟩
  obtain rfl := hw2.symm
  go_wp2_with fail
  refine (T.out _).mono ?_
  rintro e w3 ⟨rfl, hw3⟩
  obtain rfl := hw3.symm
  go_wp2_with fail
  go_ret
  exact ⟨rfl, rfl⟩
set_option maxRecDepth 100000 in
theorem cpd_10 (s : ByteArray) (a b u x y r : Int) (w : World) (q2 : (s.toList == [101, 113]) = false) (q3 : (s.toList == [110, 101]) = false) (q4 : (s.toList == [108, 116, 95, 115]) = false) (q5 : (s.toList == [108, 116, 95, 117]) = false) (q6 : (s.toList == [103, 116, 95, 115]) = false) (q7 : (s.toList == [103, 116, 95, 117]) = false) (q8 : (s.toList == [108, 101, 95, 115]) = false) (q9 : (s.toList == [108, 101, 95, 117]) = false) (q10 : (s.toList == [103, 101, 95, 115]) = true)
    (A : Hid (∀ w : World, Calls Try.prog 39 #[.int .u64 a, .int .i64 u] w fun e w' => e = .returned (.int .i64 x) ∧ w' = w))
    (B : Hid (∀ w : World, Calls Try.prog 39 #[.int .u64 b, .int .i64 u] w fun e w' => e = .returned (.int .i64 y) ∧ w' = w))
    (T : Hid (∀ w : World, Calls Try.prog 40 #[.bool (decide (y ≤ x))] w fun e w' => e = .returned (.int .u64 r) ∧ w' = w)) :
    Calls Try.prog 30 #[.string s, .int .u64 a, .int .u64 b, .int .i64 u] w fun e w' => e = .returned (.int .u64 r) ∧ w' = w := by
  go_enter Try.func30, Try.ntmps30
  go_wp2_with fail
  refine (A.out _).mono ?_
  rintro e w1 ⟨rfl, hw⟩
  obtain rfl := hw.symm
  go_wp2_with fail
  refine (B.out _).mono ?_
  rintro e w2 ⟨rfl, hw2⟩
  obtain rfl := hw2.symm
  go_wp2_with fail
  refine (T.out _).mono ?_
  rintro e w3 ⟨rfl, hw3⟩
  obtain rfl := hw3.symm
  go_wp2_with fail
  go_ret
  exact ⟨rfl, rfl⟩
set_option maxRecDepth 100000 in
theorem cpd_11 (s : ByteArray) (a b u x y r : Int) (w : World) (q2 : (s.toList == [101, 113]) = false) (q3 : (s.toList == [110, 101]) = false) (q4 : (s.toList == [108, 116, 95, 115]) = false) (q5 : (s.toList == [108, 116, 95, 117]) = false) (q6 : (s.toList == [103, 116, 95, 115]) = false) (q7 : (s.toList == [103, 116, 95, 117]) = false) (q8 : (s.toList == [108, 101, 95, 115]) = false) (q9 : (s.toList == [108, 101, 95, 117]) = false) (q10 : (s.toList == [103, 101, 95, 115]) = false)
    (A : Hid (∀ w : World, Calls Try.prog 39 #[.int .u64 a, .int .i64 u] w fun e w' => e = .returned (.int .i64 x) ∧ w' = w))
    (B : Hid (∀ w : World, Calls Try.prog 39 #[.int .u64 b, .int .i64 u] w fun e w' => e = .returned (.int .i64 y) ∧ w' = w))
    (T : Hid (∀ w : World, Calls Try.prog 40 #[.bool (decide (b ≤ a))] w fun e w' => e = .returned (.int .u64 r) ∧ w' = w)) :
    Calls Try.prog 30 #[.string s, .int .u64 a, .int .u64 b, .int .i64 u] w fun e w' => e = .returned (.int .u64 r) ∧ w' = w := by
  go_enter Try.func30, Try.ntmps30
  go_wp2_with fail
  refine (A.out _).mono ?_
  rintro e w1 ⟨rfl, hw⟩
  obtain rfl := hw.symm
  go_wp2_with fail
  refine (B.out _).mono ?_
  rintro e w2 ⟨rfl, hw2⟩
  obtain rfl := hw2.symm
  go_wp2_with fail
  refine (T.out _).mono ?_
  rintro e w3 ⟨rfl, hw3⟩
  obtain rfl := hw3.symm
  go_wp2_with fail
  go_ret
  exact ⟨rfl, rfl⟩
theorem compared_any (k t a b : Int) (w : World) (hk0 : 2 ≤ k) (hk1 : k ≤ 11) (ht : t = 1 ∨ t = 2) (h0 : 0 ≤ a) (h1 : a < 18446744073709551616) (h2 : 0 ≤ b) (h3 : b < 18446744073709551616) :
    Calls Try.prog 30 #[.string (wstr k), .int .u64 a, .int .u64 b, .int .i64 (wd t)] w fun e w' => e = .returned (.int .u64 (if cmp t k a b then 1 else 0)) ∧ w' = w := by
  have A := fun (w : World) => Signed_any t a w ht h0 h1
  have B := fun (w : World) => Signed_any t b w ht h2 h3
  have hh : k = 2 ∨ k = 3 ∨ k = 4 ∨ k = 5 ∨ k = 6 ∨ k = 7 ∨ k = 8 ∨ k = 9 ∨ k = 10 ∨ k = 11 := by omega
  rcases hh with rfl | rfl | rfl | rfl | rfl | rfl | rfl | rfl | rfl | rfl
  · exact cpd_2 (wstr 2) a b (wd t) _ _ _ w (by rw [q_2 (by decide) (by decide)]; decide) A B (fun w => rtruth_any _ w)
  · exact cpd_3 (wstr 3) a b (wd t) _ _ _ w (by rw [q_2 (by decide) (by decide)]; decide) (by rw [q_3 (by decide) (by decide)]; decide) A B (fun w => rtruth_any _ w)
  · exact cpd_4 (wstr 4) a b (wd t) _ _ _ w (by rw [q_2 (by decide) (by decide)]; decide) (by rw [q_3 (by decide) (by decide)]; decide) (by rw [q_4 (by decide) (by decide)]; decide) A B (fun w => rtruth_any _ w)
  · exact cpd_5 (wstr 5) a b (wd t) _ _ _ w (by rw [q_2 (by decide) (by decide)]; decide) (by rw [q_3 (by decide) (by decide)]; decide) (by rw [q_4 (by decide) (by decide)]; decide) (by rw [q_5 (by decide) (by decide)]; decide) A B (fun w => rtruth_any _ w)
  · exact cpd_6 (wstr 6) a b (wd t) _ _ _ w (by rw [q_2 (by decide) (by decide)]; decide) (by rw [q_3 (by decide) (by decide)]; decide) (by rw [q_4 (by decide) (by decide)]; decide) (by rw [q_5 (by decide) (by decide)]; decide) (by rw [q_6 (by decide) (by decide)]; decide) A B (fun w => rtruth_any _ w)
  · exact cpd_7 (wstr 7) a b (wd t) _ _ _ w (by rw [q_2 (by decide) (by decide)]; decide) (by rw [q_3 (by decide) (by decide)]; decide) (by rw [q_4 (by decide) (by decide)]; decide) (by rw [q_5 (by decide) (by decide)]; decide) (by rw [q_6 (by decide) (by decide)]; decide) (by rw [q_7 (by decide) (by decide)]; decide) A B (fun w => rtruth_any _ w)
  · exact cpd_8 (wstr 8) a b (wd t) _ _ _ w (by rw [q_2 (by decide) (by decide)]; decide) (by rw [q_3 (by decide) (by decide)]; decide) (by rw [q_4 (by decide) (by decide)]; decide) (by rw [q_5 (by decide) (by decide)]; decide) (by rw [q_6 (by decide) (by decide)]; decide) (by rw [q_7 (by decide) (by decide)]; decide) (by rw [q_8 (by decide) (by decide)]; decide) A B (fun w => rtruth_any _ w)
  · exact cpd_9 (wstr 9) a b (wd t) _ _ _ w (by rw [q_2 (by decide) (by decide)]; decide) (by rw [q_3 (by decide) (by decide)]; decide) (by rw [q_4 (by decide) (by decide)]; decide) (by rw [q_5 (by decide) (by decide)]; decide) (by rw [q_6 (by decide) (by decide)]; decide) (by rw [q_7 (by decide) (by decide)]; decide) (by rw [q_8 (by decide) (by decide)]; decide) (by rw [q_9 (by decide) (by decide)]; decide) A B (fun w => rtruth_any _ w)
  · exact cpd_10 (wstr 10) a b (wd t) _ _ _ w (by rw [q_2 (by decide) (by decide)]; decide) (by rw [q_3 (by decide) (by decide)]; decide) (by rw [q_4 (by decide) (by decide)]; decide) (by rw [q_5 (by decide) (by decide)]; decide) (by rw [q_6 (by decide) (by decide)]; decide) (by rw [q_7 (by decide) (by decide)]; decide) (by rw [q_8 (by decide) (by decide)]; decide) (by rw [q_9 (by decide) (by decide)]; decide) (by rw [q_10 (by decide) (by decide)]; decide) A B (fun w => rtruth_any _ w)
  · exact cpd_11 (wstr 11) a b (wd t) _ _ _ w (by rw [q_2 (by decide) (by decide)]; decide) (by rw [q_3 (by decide) (by decide)]; decide) (by rw [q_4 (by decide) (by decide)]; decide) (by rw [q_5 (by decide) (by decide)]; decide) (by rw [q_6 (by decide) (by decide)]; decide) (by rw [q_7 (by decide) (by decide)]; decide) (by rw [q_8 (by decide) (by decide)]; decide) (by rw [q_9 (by decide) (by decide)]; decide) (by rw [q_10 (by decide) (by decide)]; decide) A B (fun w => rtruth_any _ w)
set_option maxRecDepth 100000 in
set_option maxHeartbeats 1000000 in
theorem dvd_1_19ne (s : ByteArray) (a b x y r m : Int) (w : World) (hm : 2147483648 = m) (hl : (a == m) = false) (hb : (b == 0) = false) (h0 : 0 ≤ a) (h1 : a < 18446744073709551616) (h2 : 0 < b) (q19 : (s.toList == [100, 105, 118, 95, 117]) = true)
    (A : Hid (∀ w : World, Calls Try.prog 39 #[.int .u64 a, .int .i64 32] w fun e w' => e = .returned (.int .i64 x) ∧ w' = w))
    (B : Hid (∀ w : World, Calls Try.prog 39 #[.int .u64 b, .int .i64 32] w fun e w' => e = .returned (.int .i64 y) ∧ w' = w))
    :
    Calls Try.prog 31 #[.string s, .int .u64 a, .int .u64 b, .int .i64 32] w fun e w' => e = .returned (.tuple #[.int .u64 (a / b), .int .i64 0]) ∧ w' = w := by
  skip
  go_enter Try.func31, Try.ntmps31
  go_wp2_with fail
  refine (A.out _).mono ?_
  rintro e w1 ⟨rfl, hw⟩
  obtain rfl := hw.symm
  go_wp2_with fail
  refine (B.out _).mono ?_
  rintro e w2 ⟨rfl, hw2⟩
  obtain rfl := hw2.symm
  go_wp2_with fail
  go_ret2
  exact ⟨rfl, rfl⟩
set_option maxRecDepth 100000 in
set_option maxHeartbeats 1000000 in
theorem dvd_1_19eq (s : ByteArray) (a b x y r m : Int) (w : World) (hm : 2147483648 = a) (hb : (b == 0) = false) (h0 : 0 ≤ a) (h1 : a < 18446744073709551616) (h2 : 0 < b) (q19 : (s.toList == [100, 105, 118, 95, 117]) = true)
    (A : Hid (∀ w : World, Calls Try.prog 39 #[.int .u64 a, .int .i64 32] w fun e w' => e = .returned (.int .i64 x) ∧ w' = w))
    (B : Hid (∀ w : World, Calls Try.prog 39 #[.int .u64 b, .int .i64 32] w fun e w' => e = .returned (.int .i64 y) ∧ w' = w))
    :
    Calls Try.prog 31 #[.string s, .int .u64 a, .int .u64 b, .int .i64 32] w fun e w' => e = .returned (.tuple #[.int .u64 (a / b), .int .i64 0]) ∧ w' = w := by
  skip
  go_enter Try.func31, Try.ntmps31
  go_wp2_with fail
  refine (A.out _).mono ?_
  rintro e w1 ⟨rfl, hw⟩
  obtain rfl := hw.symm
  go_wp2_with fail
  refine (B.out _).mono ?_
  rintro e w2 ⟨rfl, hw2⟩
  obtain rfl := hw2.symm
  go_wp2_with fail
  go_ret2
  exact ⟨rfl, rfl⟩
set_option maxRecDepth 100000 in
set_option maxHeartbeats 1000000 in
theorem dvd_1_21ne (s : ByteArray) (a b x y r m : Int) (w : World) (hm : 2147483648 = m) (hl : (a == m) = false) (hb : (b == 0) = false) (h0 : 0 ≤ a) (h1 : a < 18446744073709551616) (h2 : 0 < b) (q19 : (s.toList == [100, 105, 118, 95, 117]) = false) (q21 : (s.toList == [114, 101, 109, 95, 117]) = true)
    (A : Hid (∀ w : World, Calls Try.prog 39 #[.int .u64 a, .int .i64 32] w fun e w' => e = .returned (.int .i64 x) ∧ w' = w))
    (B : Hid (∀ w : World, Calls Try.prog 39 #[.int .u64 b, .int .i64 32] w fun e w' => e = .returned (.int .i64 y) ∧ w' = w))
    :
    Calls Try.prog 31 #[.string s, .int .u64 a, .int .u64 b, .int .i64 32] w fun e w' => e = .returned (.tuple #[.int .u64 (a % b), .int .i64 0]) ∧ w' = w := by
  skip
  go_enter Try.func31, Try.ntmps31
  go_wp2_with fail
  refine (A.out _).mono ?_
  rintro e w1 ⟨rfl, hw⟩
  obtain rfl := hw.symm
  go_wp2_with fail
  refine (B.out _).mono ?_
  rintro e w2 ⟨rfl, hw2⟩
  obtain rfl := hw2.symm
  go_wp2_with fail
  go_ret2
  exact ⟨rfl, rfl⟩
set_option maxRecDepth 100000 in
set_option maxHeartbeats 1000000 in
theorem dvd_1_21eq (s : ByteArray) (a b x y r m : Int) (w : World) (hm : 2147483648 = a) (hb : (b == 0) = false) (h0 : 0 ≤ a) (h1 : a < 18446744073709551616) (h2 : 0 < b) (q19 : (s.toList == [100, 105, 118, 95, 117]) = false) (q21 : (s.toList == [114, 101, 109, 95, 117]) = true)
    (A : Hid (∀ w : World, Calls Try.prog 39 #[.int .u64 a, .int .i64 32] w fun e w' => e = .returned (.int .i64 x) ∧ w' = w))
    (B : Hid (∀ w : World, Calls Try.prog 39 #[.int .u64 b, .int .i64 32] w fun e w' => e = .returned (.int .i64 y) ∧ w' = w))
    :
    Calls Try.prog 31 #[.string s, .int .u64 a, .int .u64 b, .int .i64 32] w fun e w' => e = .returned (.tuple #[.int .u64 (a % b), .int .i64 0]) ∧ w' = w := by
  skip
  go_enter Try.func31, Try.ntmps31
  go_wp2_with fail
  refine (A.out _).mono ?_
  rintro e w1 ⟨rfl, hw⟩
  obtain rfl := hw.symm
  go_wp2_with fail
  refine (B.out _).mono ?_
  rintro e w2 ⟨rfl, hw2⟩
  obtain rfl := hw2.symm
  go_wp2_with fail
  go_ret2
  exact ⟨rfl, rfl⟩
set_option maxRecDepth 100000 in
set_option maxHeartbeats 1000000 in
theorem dvd_1_20ne (s : ByteArray) (a b x y r m : Int) (w : World) (hm : 2147483648 = m) (hl : (a == m) = false) (hb : (y == 0) = false) (hy2 : ¬ y = 0) (q19 : (s.toList == [100, 105, 118, 95, 117]) = false) (q21 : (s.toList == [114, 101, 109, 95, 117]) = false) (q20 : (s.toList == [114, 101, 109, 95, 115]) = true)
    (A : Hid (∀ w : World, Calls Try.prog 39 #[.int .u64 a, .int .i64 32] w fun e w' => e = .returned (.int .i64 x) ∧ w' = w))
    (B : Hid (∀ w : World, Calls Try.prog 39 #[.int .u64 b, .int .i64 32] w fun e w' => e = .returned (.int .i64 y) ∧ w' = w))
    (C : Hid (∀ w : World, Calls Try.prog 29 #[.int .u64 (IntKind.u64.wrap (x.tmod y)), .int .i64 32] w fun e w' => e = .returned (.int .u64 r) ∧ w' = w))
    :
    Calls Try.prog 31 #[.string s, .int .u64 a, .int .u64 b, .int .i64 32] w fun e w' => e = .returned (.tuple #[.int .u64 r, .int .i64 0]) ∧ w' = w := by
  skip
  go_enter Try.func31, Try.ntmps31
  go_wp2_with fail
  refine (A.out _).mono ?_
  rintro e w1 ⟨rfl, hw⟩
  obtain rfl := hw.symm
  go_wp2_with fail
  refine (B.out _).mono ?_
  rintro e w2 ⟨rfl, hw2⟩
  obtain rfl := hw2.symm
  go_wp2_with fail
  refine (C.out _).mono ?_
  rintro e w3 ⟨rfl, hw3⟩
  obtain rfl := hw3.symm
  go_wp2_with fail
  go_ret2
  exact ⟨rfl, rfl⟩
set_option maxRecDepth 100000 in
set_option maxHeartbeats 1000000 in
theorem dvd_1_20eqt (s : ByteArray) (a b x y r m : Int) (w : World) (hm : 2147483648 = a) (hy : y = -1) (q19 : (s.toList == [100, 105, 118, 95, 117]) = false) (q21 : (s.toList == [114, 101, 109, 95, 117]) = false) (q20 : (s.toList == [114, 101, 109, 95, 115]) = true)
    (A : Hid (∀ w : World, Calls Try.prog 39 #[.int .u64 a, .int .i64 32] w fun e w' => e = .returned (.int .i64 x) ∧ w' = w))
    (B : Hid (∀ w : World, Calls Try.prog 39 #[.int .u64 b, .int .i64 32] w fun e w' => e = .returned (.int .i64 y) ∧ w' = w))
    :
    Calls Try.prog 31 #[.string s, .int .u64 a, .int .u64 b, .int .i64 32] w fun e w' => e = .returned (.tuple #[.int .u64 0, .int .i64 0]) ∧ w' = w := by
  subst hy
  go_enter Try.func31, Try.ntmps31
  go_wp2_with fail
  refine (A.out _).mono ?_
  rintro e w1 ⟨rfl, hw⟩
  obtain rfl := hw.symm
  go_wp2_with fail
  refine (B.out _).mono ?_
  rintro e w2 ⟨rfl, hw2⟩
  obtain rfl := hw2.symm
  go_wp2_with fail
  go_ret2
  exact ⟨rfl, rfl⟩
set_option maxRecDepth 100000 in
set_option maxHeartbeats 1000000 in
theorem dvd_1_20eqf (s : ByteArray) (a b x y r m : Int) (w : World) (hm : 2147483648 = a) (hb : (y == 0) = false) (hy2 : ¬ y = 0) (hy : (y == -1) = false) (q19 : (s.toList == [100, 105, 118, 95, 117]) = false) (q21 : (s.toList == [114, 101, 109, 95, 117]) = false) (q20 : (s.toList == [114, 101, 109, 95, 115]) = true)
    (A : Hid (∀ w : World, Calls Try.prog 39 #[.int .u64 a, .int .i64 32] w fun e w' => e = .returned (.int .i64 x) ∧ w' = w))
    (B : Hid (∀ w : World, Calls Try.prog 39 #[.int .u64 b, .int .i64 32] w fun e w' => e = .returned (.int .i64 y) ∧ w' = w))
    (C : Hid (∀ w : World, Calls Try.prog 29 #[.int .u64 (IntKind.u64.wrap (x.tmod y)), .int .i64 32] w fun e w' => e = .returned (.int .u64 r) ∧ w' = w))
    :
    Calls Try.prog 31 #[.string s, .int .u64 a, .int .u64 b, .int .i64 32] w fun e w' => e = .returned (.tuple #[.int .u64 r, .int .i64 0]) ∧ w' = w := by
  skip
  go_enter Try.func31, Try.ntmps31
  go_wp2_with fail
  refine (A.out _).mono ?_
  rintro e w1 ⟨rfl, hw⟩
  obtain rfl := hw.symm
  go_wp2_with fail
  refine (B.out _).mono ?_
  rintro e w2 ⟨rfl, hw2⟩
  obtain rfl := hw2.symm
  go_wp2_with fail
  refine (C.out _).mono ?_
  rintro e w3 ⟨rfl, hw3⟩
  obtain rfl := hw3.symm
  go_wp2_with fail
  go_ret2
  exact ⟨rfl, rfl⟩
set_option maxRecDepth 100000 in
set_option maxHeartbeats 1000000 in
theorem dvd_1_18ne (s : ByteArray) (a b x y r m : Int) (w : World) (hm : 2147483648 = m) (hl : (a == m) = false) (hb : (y == 0) = false) (hy2 : ¬ y = 0) (q19 : (s.toList == [100, 105, 118, 95, 117]) = false) (q21 : (s.toList == [114, 101, 109, 95, 117]) = false) (q20 : (s.toList == [114, 101, 109, 95, 115]) = false)
    (A : Hid (∀ w : World, Calls Try.prog 39 #[.int .u64 a, .int .i64 32] w fun e w' => e = .returned (.int .i64 x) ∧ w' = w))
    (B : Hid (∀ w : World, Calls Try.prog 39 #[.int .u64 b, .int .i64 32] w fun e w' => e = .returned (.int .i64 y) ∧ w' = w))
    (C : Hid (∀ w : World, Calls Try.prog 29 #[.int .u64 (IntKind.u64.wrap (wrap64 (x.tdiv y))), .int .i64 32] w fun e w' => e = .returned (.int .u64 r) ∧ w' = w))
    :
    Calls Try.prog 31 #[.string s, .int .u64 a, .int .u64 b, .int .i64 32] w fun e w' => e = .returned (.tuple #[.int .u64 r, .int .i64 0]) ∧ w' = w := by
  skip
  go_enter Try.func31, Try.ntmps31
  go_wp2_with fail
  refine (A.out _).mono ?_
  rintro e w1 ⟨rfl, hw⟩
  obtain rfl := hw.symm
  go_wp2_with fail
  refine (B.out _).mono ?_
  rintro e w2 ⟨rfl, hw2⟩
  obtain rfl := hw2.symm
  go_wp2_with fail
  refine (C.out _).mono ?_
  rintro e w3 ⟨rfl, hw3⟩
  obtain rfl := hw3.symm
  go_wp2_with fail
  go_ret2
  exact ⟨rfl, rfl⟩
set_option maxRecDepth 100000 in
set_option maxHeartbeats 1000000 in
theorem dvd_1_18eqt (s : ByteArray) (a b x y r m : Int) (w : World) (hm : 2147483648 = a) (hy : y = -1) (q19 : (s.toList == [100, 105, 118, 95, 117]) = false) (q21 : (s.toList == [114, 101, 109, 95, 117]) = false) (q20 : (s.toList == [114, 101, 109, 95, 115]) = false)
    (A : Hid (∀ w : World, Calls Try.prog 39 #[.int .u64 a, .int .i64 32] w fun e w' => e = .returned (.int .i64 x) ∧ w' = w))
    (B : Hid (∀ w : World, Calls Try.prog 39 #[.int .u64 b, .int .i64 32] w fun e w' => e = .returned (.int .i64 y) ∧ w' = w))
    :
    Calls Try.prog 31 #[.string s, .int .u64 a, .int .u64 b, .int .i64 32] w fun e w' => e = .returned (.tuple #[.int .u64 0, .int .i64 31]) ∧ w' = w := by
  subst hy
  go_enter Try.func31, Try.ntmps31
  go_wp2_with fail
  refine (A.out _).mono ?_
  rintro e w1 ⟨rfl, hw⟩
  obtain rfl := hw.symm
  go_wp2_with fail
  refine (B.out _).mono ?_
  rintro e w2 ⟨rfl, hw2⟩
  obtain rfl := hw2.symm
  go_wp2_with fail
  go_ret2
  exact ⟨rfl, rfl⟩
set_option maxRecDepth 100000 in
set_option maxHeartbeats 1000000 in
theorem dvd_1_18eqf (s : ByteArray) (a b x y r m : Int) (w : World) (hm : 2147483648 = a) (hb : (y == 0) = false) (hy2 : ¬ y = 0) (hy : (y == -1) = false) (q19 : (s.toList == [100, 105, 118, 95, 117]) = false) (q21 : (s.toList == [114, 101, 109, 95, 117]) = false) (q20 : (s.toList == [114, 101, 109, 95, 115]) = false)
    (A : Hid (∀ w : World, Calls Try.prog 39 #[.int .u64 a, .int .i64 32] w fun e w' => e = .returned (.int .i64 x) ∧ w' = w))
    (B : Hid (∀ w : World, Calls Try.prog 39 #[.int .u64 b, .int .i64 32] w fun e w' => e = .returned (.int .i64 y) ∧ w' = w))
    (C : Hid (∀ w : World, Calls Try.prog 29 #[.int .u64 (IntKind.u64.wrap (wrap64 (x.tdiv y))), .int .i64 32] w fun e w' => e = .returned (.int .u64 r) ∧ w' = w))
    :
    Calls Try.prog 31 #[.string s, .int .u64 a, .int .u64 b, .int .i64 32] w fun e w' => e = .returned (.tuple #[.int .u64 r, .int .i64 0]) ∧ w' = w := by
  skip
  go_enter Try.func31, Try.ntmps31
  go_wp2_with fail
  refine (A.out _).mono ?_
  rintro e w1 ⟨rfl, hw⟩
  obtain rfl := hw.symm
  go_wp2_with fail
  refine (B.out _).mono ?_
  rintro e w2 ⟨rfl, hw2⟩
  obtain rfl := hw2.symm
  go_wp2_with fail
  refine (C.out _).mono ?_
  rintro e w3 ⟨rfl, hw3⟩
  obtain rfl := hw3.symm
  go_wp2_with fail
  go_ret2
  exact ⟨rfl, rfl⟩
set_option maxRecDepth 100000 in
set_option maxHeartbeats 1000000 in
theorem dvd_2_19ne (s : ByteArray) (a b x y r m : Int) (w : World) (hm : 9223372036854775808 = m) (hl : (a == m) = false) (hb : (b == 0) = false) (h0 : 0 ≤ a) (h1 : a < 18446744073709551616) (h2 : 0 < b) (q19 : (s.toList == [100, 105, 118, 95, 117]) = true)
    (A : Hid (∀ w : World, Calls Try.prog 39 #[.int .u64 a, .int .i64 64] w fun e w' => e = .returned (.int .i64 x) ∧ w' = w))
    (B : Hid (∀ w : World, Calls Try.prog 39 #[.int .u64 b, .int .i64 64] w fun e w' => e = .returned (.int .i64 y) ∧ w' = w))
    :
    Calls Try.prog 31 #[.string s, .int .u64 a, .int .u64 b, .int .i64 64] w fun e w' => e = .returned (.tuple #[.int .u64 (a / b), .int .i64 0]) ∧ w' = w := by
  skip
  go_enter Try.func31, Try.ntmps31
  go_wp2_with fail
  refine (A.out _).mono ?_
  rintro e w1 ⟨rfl, hw⟩
  obtain rfl := hw.symm
  go_wp2_with fail
  refine (B.out _).mono ?_
  rintro e w2 ⟨rfl, hw2⟩
  obtain rfl := hw2.symm
  go_wp2_with fail
  go_ret2
  exact ⟨rfl, rfl⟩
set_option maxRecDepth 100000 in
set_option maxHeartbeats 1000000 in
theorem dvd_2_19eq (s : ByteArray) (a b x y r m : Int) (w : World) (hm : 9223372036854775808 = a) (hb : (b == 0) = false) (h0 : 0 ≤ a) (h1 : a < 18446744073709551616) (h2 : 0 < b) (q19 : (s.toList == [100, 105, 118, 95, 117]) = true)
    (A : Hid (∀ w : World, Calls Try.prog 39 #[.int .u64 a, .int .i64 64] w fun e w' => e = .returned (.int .i64 x) ∧ w' = w))
    (B : Hid (∀ w : World, Calls Try.prog 39 #[.int .u64 b, .int .i64 64] w fun e w' => e = .returned (.int .i64 y) ∧ w' = w))
    :
    Calls Try.prog 31 #[.string s, .int .u64 a, .int .u64 b, .int .i64 64] w fun e w' => e = .returned (.tuple #[.int .u64 (a / b), .int .i64 0]) ∧ w' = w := by
  skip
  go_enter Try.func31, Try.ntmps31
  go_wp2_with fail
  refine (A.out _).mono ?_
  rintro e w1 ⟨rfl, hw⟩
  obtain rfl := hw.symm
  go_wp2_with fail
  refine (B.out _).mono ?_
  rintro e w2 ⟨rfl, hw2⟩
  obtain rfl := hw2.symm
  go_wp2_with fail
  go_ret2
  exact ⟨rfl, rfl⟩
set_option maxRecDepth 100000 in
set_option maxHeartbeats 1000000 in
theorem dvd_2_21ne (s : ByteArray) (a b x y r m : Int) (w : World) (hm : 9223372036854775808 = m) (hl : (a == m) = false) (hb : (b == 0) = false) (h0 : 0 ≤ a) (h1 : a < 18446744073709551616) (h2 : 0 < b) (q19 : (s.toList == [100, 105, 118, 95, 117]) = false) (q21 : (s.toList == [114, 101, 109, 95, 117]) = true)
    (A : Hid (∀ w : World, Calls Try.prog 39 #[.int .u64 a, .int .i64 64] w fun e w' => e = .returned (.int .i64 x) ∧ w' = w))
    (B : Hid (∀ w : World, Calls Try.prog 39 #[.int .u64 b, .int .i64 64] w fun e w' => e = .returned (.int .i64 y) ∧ w' = w))
    :
    Calls Try.prog 31 #[.string s, .int .u64 a, .int .u64 b, .int .i64 64] w fun e w' => e = .returned (.tuple #[.int .u64 (a % b), .int .i64 0]) ∧ w' = w := by
  skip
  go_enter Try.func31, Try.ntmps31
  go_wp2_with fail
  refine (A.out _).mono ?_
  rintro e w1 ⟨rfl, hw⟩
  obtain rfl := hw.symm
  go_wp2_with fail
  refine (B.out _).mono ?_
  rintro e w2 ⟨rfl, hw2⟩
  obtain rfl := hw2.symm
  go_wp2_with fail
  go_ret2
  exact ⟨rfl, rfl⟩
set_option maxRecDepth 100000 in
set_option maxHeartbeats 1000000 in
theorem dvd_2_21eq (s : ByteArray) (a b x y r m : Int) (w : World) (hm : 9223372036854775808 = a) (hb : (b == 0) = false) (h0 : 0 ≤ a) (h1 : a < 18446744073709551616) (h2 : 0 < b) (q19 : (s.toList == [100, 105, 118, 95, 117]) = false) (q21 : (s.toList == [114, 101, 109, 95, 117]) = true)
    (A : Hid (∀ w : World, Calls Try.prog 39 #[.int .u64 a, .int .i64 64] w fun e w' => e = .returned (.int .i64 x) ∧ w' = w))
    (B : Hid (∀ w : World, Calls Try.prog 39 #[.int .u64 b, .int .i64 64] w fun e w' => e = .returned (.int .i64 y) ∧ w' = w))
    :
    Calls Try.prog 31 #[.string s, .int .u64 a, .int .u64 b, .int .i64 64] w fun e w' => e = .returned (.tuple #[.int .u64 (a % b), .int .i64 0]) ∧ w' = w := by
  skip
  go_enter Try.func31, Try.ntmps31
  go_wp2_with fail
  refine (A.out _).mono ?_
  rintro e w1 ⟨rfl, hw⟩
  obtain rfl := hw.symm
  go_wp2_with fail
  refine (B.out _).mono ?_
  rintro e w2 ⟨rfl, hw2⟩
  obtain rfl := hw2.symm
  go_wp2_with fail
  go_ret2
  exact ⟨rfl, rfl⟩
set_option maxRecDepth 100000 in
set_option maxHeartbeats 1000000 in
theorem dvd_2_20ne (s : ByteArray) (a b x y r m : Int) (w : World) (hm : 9223372036854775808 = m) (hl : (a == m) = false) (hb : (y == 0) = false) (hy2 : ¬ y = 0) (q19 : (s.toList == [100, 105, 118, 95, 117]) = false) (q21 : (s.toList == [114, 101, 109, 95, 117]) = false) (q20 : (s.toList == [114, 101, 109, 95, 115]) = true)
    (A : Hid (∀ w : World, Calls Try.prog 39 #[.int .u64 a, .int .i64 64] w fun e w' => e = .returned (.int .i64 x) ∧ w' = w))
    (B : Hid (∀ w : World, Calls Try.prog 39 #[.int .u64 b, .int .i64 64] w fun e w' => e = .returned (.int .i64 y) ∧ w' = w))
    (C : Hid (∀ w : World, Calls Try.prog 29 #[.int .u64 (IntKind.u64.wrap (x.tmod y)), .int .i64 64] w fun e w' => e = .returned (.int .u64 r) ∧ w' = w))
    :
    Calls Try.prog 31 #[.string s, .int .u64 a, .int .u64 b, .int .i64 64] w fun e w' => e = .returned (.tuple #[.int .u64 r, .int .i64 0]) ∧ w' = w := by
  skip
  go_enter Try.func31, Try.ntmps31
  go_wp2_with fail
  refine (A.out _).mono ?_
  rintro e w1 ⟨rfl, hw⟩
  obtain rfl := hw.symm
  go_wp2_with fail
  refine (B.out _).mono ?_
  rintro e w2 ⟨rfl, hw2⟩
  obtain rfl := hw2.symm
  go_wp2_with fail
  refine (C.out _).mono ?_
  rintro e w3 ⟨rfl, hw3⟩
  obtain rfl := hw3.symm
  go_wp2_with fail
  go_ret2
  exact ⟨rfl, rfl⟩
set_option maxRecDepth 100000 in
set_option maxHeartbeats 1000000 in
theorem dvd_2_20eqt (s : ByteArray) (a b x y r m : Int) (w : World) (hm : 9223372036854775808 = a) (hy : y = -1) (q19 : (s.toList == [100, 105, 118, 95, 117]) = false) (q21 : (s.toList == [114, 101, 109, 95, 117]) = false) (q20 : (s.toList == [114, 101, 109, 95, 115]) = true)
    (A : Hid (∀ w : World, Calls Try.prog 39 #[.int .u64 a, .int .i64 64] w fun e w' => e = .returned (.int .i64 x) ∧ w' = w))
    (B : Hid (∀ w : World, Calls Try.prog 39 #[.int .u64 b, .int .i64 64] w fun e w' => e = .returned (.int .i64 y) ∧ w' = w))
    :
    Calls Try.prog 31 #[.string s, .int .u64 a, .int .u64 b, .int .i64 64] w fun e w' => e = .returned (.tuple #[.int .u64 0, .int .i64 0]) ∧ w' = w := by
  subst hy
  go_enter Try.func31, Try.ntmps31
  go_wp2_with fail
  refine (A.out _).mono ?_
  rintro e w1 ⟨rfl, hw⟩
  obtain rfl := hw.symm
  go_wp2_with fail
  refine (B.out _).mono ?_
  rintro e w2 ⟨rfl, hw2⟩
  obtain rfl := hw2.symm
  go_wp2_with fail
  go_ret2
  exact ⟨rfl, rfl⟩
set_option maxRecDepth 100000 in
set_option maxHeartbeats 1000000 in
theorem dvd_2_20eqf (s : ByteArray) (a b x y r m : Int) (w : World) (hm : 9223372036854775808 = a) (hb : (y == 0) = false) (hy2 : ¬ y = 0) (hy : (y == -1) = false) (q19 : (s.toList == [100, 105, 118, 95, 117]) = false) (q21 : (s.toList == [114, 101, 109, 95, 117]) = false) (q20 : (s.toList == [114, 101, 109, 95, 115]) = true)
    (A : Hid (∀ w : World, Calls Try.prog 39 #[.int .u64 a, .int .i64 64] w fun e w' => e = .returned (.int .i64 x) ∧ w' = w))
    (B : Hid (∀ w : World, Calls Try.prog 39 #[.int .u64 b, .int .i64 64] w fun e w' => e = .returned (.int .i64 y) ∧ w' = w))
    (C : Hid (∀ w : World, Calls Try.prog 29 #[.int .u64 (IntKind.u64.wrap (x.tmod y)), .int .i64 64] w fun e w' => e = .returned (.int .u64 r) ∧ w' = w))
    :
    Calls Try.prog 31 #[.string s, .int .u64 a, .int .u64 b, .int .i64 64] w fun e w' => e = .returned (.tuple #[.int .u64 r, .int .i64 0]) ∧ w' = w := by
  skip
  go_enter Try.func31, Try.ntmps31
  go_wp2_with fail
  refine (A.out _).mono ?_
  rintro e w1 ⟨rfl, hw⟩
  obtain rfl := hw.symm
  go_wp2_with fail
  refine (B.out _).mono ?_
  rintro e w2 ⟨rfl, hw2⟩
  obtain rfl := hw2.symm
  go_wp2_with fail
  refine (C.out _).mono ?_
  rintro e w3 ⟨rfl, hw3⟩
  obtain rfl := hw3.symm
  go_wp2_with fail
  go_ret2
  exact ⟨rfl, rfl⟩
set_option maxRecDepth 100000 in
set_option maxHeartbeats 1000000 in
theorem dvd_2_18ne (s : ByteArray) (a b x y r m : Int) (w : World) (hm : 9223372036854775808 = m) (hl : (a == m) = false) (hb : (y == 0) = false) (hy2 : ¬ y = 0) (q19 : (s.toList == [100, 105, 118, 95, 117]) = false) (q21 : (s.toList == [114, 101, 109, 95, 117]) = false) (q20 : (s.toList == [114, 101, 109, 95, 115]) = false)
    (A : Hid (∀ w : World, Calls Try.prog 39 #[.int .u64 a, .int .i64 64] w fun e w' => e = .returned (.int .i64 x) ∧ w' = w))
    (B : Hid (∀ w : World, Calls Try.prog 39 #[.int .u64 b, .int .i64 64] w fun e w' => e = .returned (.int .i64 y) ∧ w' = w))
    (C : Hid (∀ w : World, Calls Try.prog 29 #[.int .u64 (IntKind.u64.wrap (wrap64 (x.tdiv y))), .int .i64 64] w fun e w' => e = .returned (.int .u64 r) ∧ w' = w))
    :
    Calls Try.prog 31 #[.string s, .int .u64 a, .int .u64 b, .int .i64 64] w fun e w' => e = .returned (.tuple #[.int .u64 r, .int .i64 0]) ∧ w' = w := by
  skip
  go_enter Try.func31, Try.ntmps31
  go_wp2_with fail
  refine (A.out _).mono ?_
  rintro e w1 ⟨rfl, hw⟩
  obtain rfl := hw.symm
  go_wp2_with fail
  refine (B.out _).mono ?_
  rintro e w2 ⟨rfl, hw2⟩
  obtain rfl := hw2.symm
  go_wp2_with fail
  refine (C.out _).mono ?_
  rintro e w3 ⟨rfl, hw3⟩
  obtain rfl := hw3.symm
  go_wp2_with fail
  go_ret2
  exact ⟨rfl, rfl⟩
set_option maxRecDepth 100000 in
set_option maxHeartbeats 1000000 in
theorem dvd_2_18eqt (s : ByteArray) (a b x y r m : Int) (w : World) (hm : 9223372036854775808 = a) (hy : y = -1) (q19 : (s.toList == [100, 105, 118, 95, 117]) = false) (q21 : (s.toList == [114, 101, 109, 95, 117]) = false) (q20 : (s.toList == [114, 101, 109, 95, 115]) = false)
    (A : Hid (∀ w : World, Calls Try.prog 39 #[.int .u64 a, .int .i64 64] w fun e w' => e = .returned (.int .i64 x) ∧ w' = w))
    (B : Hid (∀ w : World, Calls Try.prog 39 #[.int .u64 b, .int .i64 64] w fun e w' => e = .returned (.int .i64 y) ∧ w' = w))
    :
    Calls Try.prog 31 #[.string s, .int .u64 a, .int .u64 b, .int .i64 64] w fun e w' => e = .returned (.tuple #[.int .u64 0, .int .i64 31]) ∧ w' = w := by
  subst hy
  go_enter Try.func31, Try.ntmps31
  go_wp2_with fail
  refine (A.out _).mono ?_
  rintro e w1 ⟨rfl, hw⟩
  obtain rfl := hw.symm
  go_wp2_with fail
  refine (B.out _).mono ?_
  rintro e w2 ⟨rfl, hw2⟩
  obtain rfl := hw2.symm
  go_wp2_with fail
  go_ret2
  exact ⟨rfl, rfl⟩
set_option maxRecDepth 100000 in
set_option maxHeartbeats 1000000 in
theorem dvd_2_18eqf (s : ByteArray) (a b x y r m : Int) (w : World) (hm : 9223372036854775808 = a) (hb : (y == 0) = false) (hy2 : ¬ y = 0) (hy : (y == -1) = false) (q19 : (s.toList == [100, 105, 118, 95, 117]) = false) (q21 : (s.toList == [114, 101, 109, 95, 117]) = false) (q20 : (s.toList == [114, 101, 109, 95, 115]) = false)
    (A : Hid (∀ w : World, Calls Try.prog 39 #[.int .u64 a, .int .i64 64] w fun e w' => e = .returned (.int .i64 x) ∧ w' = w))
    (B : Hid (∀ w : World, Calls Try.prog 39 #[.int .u64 b, .int .i64 64] w fun e w' => e = .returned (.int .i64 y) ∧ w' = w))
    (C : Hid (∀ w : World, Calls Try.prog 29 #[.int .u64 (IntKind.u64.wrap (wrap64 (x.tdiv y))), .int .i64 64] w fun e w' => e = .returned (.int .u64 r) ∧ w' = w))
    :
    Calls Try.prog 31 #[.string s, .int .u64 a, .int .u64 b, .int .i64 64] w fun e w' => e = .returned (.tuple #[.int .u64 r, .int .i64 0]) ∧ w' = w := by
  skip
  go_enter Try.func31, Try.ntmps31
  go_wp2_with fail
  refine (A.out _).mono ?_
  rintro e w1 ⟨rfl, hw⟩
  obtain rfl := hw.symm
  go_wp2_with fail
  refine (B.out _).mono ?_
  rintro e w2 ⟨rfl, hw2⟩
  obtain rfl := hw2.symm
  go_wp2_with fail
  refine (C.out _).mono ?_
  rintro e w3 ⟨rfl, hw3⟩
  obtain rfl := hw3.symm
  go_wp2_with fail
  go_ret2
  exact ⟨rfl, rfl⟩
/- The answers of divided. -/
def dvx (k t a b : Int) : Int × Int :=
  if k = 19 then (a / b, 0) else if k = 21 then (a % b, 0)
  else if sg t a = least t ∧ sg t b = -1 then (0, if k = 20 then 0 else 31)
  else if k = 20 then (ct t ((sg t a).tmod (sg t b) % 18446744073709551616), 0) else (ct t ((sg t a).tdiv (sg t b) % 18446744073709551616), 0)
theorem divided_any (k t a b : Int) (w : World) (hk0 : 18 ≤ k) (hk1 : k ≤ 21) (ht : t = 1 ∨ t = 2) (h0 : 0 ≤ a) (h1 : a < (if t = 1 then 4294967296 else 18446744073709551616)) (h2 : 0 ≤ b) (h3 : b < (if t = 1 then 4294967296 else 18446744073709551616)) (hb : b ≠ 0) :
    Calls Try.prog 31 #[.string (wstr k), .int .u64 a, .int .u64 b, .int .i64 (wd t)] w fun e w' => e = .returned (.tuple #[.int .u64 (dvx k t a b).1, .int .i64 (dvx k t a b).2]) ∧ w' = w := by
  have h4 : a < 18446744073709551616 := by split at h1 <;> omega
  have h5 : b < 18446744073709551616 := by split at h3 <;> omega
  have A := fun (w : World) => Signed_any t a w ht h0 h4
  have B := fun (w : World) => Signed_any t b w ht h2 h5
  have hz := sg_zero ht h2 h3
  have hyz : sg t b ≠ 0 := fun h => hb (hz.1 h)
  have hh : k = 18 ∨ k = 19 ∨ k = 20 ∨ k = 21 := by omega
  have C := fun (z : Int) (w : World) => Cut_any t (z % 18446744073709551616) w ht (by omega)
  rcases ht with rfl | rfl
  · have hl : sg 1 a = least 1 ↔ a = 2147483648 := by simp [sg, least] at *; omega
    have e18 : IntKind.u64.wrap (wrap64 ((sg 1 a).tdiv (sg 1 b))) = (sg 1 a).tdiv (sg 1 b) % 18446744073709551616 := by rw [IntKind.wrap_u64]; unfold wrap64; omega
    have e20 : IntKind.u64.wrap ((sg 1 a).tmod (sg 1 b)) = (sg 1 a).tmod (sg 1 b) % 18446744073709551616 := by rw [IntKind.wrap_u64]
    have C18 := C ((sg 1 a).tdiv (sg 1 b))
    have C20 := C ((sg 1 a).tmod (sg 1 b))
    rw [← e18] at C18
    rw [← e20] at C20
    rcases hh with rfl | rfl | rfl | rfl
    · by_cases e : a = 2147483648
      · by_cases hy : sg 1 b = -1
        · have ed : dvx 18 1 a b = (0, 31) := by unfold dvx; rw [if_neg (by decide), if_neg (by decide), if_pos ⟨hl.2 e, hy⟩]; rfl
          rw [ed]
          exact dvd_1_18eqt (wstr 18) a b _ _ 0 0 w e.symm hy (by rw [q_19 (by decide) (by decide)]; decide) (by rw [q_21 (by decide) (by decide)]; decide) (by rw [q_20 (by decide) (by decide)]; decide) A B
        · have ed : dvx 18 1 a b = (ct 1 (IntKind.u64.wrap (wrap64 ((sg 1 a).tdiv (sg 1 b)))), 0) := by unfold dvx; rw [if_neg (by decide), if_neg (by decide), if_neg (fun h => hy h.2), e18]; rfl
          rw [ed]
          exact dvd_1_18eqf (wstr 18) a b _ _ _ 0 w e.symm (beq_eq_false_iff_ne.2 hyz) hyz (beq_eq_false_iff_ne.2 hy) (by rw [q_19 (by decide) (by decide)]; decide) (by rw [q_21 (by decide) (by decide)]; decide) (by rw [q_20 (by decide) (by decide)]; decide) A B C18
      · have ed : dvx 18 1 a b = (ct 1 (IntKind.u64.wrap (wrap64 ((sg 1 a).tdiv (sg 1 b)))), 0) := by unfold dvx; rw [if_neg (by decide), if_neg (by decide), if_neg (fun h => e (hl.1 h.1)), e18]; rfl
        rw [ed]
        exact dvd_1_18ne (wstr 18) a b _ _ _ 2147483648 w rfl (beq_eq_false_iff_ne.2 e) (beq_eq_false_iff_ne.2 hyz) hyz (by rw [q_19 (by decide) (by decide)]; decide) (by rw [q_21 (by decide) (by decide)]; decide) (by rw [q_20 (by decide) (by decide)]; decide) A B C18
    · by_cases e : a = 2147483648
      · exact dvd_1_19eq (wstr 19) a b _ _ 0 0 w e.symm (beq_eq_false_iff_ne.2 hb) h0 h4 (by omega) (by rw [q_19 (by decide) (by decide)]; decide) A B
      · exact dvd_1_19ne (wstr 19) a b _ _ 0 2147483648 w rfl (beq_eq_false_iff_ne.2 e) (beq_eq_false_iff_ne.2 hb) h0 h4 (by omega) (by rw [q_19 (by decide) (by decide)]; decide) A B
    · by_cases e : a = 2147483648
      · by_cases hy : sg 1 b = -1
        · have ed : dvx 20 1 a b = (0, 0) := by unfold dvx; rw [if_neg (by decide), if_neg (by decide), if_pos ⟨hl.2 e, hy⟩]; rfl
          rw [ed]
          exact dvd_1_20eqt (wstr 20) a b _ _ 0 0 w e.symm hy (by rw [q_19 (by decide) (by decide)]; decide) (by rw [q_21 (by decide) (by decide)]; decide) (by rw [q_20 (by decide) (by decide)]; decide) A B
        · have ed : dvx 20 1 a b = (ct 1 (IntKind.u64.wrap ((sg 1 a).tmod (sg 1 b))), 0) := by unfold dvx; rw [if_neg (by decide), if_neg (by decide), if_neg (fun h => hy h.2), e20]; rfl
          rw [ed]
          exact dvd_1_20eqf (wstr 20) a b _ _ _ 0 w e.symm (beq_eq_false_iff_ne.2 hyz) hyz (beq_eq_false_iff_ne.2 hy) (by rw [q_19 (by decide) (by decide)]; decide) (by rw [q_21 (by decide) (by decide)]; decide) (by rw [q_20 (by decide) (by decide)]; decide) A B C20
      · have ed : dvx 20 1 a b = (ct 1 (IntKind.u64.wrap ((sg 1 a).tmod (sg 1 b))), 0) := by unfold dvx; rw [if_neg (by decide), if_neg (by decide), if_neg (fun h => e (hl.1 h.1)), e20]; rfl
        rw [ed]
        exact dvd_1_20ne (wstr 20) a b _ _ _ 2147483648 w rfl (beq_eq_false_iff_ne.2 e) (beq_eq_false_iff_ne.2 hyz) hyz (by rw [q_19 (by decide) (by decide)]; decide) (by rw [q_21 (by decide) (by decide)]; decide) (by rw [q_20 (by decide) (by decide)]; decide) A B C20
    · by_cases e : a = 2147483648
      · exact dvd_1_21eq (wstr 21) a b _ _ 0 0 w e.symm (beq_eq_false_iff_ne.2 hb) h0 h4 (by omega) (by rw [q_19 (by decide) (by decide)]; decide) (by rw [q_21 (by decide) (by decide)]; decide) A B
      · exact dvd_1_21ne (wstr 21) a b _ _ 0 2147483648 w rfl (beq_eq_false_iff_ne.2 e) (beq_eq_false_iff_ne.2 hb) h0 h4 (by omega) (by rw [q_19 (by decide) (by decide)]; decide) (by rw [q_21 (by decide) (by decide)]; decide) A B
  · have hl : sg 2 a = least 2 ↔ a = 9223372036854775808 := by simp [sg, least] at *; omega
    have e18 : IntKind.u64.wrap (wrap64 ((sg 2 a).tdiv (sg 2 b))) = (sg 2 a).tdiv (sg 2 b) % 18446744073709551616 := by rw [IntKind.wrap_u64]; unfold wrap64; omega
    have e20 : IntKind.u64.wrap ((sg 2 a).tmod (sg 2 b)) = (sg 2 a).tmod (sg 2 b) % 18446744073709551616 := by rw [IntKind.wrap_u64]
    have C18 := C ((sg 2 a).tdiv (sg 2 b))
    have C20 := C ((sg 2 a).tmod (sg 2 b))
    rw [← e18] at C18
    rw [← e20] at C20
    rcases hh with rfl | rfl | rfl | rfl
    · by_cases e : a = 9223372036854775808
      · by_cases hy : sg 2 b = -1
        · have ed : dvx 18 2 a b = (0, 31) := by unfold dvx; rw [if_neg (by decide), if_neg (by decide), if_pos ⟨hl.2 e, hy⟩]; rfl
          rw [ed]
          exact dvd_2_18eqt (wstr 18) a b _ _ 0 0 w e.symm hy (by rw [q_19 (by decide) (by decide)]; decide) (by rw [q_21 (by decide) (by decide)]; decide) (by rw [q_20 (by decide) (by decide)]; decide) A B
        · have ed : dvx 18 2 a b = (ct 2 (IntKind.u64.wrap (wrap64 ((sg 2 a).tdiv (sg 2 b)))), 0) := by unfold dvx; rw [if_neg (by decide), if_neg (by decide), if_neg (fun h => hy h.2), e18]; rfl
          rw [ed]
          exact dvd_2_18eqf (wstr 18) a b _ _ _ 0 w e.symm (beq_eq_false_iff_ne.2 hyz) hyz (beq_eq_false_iff_ne.2 hy) (by rw [q_19 (by decide) (by decide)]; decide) (by rw [q_21 (by decide) (by decide)]; decide) (by rw [q_20 (by decide) (by decide)]; decide) A B C18
      · have ed : dvx 18 2 a b = (ct 2 (IntKind.u64.wrap (wrap64 ((sg 2 a).tdiv (sg 2 b)))), 0) := by unfold dvx; rw [if_neg (by decide), if_neg (by decide), if_neg (fun h => e (hl.1 h.1)), e18]; rfl
        rw [ed]
        exact dvd_2_18ne (wstr 18) a b _ _ _ 9223372036854775808 w rfl (beq_eq_false_iff_ne.2 e) (beq_eq_false_iff_ne.2 hyz) hyz (by rw [q_19 (by decide) (by decide)]; decide) (by rw [q_21 (by decide) (by decide)]; decide) (by rw [q_20 (by decide) (by decide)]; decide) A B C18
    · by_cases e : a = 9223372036854775808
      · exact dvd_2_19eq (wstr 19) a b _ _ 0 0 w e.symm (beq_eq_false_iff_ne.2 hb) h0 h4 (by omega) (by rw [q_19 (by decide) (by decide)]; decide) A B
      · exact dvd_2_19ne (wstr 19) a b _ _ 0 9223372036854775808 w rfl (beq_eq_false_iff_ne.2 e) (beq_eq_false_iff_ne.2 hb) h0 h4 (by omega) (by rw [q_19 (by decide) (by decide)]; decide) A B
    · by_cases e : a = 9223372036854775808
      · by_cases hy : sg 2 b = -1
        · have ed : dvx 20 2 a b = (0, 0) := by unfold dvx; rw [if_neg (by decide), if_neg (by decide), if_pos ⟨hl.2 e, hy⟩]; rfl
          rw [ed]
          exact dvd_2_20eqt (wstr 20) a b _ _ 0 0 w e.symm hy (by rw [q_19 (by decide) (by decide)]; decide) (by rw [q_21 (by decide) (by decide)]; decide) (by rw [q_20 (by decide) (by decide)]; decide) A B
        · have ed : dvx 20 2 a b = (ct 2 (IntKind.u64.wrap ((sg 2 a).tmod (sg 2 b))), 0) := by unfold dvx; rw [if_neg (by decide), if_neg (by decide), if_neg (fun h => hy h.2), e20]; rfl
          rw [ed]
          exact dvd_2_20eqf (wstr 20) a b _ _ _ 0 w e.symm (beq_eq_false_iff_ne.2 hyz) hyz (beq_eq_false_iff_ne.2 hy) (by rw [q_19 (by decide) (by decide)]; decide) (by rw [q_21 (by decide) (by decide)]; decide) (by rw [q_20 (by decide) (by decide)]; decide) A B C20
      · have ed : dvx 20 2 a b = (ct 2 (IntKind.u64.wrap ((sg 2 a).tmod (sg 2 b))), 0) := by unfold dvx; rw [if_neg (by decide), if_neg (by decide), if_neg (fun h => e (hl.1 h.1)), e20]; rfl
        rw [ed]
        exact dvd_2_20ne (wstr 20) a b _ _ _ 9223372036854775808 w rfl (beq_eq_false_iff_ne.2 e) (beq_eq_false_iff_ne.2 hyz) hyz (by rw [q_19 (by decide) (by decide)]; decide) (by rw [q_21 (by decide) (by decide)]; decide) (by rw [q_20 (by decide) (by decide)]; decide) A B C20
    · by_cases e : a = 9223372036854775808
      · exact dvd_2_21eq (wstr 21) a b _ _ 0 0 w e.symm (beq_eq_false_iff_ne.2 hb) h0 h4 (by omega) (by rw [q_19 (by decide) (by decide)]; decide) (by rw [q_21 (by decide) (by decide)]; decide) A B
      · exact dvd_2_21ne (wstr 21) a b _ _ 0 9223372036854775808 w rfl (beq_eq_false_iff_ne.2 e) (beq_eq_false_iff_ne.2 hb) h0 h4 (by omega) (by rw [q_19 (by decide) (by decide)]; decide) (by rw [q_21 (by decide) (by decide)]; decide) A B
end Go.Proofs.Ytolllelejdnjlaa
