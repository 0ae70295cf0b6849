/-
  The walks of the document's Signed of few bits and of its Unary; no statement is proved here.
-/
import Derived.Test.YtolllelejdnjlaaDoorRefS
import Derived.Test.YtolllelejdnjlaaDoorRefND
namespace Go.Proofs.YtolllelejdnjlaaDoor
open Go.RowKit
set_option linter.unusedVariables false
set_option linter.unusedSimpArgs false

set_option maxRecDepth 100000 in
theorem Cut_8 (a : Int) (w : World) (h0 : 0 ≤ a) : Calls Tryd.prog 18 #[.int .u64 a, .int .i64 8] w fun e w' => e = .returned (.int .u64 (a % 256)) ∧ w' = w := by
  go_enter Tryd.func18, Tryd.ntmps18
  go_wp2
  go_ret
  exact ⟨rfl, rfl⟩
set_option maxRecDepth 100000 in
theorem Signed_8 (a : Int) (w : World) (h0 : 0 ≤ a) : Calls Tryd.prog 20 #[.int .u64 a, .int .i64 8] w fun e w' => e = .returned (.int .i64 ((a + 128) % 256 - 128)) ∧ w' = w := by
  have A : Hid (∀ w : World, Calls Tryd.prog 18 #[.int .u64 a, .int .i64 8] w fun e w' => e = .returned (.int .u64 (a % 256)) ∧ w' = w) := fun w => Cut_8 a w h0
  obtain ⟨c, hc⟩ : ∃ c, c = a % 256 := ⟨_, rfl⟩
  rw [← hc] at A
  have c0 : 0 ≤ c := by omega
  have c1 : c < 256 := by omega
  by_cases hh : 128 ≤ c
  · have e : (a + 128) % 256 - 128 = c - 256 := by omega
    rw [e]
    clear e hc h0
    go_enter Tryd.func20, Tryd.ntmps20
    go_wp2_with fail
    refine (A.out _).mono ?_
    rintro e w1 ⟨rfl, hw⟩
    obtain rfl := hw.symm
    go_wp2
    go_ret
    exact ⟨rfl, rfl⟩
  · have e : (a + 128) % 256 - 128 = c := by omega
    rw [e]
    clear e hc h0
    go_enter Tryd.func20, Tryd.ntmps20
    go_wp2_with fail
    refine (A.out _).mono ?_
    rintro e w1 ⟨rfl, hw⟩
    obtain rfl := hw.symm
    go_wp2
    go_ret
    exact ⟨rfl, rfl⟩
set_option maxRecDepth 100000 in
theorem Cut_16 (a : Int) (w : World) (h0 : 0 ≤ a) : Calls Tryd.prog 18 #[.int .u64 a, .int .i64 16] w fun e w' => e = .returned (.int .u64 (a % 65536)) ∧ w' = w := by
  go_enter Tryd.func18, Tryd.ntmps18
  go_wp2
  go_ret
  exact ⟨rfl, rfl⟩
set_option maxRecDepth 100000 in
theorem Signed_16 (a : Int) (w : World) (h0 : 0 ≤ a) : Calls Tryd.prog 20 #[.int .u64 a, .int .i64 16] w fun e w' => e = .returned (.int .i64 ((a + 32768) % 65536 - 32768)) ∧ w' = w := by
  have A : Hid (∀ w : World, Calls Tryd.prog 18 #[.int .u64 a, .int .i64 16] w fun e w' => e = .returned (.int .u64 (a % 65536)) ∧ w' = w) := fun w => Cut_16 a w h0
  obtain ⟨c, hc⟩ : ∃ c, c = a % 65536 := ⟨_, rfl⟩
  rw [← hc] at A
  have c0 : 0 ≤ c := by omega
  have c1 : c < 65536 := by omega
  by_cases hh : 32768 ≤ c
  · have e : (a + 32768) % 65536 - 32768 = c - 65536 := by omega
    rw [e]
    clear e hc h0
    go_enter Tryd.func20, Tryd.ntmps20
    go_wp2_with fail
    refine (A.out _).mono ?_
    rintro e w1 ⟨rfl, hw⟩
    obtain rfl := hw.symm
    go_wp2
    go_ret
    exact ⟨rfl, rfl⟩
  · have e : (a + 32768) % 65536 - 32768 = c := by omega
    rw [e]
    clear e hc h0
    go_enter Tryd.func20, Tryd.ntmps20
    go_wp2_with fail
    refine (A.out _).mono ?_
    rintro e w1 ⟨rfl, hw⟩
    obtain rfl := hw.symm
    go_wp2
    go_ret
    exact ⟨rfl, rfl⟩
set_option maxRecDepth 100000 in
set_option maxHeartbeats 1000000 in
theorem ru_1 (op a u A r : Int) (s : ByteArray) (w : World) (q1 : (s.toList == [101, 113, 122]) = true)
    (BI : Hid (∀ w : World, Calls Tryd.prog 17 #[.int .i64 op] w fun e w' => e = .returned (.int .i64 u) ∧ w' = w))
    (CA : Hid (∀ w : World, Calls Tryd.prog 18 #[.int .u64 a, .int .i64 u] w fun e w' => e = .returned (.int .u64 A) ∧ w' = w))
    (NM : Hid (∀ w : World, Calls Tryd.prog 15 #[.int .i64 op] w fun e w' => e = .returned (.string s) ∧ w' = w))
    (TT : Hid (∀ w : World, Calls Tryd.prog 19 #[.bool (A == 0)] w fun e w' => e = .returned (.int .u64 r) ∧ w' = w))
    :
    Calls Tryd.prog 8 #[.int .i64 op, .int .u64 a] w fun e w' => e = .returned (.int .u64 (r)) ∧ w' = w := by
  go_enter Tryd.func8, Tryd.ntmps8
  go_wp2_with fail
  refine (BI.out _).mono ?_
  rintro e w1 ⟨rfl, hw⟩
  obtain rfl := hw.symm
  clear hw
  go_wp2_with fail
  refine (CA.out _).mono ?_
  rintro e w1 ⟨rfl, hw⟩
  obtain rfl := hw.symm
  clear hw
  go_wp2_with fail
  refine (NM.out _).mono ?_
  rintro e w1 ⟨rfl, hw⟩
  obtain rfl := hw.symm
  clear hw
  go_wp2_with fail
  refine (TT.out _).mono ?_
  rintro e w1 ⟨rfl, hw⟩
  obtain rfl := hw.symm
  clear hw
  go_wp2_with fail
  go_ret
  exact ⟨rfl, rfl⟩
set_option maxRecDepth 100000 in
set_option maxHeartbeats 1000000 in
theorem ru_30 (op a u A x r : Int) (s : ByteArray) (w : World) (q1 : (s.toList == [101, 113, 122]) = false) (q30 : (s.toList == [101, 120, 116, 101, 110, 100, 56, 95, 115]) = true)
    (BI : Hid (∀ w : World, Calls Tryd.prog 17 #[.int .i64 op] w fun e w' => e = .returned (.int .i64 u) ∧ w' = w))
    (CA : Hid (∀ w : World, Calls Tryd.prog 18 #[.int .u64 a, .int .i64 u] w fun e w' => e = .returned (.int .u64 A) ∧ w' = w))
    (NM : Hid (∀ w : World, Calls Tryd.prog 15 #[.int .i64 op] w fun e w' => e = .returned (.string s) ∧ w' = w))
    (S : Hid (∀ w : World, Calls Tryd.prog 20 #[.int .u64 A, .int .i64 8] w fun e w' => e = .returned (.int .i64 x) ∧ w' = w))
    (D : Hid (∀ w : World, Calls Tryd.prog 18 #[.int .u64 (IntKind.u64.wrap x), .int .i64 u] w fun e w' => e = .returned (.int .u64 r) ∧ w' = w))
    :
    Calls Tryd.prog 8 #[.int .i64 op, .int .u64 a] w fun e w' => e = .returned (.int .u64 (r)) ∧ w' = w := by
  go_enter Tryd.func8, Tryd.ntmps8
  go_wp2_with fail
  refine (BI.out _).mono ?_
  rintro e w1 ⟨rfl, hw⟩
  obtain rfl := hw.symm
  clear hw
  go_wp2_with fail
  refine (CA.out _).mono ?_
  rintro e w1 ⟨rfl, hw⟩
  obtain rfl := hw.symm
  clear hw
  go_wp2_with fail
  refine (NM.out _).mono ?_
  rintro e w1 ⟨rfl, hw⟩
  obtain rfl := hw.symm
  clear hw
  go_wp2_with fail
  refine (S.out _).mono ?_
  rintro e w1 ⟨rfl, hw⟩
  obtain rfl := hw.symm
  clear hw
  go_wp2_with fail
  refine (D.out _).mono ?_
  rintro e w1 ⟨rfl, hw⟩
  obtain rfl := hw.symm
  clear hw
  go_wp2_with fail
  go_ret
  exact ⟨rfl, rfl⟩
set_option maxRecDepth 100000 in
set_option maxHeartbeats 1000000 in
theorem ru_31 (op a u A x r : Int) (s : ByteArray) (w : World) (q1 : (s.toList == [101, 113, 122]) = false) (q30 : (s.toList == [101, 120, 116, 101, 110, 100, 56, 95, 115]) = false) (q31 : (s.toList == [101, 120, 116, 101, 110, 100, 49, 54, 95, 115]) = true)
    (BI : Hid (∀ w : World, Calls Tryd.prog 17 #[.int .i64 op] w fun e w' => e = .returned (.int .i64 u) ∧ w' = w))
    (CA : Hid (∀ w : World, Calls Tryd.prog 18 #[.int .u64 a, .int .i64 u] w fun e w' => e = .returned (.int .u64 A) ∧ w' = w))
    (NM : Hid (∀ w : World, Calls Tryd.prog 15 #[.int .i64 op] w fun e w' => e = .returned (.string s) ∧ w' = w))
    (S : Hid (∀ w : World, Calls Tryd.prog 20 #[.int .u64 A, .int .i64 16] w fun e w' => e = .returned (.int .i64 x) ∧ w' = w))
    (D : Hid (∀ w : World, Calls Tryd.prog 18 #[.int .u64 (IntKind.u64.wrap x), .int .i64 u] w fun e w' => e = .returned (.int .u64 r) ∧ w' = w))
    :
    Calls Tryd.prog 8 #[.int .i64 op, .int .u64 a] w fun e w' => e = .returned (.int .u64 (r)) ∧ w' = w := by
  go_enter Tryd.func8, Tryd.ntmps8
  go_wp2_with fail
  refine (BI.out _).mono ?_
  rintro e w1 ⟨rfl, hw⟩
  obtain rfl := hw.symm
  clear hw
  go_wp2_with fail
  refine (CA.out _).mono ?_
  rintro e w1 ⟨rfl, hw⟩
  obtain rfl := hw.symm
  clear hw
  go_wp2_with fail
  refine (NM.out _).mono ?_
  rintro e w1 ⟨rfl, hw⟩
  obtain rfl := hw.symm
  clear hw
  go_wp2_with fail
  refine (S.out _).mono ?_
  rintro e w1 ⟨rfl, hw⟩
  obtain rfl := hw.symm
  clear hw
  go_wp2_with fail
  refine (D.out _).mono ?_
  rintro e w1 ⟨rfl, hw⟩
  obtain rfl := hw.symm
  clear hw
  go_wp2_with fail
  go_ret
  exact ⟨rfl, rfl⟩
set_option maxRecDepth 100000 in
set_option maxHeartbeats 1000000 in
theorem ru_32 (op a u A x r : Int) (s : ByteArray) (w : World) (q1 : (s.toList == [101, 113, 122]) = false) (q30 : (s.toList == [101, 120, 116, 101, 110, 100, 56, 95, 115]) = false) (q31 : (s.toList == [101, 120, 116, 101, 110, 100, 49, 54, 95, 115]) = false) (q32 : (s.toList == [101, 120, 116, 101, 110, 100, 51, 50, 95, 115]) = true)
    (BI : Hid (∀ w : World, Calls Tryd.prog 17 #[.int .i64 op] w fun e w' => e = .returned (.int .i64 u) ∧ w' = w))
    (CA : Hid (∀ w : World, Calls Tryd.prog 18 #[.int .u64 a, .int .i64 u] w fun e w' => e = .returned (.int .u64 A) ∧ w' = w))
    (NM : Hid (∀ w : World, Calls Tryd.prog 15 #[.int .i64 op] w fun e w' => e = .returned (.string s) ∧ w' = w))
    (S : Hid (∀ w : World, Calls Tryd.prog 20 #[.int .u64 A, .int .i64 32] w fun e w' => e = .returned (.int .i64 x) ∧ w' = w))
    (D : Hid (∀ w : World, Calls Tryd.prog 18 #[.int .u64 (IntKind.u64.wrap x), .int .i64 u] w fun e w' => e = .returned (.int .u64 r) ∧ w' = w))
    :
    Calls Tryd.prog 8 #[.int .i64 op, .int .u64 a] w fun e w' => e = .returned (.int .u64 (r)) ∧ w' = w := by
  go_enter Tryd.func8, Tryd.ntmps8
  go_wp2_with fail
  refine (BI.out _).mono ?_
  rintro e w1 ⟨rfl, hw⟩
  obtain rfl := hw.symm
  clear hw
  go_wp2_with fail
  refine (CA.out _).mono ?_
  rintro e w1 ⟨rfl, hw⟩
  obtain rfl := hw.symm
  clear hw
  go_wp2_with fail
  refine (NM.out _).mono ?_
  rintro e w1 ⟨rfl, hw⟩
  obtain rfl := hw.symm
  clear hw
  go_wp2_with fail
  refine (S.out _).mono ?_
  rintro e w1 ⟨rfl, hw⟩
  obtain rfl := hw.symm
  clear hw
  go_wp2_with fail
  refine (D.out _).mono ?_
  rintro e w1 ⟨rfl, hw⟩
  obtain rfl := hw.symm
  clear hw
  go_wp2_with fail
  go_ret
  exact ⟨rfl, rfl⟩
set_option maxRecDepth 100000 in
set_option maxHeartbeats 1000000 in
theorem ru_33 (op a u A r : Int) (s : ByteArray) (w : World) (q1 : (s.toList == [101, 113, 122]) = false) (q30 : (s.toList == [101, 120, 116, 101, 110, 100, 56, 95, 115]) = false) (q31 : (s.toList == [101, 120, 116, 101, 110, 100, 49, 54, 95, 115]) = false) (q32 : (s.toList == [101, 120, 116, 101, 110, 100, 51, 50, 95, 115]) = false) (q33 : (s.toList == [119, 114, 97, 112, 95, 105, 54, 52]) = true)
    (BI : Hid (∀ w : World, Calls Tryd.prog 17 #[.int .i64 op] w fun e w' => e = .returned (.int .i64 u) ∧ w' = w))
    (CA : Hid (∀ w : World, Calls Tryd.prog 18 #[.int .u64 a, .int .i64 u] w fun e w' => e = .returned (.int .u64 A) ∧ w' = w))
    (NM : Hid (∀ w : World, Calls Tryd.prog 15 #[.int .i64 op] w fun e w' => e = .returned (.string s) ∧ w' = w))
    (D : Hid (∀ w : World, Calls Tryd.prog 18 #[.int .u64 A, .int .i64 32] w fun e w' => e = .returned (.int .u64 r) ∧ w' = w))
    :
    Calls Tryd.prog 8 #[.int .i64 op, .int .u64 a] w fun e w' => e = .returned (.int .u64 (r)) ∧ w' = w := by
  go_enter Tryd.func8, Tryd.ntmps8
  go_wp2_with fail
  refine (BI.out _).mono ?_
  rintro e w1 ⟨rfl, hw⟩
  obtain rfl := hw.symm
  clear hw
  go_wp2_with fail
  refine (CA.out _).mono ?_
  rintro e w1 ⟨rfl, hw⟩
  obtain rfl := hw.symm
  clear hw
  go_wp2_with fail
  refine (NM.out _).mono ?_
  rintro e w1 ⟨rfl, hw⟩
  obtain rfl := hw.symm
  clear hw
  go_wp2_with fail
  refine (D.out _).mono ?_
  rintro e w1 ⟨rfl, hw⟩
  obtain rfl := hw.symm
  clear hw
  go_wp2_with fail
  go_ret
  exact ⟨rfl, rfl⟩
set_option maxRecDepth 100000 in
set_option maxHeartbeats 1000000 in
theorem ru_34 (op a u A x : Int) (s : ByteArray) (w : World) (q1 : (s.toList == [101, 113, 122]) = false) (q30 : (s.toList == [101, 120, 116, 101, 110, 100, 56, 95, 115]) = false) (q31 : (s.toList == [101, 120, 116, 101, 110, 100, 49, 54, 95, 115]) = false) (q32 : (s.toList == [101, 120, 116, 101, 110, 100, 51, 50, 95, 115]) = false) (q33 : (s.toList == [119, 114, 97, 112, 95, 105, 54, 52]) = false) (q34 : (s.toList == [101, 120, 116, 101, 110, 100, 95, 105, 51, 50, 95, 115]) = true)
    (BI : Hid (∀ w : World, Calls Tryd.prog 17 #[.int .i64 op] w fun e w' => e = .returned (.int .i64 u) ∧ w' = w))
    (CA : Hid (∀ w : World, Calls Tryd.prog 18 #[.int .u64 a, .int .i64 u] w fun e w' => e = .returned (.int .u64 A) ∧ w' = w))
    (NM : Hid (∀ w : World, Calls Tryd.prog 15 #[.int .i64 op] w fun e w' => e = .returned (.string s) ∧ w' = w))
    (S : Hid (∀ w : World, Calls Tryd.prog 20 #[.int .u64 A, .int .i64 32] w fun e w' => e = .returned (.int .i64 x) ∧ w' = w))
    :
    Calls Tryd.prog 8 #[.int .i64 op, .int .u64 a] w fun e w' => e = .returned (.int .u64 (IntKind.u64.wrap x)) ∧ w' = w := by
  go_enter Tryd.func8, Tryd.ntmps8
  go_wp2_with fail
  refine (BI.out _).mono ?_
  rintro e w1 ⟨rfl, hw⟩
  obtain rfl := hw.symm
  clear hw
  go_wp2_with fail
  refine (CA.out _).mono ?_
  rintro e w1 ⟨rfl, hw⟩
  obtain rfl := hw.symm
  clear hw
  go_wp2_with fail
  refine (NM.out _).mono ?_
  rintro e w1 ⟨rfl, hw⟩
  obtain rfl := hw.symm
  clear hw
  go_wp2_with fail
  refine (S.out _).mono ?_
  rintro e w1 ⟨rfl, hw⟩
  obtain rfl := hw.symm
  clear hw
  go_wp2_with fail
  go_ret
  exact ⟨rfl, rfl⟩
set_option maxRecDepth 100000 in
set_option maxHeartbeats 1000000 in
theorem ru_35 (op a u A : Int) (s : ByteArray) (w : World) (q1 : (s.toList == [101, 113, 122]) = false) (q30 : (s.toList == [101, 120, 116, 101, 110, 100, 56, 95, 115]) = false) (q31 : (s.toList == [101, 120, 116, 101, 110, 100, 49, 54, 95, 115]) = false) (q32 : (s.toList == [101, 120, 116, 101, 110, 100, 51, 50, 95, 115]) = false) (q33 : (s.toList == [119, 114, 97, 112, 95, 105, 54, 52]) = false) (q34 : (s.toList == [101, 120, 116, 101, 110, 100, 95, 105, 51, 50, 95, 115]) = false) (q35 : (s.toList == [101, 120, 116, 101, 110, 100, 95, 105, 51, 50, 95, 117]) = true)
    (BI : Hid (∀ w : World, Calls Tryd.prog 17 #[.int .i64 op] w fun e w' => e = .returned (.int .i64 u) ∧ w' = w))
    (CA : Hid (∀ w : World, Calls Tryd.prog 18 #[.int .u64 a, .int .i64 u] w fun e w' => e = .returned (.int .u64 A) ∧ w' = w))
    (NM : Hid (∀ w : World, Calls Tryd.prog 15 #[.int .i64 op] w fun e w' => e = .returned (.string s) ∧ w' = w))
    :
    Calls Tryd.prog 8 #[.int .i64 op, .int .u64 a] w fun e w' => e = .returned (.int .u64 (A)) ∧ w' = w := by
  go_enter Tryd.func8, Tryd.ntmps8
  go_wp2_with fail
  refine (BI.out _).mono ?_
  rintro e w1 ⟨rfl, hw⟩
  obtain rfl := hw.symm
  clear hw
  go_wp2_with fail
  refine (CA.out _).mono ?_
  rintro e w1 ⟨rfl, hw⟩
  obtain rfl := hw.symm
  clear hw
  go_wp2_with fail
  refine (NM.out _).mono ?_
  rintro e w1 ⟨rfl, hw⟩
  obtain rfl := hw.symm
  clear hw
  go_wp2_with fail
  go_ret
  exact ⟨rfl, rfl⟩
set_option maxRecDepth 100000 in
set_option maxHeartbeats 1000000 in
theorem ru_cnt (op a u A r : Int) (s : ByteArray) (w : World) (q1 : (s.toList == [101, 113, 122]) = false) (q30 : (s.toList == [101, 120, 116, 101, 110, 100, 56, 95, 115]) = false) (q31 : (s.toList == [101, 120, 116, 101, 110, 100, 49, 54, 95, 115]) = false) (q32 : (s.toList == [101, 120, 116, 101, 110, 100, 51, 50, 95, 115]) = false) (q33 : (s.toList == [119, 114, 97, 112, 95, 105, 54, 52]) = false) (q34 : (s.toList == [101, 120, 116, 101, 110, 100, 95, 105, 51, 50, 95, 115]) = false) (q35 : (s.toList == [101, 120, 116, 101, 110, 100, 95, 105, 51, 50, 95, 117]) = false)
    (BI : Hid (∀ w : World, Calls Tryd.prog 17 #[.int .i64 op] w fun e w' => e = .returned (.int .i64 u) ∧ w' = w))
    (CA : Hid (∀ w : World, Calls Tryd.prog 18 #[.int .u64 a, .int .i64 u] w fun e w' => e = .returned (.int .u64 A) ∧ w' = w))
    (NM : Hid (∀ w : World, Calls Tryd.prog 15 #[.int .i64 op] w fun e w' => e = .returned (.string s) ∧ w' = w))
    (D : Hid (∀ w : World, Calls Tryd.prog 21 #[.string s, .int .u64 A, .int .i64 u] w fun e w' => e = .returned (.int .u64 r) ∧ w' = w))
    :
    Calls Tryd.prog 8 #[.int .i64 op, .int .u64 a] w fun e w' => e = .returned (.int .u64 (r)) ∧ w' = w := by
  go_enter Tryd.func8, Tryd.ntmps8
  go_wp2_with fail
  refine (BI.out _).mono ?_
  rintro e w1 ⟨rfl, hw⟩
  obtain rfl := hw.symm
  clear hw
  go_wp2_with fail
  refine (CA.out _).mono ?_
  rintro e w1 ⟨rfl, hw⟩
  obtain rfl := hw.symm
  clear hw
  go_wp2_with fail
  refine (NM.out _).mono ?_
  rintro e w1 ⟨rfl, hw⟩
  obtain rfl := hw.symm
  clear hw
  go_wp2_with fail
  refine (NM.out _).mono ?_
  rintro e w1 ⟨rfl, hw⟩
  obtain rfl := hw.symm
  clear hw
  go_wp2_with fail
  refine (D.out _).mono ?_
  rintro e w1 ⟨rfl, hw⟩
  obtain rfl := hw.symm
  clear hw
  go_wp2_with fail
  go_ret
  exact ⟨rfl, rfl⟩
end Go.Proofs.YtolllelejdnjlaaDoor
