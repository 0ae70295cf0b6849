/-
  The walk of the document's Binary; no statement is proved here.
-/
import Derived.Test.YtolllelejdnjlaaRefC
import Derived.Test.YtolllelejdnjlaaRefH
namespace Go.Proofs.Ytolllelejdnjlaa
open Go.RowKit
set_option linter.unusedVariables false
set_option linter.unusedSimpArgs false

set_option maxRecDepth 100000 in
set_option maxHeartbeats 1000000 in
theorem rb_cmp (op a b u A B r : Int) (s : ByteArray) (w : World)
    (BI : Hid (∀ w : World, Calls Try.prog 13 #[.int .i64 op] w fun e w' => e = .returned (.int .i64 u) ∧ w' = w))
    (CA : Hid (∀ w : World, Calls Try.prog 29 #[.int .u64 a, .int .i64 u] w fun e w' => e = .returned (.int .u64 A) ∧ w' = w))
    (CB : Hid (∀ w : World, Calls Try.prog 29 #[.int .u64 b, .int .i64 u] w fun e w' => e = .returned (.int .u64 B) ∧ w' = w))
    (NM : Hid (∀ w : World, Calls Try.prog 10 #[.int .i64 op] w fun e w' => e = .returned (.string s) ∧ w' = w))
    (TS : Hid (∀ w : World, Calls Try.prog 24 #[.int .i64 op] w fun e w' => e = .returned (.bool true) ∧ w' = w))
    (C : Hid (∀ w : World, Calls Try.prog 30 #[.string s, .int .u64 A, .int .u64 B, .int .i64 u] w fun e w' => e = .returned (.int .u64 r) ∧ w' = w))
    :
    Calls Try.prog 17 #[.int .i64 op, .int .u64 a, .int .u64 b] w fun e w' => e = .returned (.tuple #[.int .u64 r, .int .i64 0]) ∧ w' = w := by
  go_enter Try.func17, Try.ntmps17
  go_wp2_with fail
  refine (BI.out _).mono ?_
  rintro e w1 ⟨rfl, hw⟩
  obtain rfl := hw.symm
  clear hw
  go_wp2_with fail
  refine (CA.out _).mono ?_
  rintro e w1 ⟨rfl, hw⟩
  obtain rfl := hw.symm
  clear hw
  go_wp2_with fail
  refine (CB.out _).mono ?_
  rintro e w1 ⟨rfl, hw⟩
  obtain rfl := hw.symm
  clear hw
  go_wp2_with fail
  refine (NM.out _).mono ?_
  rintro e w1 ⟨rfl, hw⟩
  obtain rfl := hw.symm
  clear hw
  go_wp2_with fail
  refine (TS.out _).mono ?_
  rintro e w1 ⟨rfl, hw⟩
  obtain rfl := hw.symm
  clear hw
  go_wp2_with fail
  refine (C.out _).mono ?_
  rintro e w1 ⟨rfl, hw⟩
  obtain rfl := hw.symm
  clear hw
  go_wp2_with fail
  go_ret2
  exact ⟨rfl, rfl⟩
set_option maxRecDepth 100000 in
set_option maxHeartbeats 1000000 in
theorem rb_15 (op a b u A B r : Int) (s : ByteArray) (w : World) (q15 : (s.toList == [97, 100, 100]) = true)
    (BI : Hid (∀ w : World, Calls Try.prog 13 #[.int .i64 op] w fun e w' => e = .returned (.int .i64 u) ∧ w' = w))
    (CA : Hid (∀ w : World, Calls Try.prog 29 #[.int .u64 a, .int .i64 u] w fun e w' => e = .returned (.int .u64 A) ∧ w' = w))
    (CB : Hid (∀ w : World, Calls Try.prog 29 #[.int .u64 b, .int .i64 u] w fun e w' => e = .returned (.int .u64 B) ∧ w' = w))
    (NM : Hid (∀ w : World, Calls Try.prog 10 #[.int .i64 op] w fun e w' => e = .returned (.string s) ∧ w' = w))
    (TS : Hid (∀ w : World, Calls Try.prog 24 #[.int .i64 op] w fun e w' => e = .returned (.bool false) ∧ w' = w))
    (C : Hid (∀ w : World, Calls Try.prog 29 #[.int .u64 (IntKind.u64.wrap (A + B)), .int .i64 u] w fun e w' => e = .returned (.int .u64 r) ∧ w' = w))
    :
    Calls Try.prog 17 #[.int .i64 op, .int .u64 a, .int .u64 b] w fun e w' => e = .returned (.tuple #[.int .u64 r, .int .i64 0]) ∧ w' = w := by
  go_enter Try.func17, Try.ntmps17
  go_wp2_with fail
  refine (BI.out _).mono ?_
  rintro e w1 ⟨rfl, hw⟩
  obtain rfl := hw.symm
  clear hw
  go_wp2_with fail
  refine (CA.out _).mono ?_
  rintro e w1 ⟨rfl, hw⟩
  obtain rfl := hw.symm
  clear hw
  go_wp2_with fail
  refine (CB.out _).mono ?_
  rintro e w1 ⟨rfl, hw⟩
  obtain rfl := hw.symm
  clear hw
  go_wp2_with fail
  refine (NM.out _).mono ?_
  rintro e w1 ⟨rfl, hw⟩
  obtain rfl := hw.symm
  clear hw
  go_wp2_with fail
  refine (TS.out _).mono ?_
  rintro e w1 ⟨rfl, hw⟩
  obtain rfl := hw.symm
  clear hw
  go_wp2_with fail
  refine (C.out _).mono ?_
  rintro e w1 ⟨rfl, hw⟩
  obtain rfl := hw.symm
  clear hw
  go_wp2_with fail
  go_ret2
  exact ⟨rfl, rfl⟩
set_option maxRecDepth 100000 in
set_option maxHeartbeats 1000000 in
theorem rb_16 (op a b u A B r : Int) (s : ByteArray) (w : World) (q15 : (s.toList == [97, 100, 100]) = false) (q16 : (s.toList == [115, 117, 98]) = true)
    (BI : Hid (∀ w : World, Calls Try.prog 13 #[.int .i64 op] w fun e w' => e = .returned (.int .i64 u) ∧ w' = w))
    (CA : Hid (∀ w : World, Calls Try.prog 29 #[.int .u64 a, .int .i64 u] w fun e w' => e = .returned (.int .u64 A) ∧ w' = w))
    (CB : Hid (∀ w : World, Calls Try.prog 29 #[.int .u64 b, .int .i64 u] w fun e w' => e = .returned (.int .u64 B) ∧ w' = w))
    (NM : Hid (∀ w : World, Calls Try.prog 10 #[.int .i64 op] w fun e w' => e = .returned (.string s) ∧ w' = w))
    (TS : Hid (∀ w : World, Calls Try.prog 24 #[.int .i64 op] w fun e w' => e = .returned (.bool false) ∧ w' = w))
    (C : Hid (∀ w : World, Calls Try.prog 29 #[.int .u64 (IntKind.u64.wrap (A - B)), .int .i64 u] w fun e w' => e = .returned (.int .u64 r) ∧ w' = w))
    :
    Calls Try.prog 17 #[.int .i64 op, .int .u64 a, .int .u64 b] w fun e w' => e = .returned (.tuple #[.int .u64 r, .int .i64 0]) ∧ w' = w := by
  go_enter Try.func17, Try.ntmps17
  go_wp2_with fail
  refine (BI.out _).mono ?_
  rintro e w1 ⟨rfl, hw⟩
  obtain rfl := hw.symm
  clear hw
  go_wp2_with fail
  refine (CA.out _).mono ?_
  rintro e w1 ⟨rfl, hw⟩
  obtain rfl := hw.symm
  clear hw
  go_wp2_with fail
  refine (CB.out _).mono ?_
  rintro e w1 ⟨rfl, hw⟩
  obtain rfl := hw.symm
  clear hw
  go_wp2_with fail
  refine (NM.out _).mono ?_
  rintro e w1 ⟨rfl, hw⟩
  obtain rfl := hw.symm
  clear hw
  go_wp2_with fail
  refine (TS.out _).mono ?_
  rintro e w1 ⟨rfl, hw⟩
  obtain rfl := hw.symm
  clear hw
  go_wp2_with fail
  refine (C.out _).mono ?_
  rintro e w1 ⟨rfl, hw⟩
  obtain rfl := hw.symm
  clear hw
  go_wp2_with fail
  go_ret2
  exact ⟨rfl, rfl⟩
set_option maxRecDepth 100000 in
set_option maxHeartbeats 1000000 in
theorem rb_17 (op a b u A B r : Int) (s : ByteArray) (w : World) (q15 : (s.toList == [97, 100, 100]) = false) (q16 : (s.toList == [115, 117, 98]) = false) (q17 : (s.toList == [109, 117, 108]) = true)
    (BI : Hid (∀ w : World, Calls Try.prog 13 #[.int .i64 op] w fun e w' => e = .returned (.int .i64 u) ∧ w' = w))
    (CA : Hid (∀ w : World, Calls Try.prog 29 #[.int .u64 a, .int .i64 u] w fun e w' => e = .returned (.int .u64 A) ∧ w' = w))
    (CB : Hid (∀ w : World, Calls Try.prog 29 #[.int .u64 b, .int .i64 u] w fun e w' => e = .returned (.int .u64 B) ∧ w' = w))
    (NM : Hid (∀ w : World, Calls Try.prog 10 #[.int .i64 op] w fun e w' => e = .returned (.string s) ∧ w' = w))
    (TS : Hid (∀ w : World, Calls Try.prog 24 #[.int .i64 op] w fun e w' => e = .returned (.bool false) ∧ w' = w))
    (C : Hid (∀ w : World, Calls Try.prog 29 #[.int .u64 (IntKind.u64.wrap (A * B)), .int .i64 u] w fun e w' => e = .returned (.int .u64 r) ∧ w' = w))
    :
    Calls Try.prog 17 #[.int .i64 op, .int .u64 a, .int .u64 b] w fun e w' => e = .returned (.tuple #[.int .u64 r, .int .i64 0]) ∧ w' = w := by
  go_enter Try.func17, Try.ntmps17
  go_wp2_with fail
  refine (BI.out _).mono ?_
  rintro e w1 ⟨rfl, hw⟩
  obtain rfl := hw.symm
  clear hw
  go_wp2_with fail
  refine (CA.out _).mono ?_
  rintro e w1 ⟨rfl, hw⟩
  obtain rfl := hw.symm
  clear hw
  go_wp2_with fail
  refine (CB.out _).mono ?_
  rintro e w1 ⟨rfl, hw⟩
  obtain rfl := hw.symm
  clear hw
  go_wp2_with fail
  refine (NM.out _).mono ?_
  rintro e w1 ⟨rfl, hw⟩
  obtain rfl := hw.symm
  clear hw
  go_wp2_with fail
  refine (TS.out _).mono ?_
  rintro e w1 ⟨rfl, hw⟩
  obtain rfl := hw.symm
  clear hw
  go_wp2_with fail
  refine (C.out _).mono ?_
  rintro e w1 ⟨rfl, hw⟩
  obtain rfl := hw.symm
  clear hw
  go_wp2_with fail
  go_ret2
  exact ⟨rfl, rfl⟩
set_option maxRecDepth 100000 in
set_option maxHeartbeats 1000000 in
theorem rb_22 (op a b u A B : Int) (s : ByteArray) (w : World) (q15 : (s.toList == [97, 100, 100]) = false) (q16 : (s.toList == [115, 117, 98]) = false) (q17 : (s.toList == [109, 117, 108]) = false) (q22 : (s.toList == [97, 110, 100]) = true)
    (BI : Hid (∀ w : World, Calls Try.prog 13 #[.int .i64 op] w fun e w' => e = .returned (.int .i64 u) ∧ w' = w))
    (CA : Hid (∀ w : World, Calls Try.prog 29 #[.int .u64 a, .int .i64 u] w fun e w' => e = .returned (.int .u64 A) ∧ w' = w))
    (CB : Hid (∀ w : World, Calls Try.prog 29 #[.int .u64 b, .int .i64 u] w fun e w' => e = .returned (.int .u64 B) ∧ w' = w))
    (NM : Hid (∀ w : World, Calls Try.prog 10 #[.int .i64 op] w fun e w' => e = .returned (.string s) ∧ w' = w))
    (TS : Hid (∀ w : World, Calls Try.prog 24 #[.int .i64 op] w fun e w' => e = .returned (.bool false) ∧ w' = w))
    :
    Calls Try.prog 17 #[.int .i64 op, .int .u64 a, .int .u64 b] w fun e w' => e = .returned (.tuple #[.int .u64 (bits .and .u64 A B), .int .i64 0]) ∧ w' = w := by
  go_enter Try.func17, Try.ntmps17
  go_wp2_with fail
  refine (BI.out _).mono ?_
  rintro e w1 ⟨rfl, hw⟩
  obtain rfl := hw.symm
  clear hw
  go_wp2_with fail
  refine (CA.out _).mono ?_
  rintro e w1 ⟨rfl, hw⟩
  obtain rfl := hw.symm
  clear hw
  go_wp2_with fail
  refine (CB.out _).mono ?_
  rintro e w1 ⟨rfl, hw⟩
  obtain rfl := hw.symm
  clear hw
  go_wp2_with fail
  refine (NM.out _).mono ?_
  rintro e w1 ⟨rfl, hw⟩
  obtain rfl := hw.symm
  clear hw
  go_wp2_with fail
  refine (TS.out _).mono ?_
  rintro e w1 ⟨rfl, hw⟩
  obtain rfl := hw.symm
  clear hw
  go_wp2_with fail
  go_ret2
  exact ⟨rfl, rfl⟩
set_option maxRecDepth 100000 in
set_option maxHeartbeats 1000000 in
theorem rb_23 (op a b u A B : Int) (s : ByteArray) (w : World) (q15 : (s.toList == [97, 100, 100]) = false) (q16 : (s.toList == [115, 117, 98]) = false) (q17 : (s.toList == [109, 117, 108]) = false) (q22 : (s.toList == [97, 110, 100]) = false) (q23 : (s.toList == [111, 114]) = true)
    (BI : Hid (∀ w : World, Calls Try.prog 13 #[.int .i64 op] w fun e w' => e = .returned (.int .i64 u) ∧ w' = w))
    (CA : Hid (∀ w : World, Calls Try.prog 29 #[.int .u64 a, .int .i64 u] w fun e w' => e = .returned (.int .u64 A) ∧ w' = w))
    (CB : Hid (∀ w : World, Calls Try.prog 29 #[.int .u64 b, .int .i64 u] w fun e w' => e = .returned (.int .u64 B) ∧ w' = w))
    (NM : Hid (∀ w : World, Calls Try.prog 10 #[.int .i64 op] w fun e w' => e = .returned (.string s) ∧ w' = w))
    (TS : Hid (∀ w : World, Calls Try.prog 24 #[.int .i64 op] w fun e w' => e = .returned (.bool false) ∧ w' = w))
    :
    Calls Try.prog 17 #[.int .i64 op, .int .u64 a, .int .u64 b] w fun e w' => e = .returned (.tuple #[.int .u64 (bits .or .u64 A B), .int .i64 0]) ∧ w' = w := by
  go_enter Try.func17, Try.ntmps17
  go_wp2_with fail
  refine (BI.out _).mono ?_
  rintro e w1 ⟨rfl, hw⟩
  obtain rfl := hw.symm
  clear hw
  go_wp2_with fail
  refine (CA.out _).mono ?_
  rintro e w1 ⟨rfl, hw⟩
  obtain rfl := hw.symm
  clear hw
  go_wp2_with fail
  refine (CB.out _).mono ?_
  rintro e w1 ⟨rfl, hw⟩
  obtain rfl := hw.symm
  clear hw
  go_wp2_with fail
  refine (NM.out _).mono ?_
  rintro e w1 ⟨rfl, hw⟩
  obtain rfl := hw.symm
  clear hw
  go_wp2_with fail
  refine (TS.out _).mono ?_
  rintro e w1 ⟨rfl, hw⟩
  obtain rfl := hw.symm
  clear hw
  go_wp2_with fail
  go_ret2
  exact ⟨rfl, rfl⟩
set_option maxRecDepth 100000 in
set_option maxHeartbeats 1000000 in
theorem rb_24 (op a b u A B : Int) (s : ByteArray) (w : World) (q15 : (s.toList == [97, 100, 100]) = false) (q16 : (s.toList == [115, 117, 98]) = false) (q17 : (s.toList == [109, 117, 108]) = false) (q22 : (s.toList == [97, 110, 100]) = false) (q23 : (s.toList == [111, 114]) = false) (q24 : (s.toList == [120, 111, 114]) = true)
    (BI : Hid (∀ w : World, Calls Try.prog 13 #[.int .i64 op] w fun e w' => e = .returned (.int .i64 u) ∧ w' = w))
    (CA : Hid (∀ w : World, Calls Try.prog 29 #[.int .u64 a, .int .i64 u] w fun e w' => e = .returned (.int .u64 A) ∧ w' = w))
    (CB : Hid (∀ w : World, Calls Try.prog 29 #[.int .u64 b, .int .i64 u] w fun e w' => e = .returned (.int .u64 B) ∧ w' = w))
    (NM : Hid (∀ w : World, Calls Try.prog 10 #[.int .i64 op] w fun e w' => e = .returned (.string s) ∧ w' = w))
    (TS : Hid (∀ w : World, Calls Try.prog 24 #[.int .i64 op] w fun e w' => e = .returned (.bool false) ∧ w' = w))
    :
    Calls Try.prog 17 #[.int .i64 op, .int .u64 a, .int .u64 b] w fun e w' => e = .returned (.tuple #[.int .u64 (bits .xor .u64 A B), .int .i64 0]) ∧ w' = w := by
  go_enter Try.func17, Try.ntmps17
  go_wp2_with fail
  refine (BI.out _).mono ?_
  rintro e w1 ⟨rfl, hw⟩
  obtain rfl := hw.symm
  clear hw
  go_wp2_with fail
  refine (CA.out _).mono ?_
  rintro e w1 ⟨rfl, hw⟩
  obtain rfl := hw.symm
  clear hw
  go_wp2_with fail
  refine (CB.out _).mono ?_
  rintro e w1 ⟨rfl, hw⟩
  obtain rfl := hw.symm
  clear hw
  go_wp2_with fail
  refine (NM.out _).mono ?_
  rintro e w1 ⟨rfl, hw⟩
  obtain rfl := hw.symm
  clear hw
  go_wp2_with fail
  refine (TS.out _).mono ?_
  rintro e w1 ⟨rfl, hw⟩
  obtain rfl := hw.symm
  clear hw
  go_wp2_with fail
  go_ret2
  exact ⟨rfl, rfl⟩
set_option maxRecDepth 100000 in
set_option maxHeartbeats 1000000 in
theorem rb_18z (op a b u A B : Int) (s : ByteArray) (w : World) (q15 : (s.toList == [97, 100, 100]) = false) (q16 : (s.toList == [115, 117, 98]) = false) (q17 : (s.toList == [109, 117, 108]) = false) (q22 : (s.toList == [97, 110, 100]) = false) (q23 : (s.toList == [111, 114]) = false) (q24 : (s.toList == [120, 111, 114]) = false) (q18 : (s.toList == [100, 105, 118, 95, 115]) = true) (hb : (B == 0) = true)
    (BI : Hid (∀ w : World, Calls Try.prog 13 #[.int .i64 op] w fun e w' => e = .returned (.int .i64 u) ∧ w' = w))
    (CA : Hid (∀ w : World, Calls Try.prog 29 #[.int .u64 a, .int .i64 u] w fun e w' => e = .returned (.int .u64 A) ∧ w' = w))
    (CB : Hid (∀ w : World, Calls Try.prog 29 #[.int .u64 b, .int .i64 u] w fun e w' => e = .returned (.int .u64 B) ∧ w' = w))
    (NM : Hid (∀ w : World, Calls Try.prog 10 #[.int .i64 op] w fun e w' => e = .returned (.string s) ∧ w' = w))
    (TS : Hid (∀ w : World, Calls Try.prog 24 #[.int .i64 op] w fun e w' => e = .returned (.bool false) ∧ w' = w))
    :
    Calls Try.prog 17 #[.int .i64 op, .int .u64 a, .int .u64 b] w fun e w' => e = .returned (.tuple #[.int .u64 0, .int .i64 30]) ∧ w' = w := by
  go_enter Try.func17, Try.ntmps17
  go_wp2_with fail
  refine (BI.out _).mono ?_
  rintro e w1 ⟨rfl, hw⟩
  obtain rfl := hw.symm
  clear hw
  go_wp2_with fail
  refine (CA.out _).mono ?_
  rintro e w1 ⟨rfl, hw⟩
  obtain rfl := hw.symm
  clear hw
  go_wp2_with fail
  refine (CB.out _).mono ?_
  rintro e w1 ⟨rfl, hw⟩
  obtain rfl := hw.symm
  clear hw
  go_wp2_with fail
  refine (NM.out _).mono ?_
  rintro e w1 ⟨rfl, hw⟩
  obtain rfl := hw.symm
  clear hw
  go_wp2_with fail
  refine (TS.out _).mono ?_
  rintro e w1 ⟨rfl, hw⟩
  obtain rfl := hw.symm
  clear hw
  go_wp2_with fail
  go_ret2
  exact ⟨rfl, rfl⟩
set_option maxRecDepth 100000 in
set_option maxHeartbeats 1000000 in
theorem rb_18n (op a b u A B r q : Int) (s : ByteArray) (w : World) (q15 : (s.toList == [97, 100, 100]) = false) (q16 : (s.toList == [115, 117, 98]) = false) (q17 : (s.toList == [109, 117, 108]) = false) (q22 : (s.toList == [97, 110, 100]) = false) (q23 : (s.toList == [111, 114]) = false) (q24 : (s.toList == [120, 111, 114]) = false) (q18 : (s.toList == [100, 105, 118, 95, 115]) = true) (hb : (B == 0) = false)
    (BI : Hid (∀ w : World, Calls Try.prog 13 #[.int .i64 op] w fun e w' => e = .returned (.int .i64 u) ∧ w' = w))
    (CA : Hid (∀ w : World, Calls Try.prog 29 #[.int .u64 a, .int .i64 u] w fun e w' => e = .returned (.int .u64 A) ∧ w' = w))
    (CB : Hid (∀ w : World, Calls Try.prog 29 #[.int .u64 b, .int .i64 u] w fun e w' => e = .returned (.int .u64 B) ∧ w' = w))
    (NM : Hid (∀ w : World, Calls Try.prog 10 #[.int .i64 op] w fun e w' => e = .returned (.string s) ∧ w' = w))
    (TS : Hid (∀ w : World, Calls Try.prog 24 #[.int .i64 op] w fun e w' => e = .returned (.bool false) ∧ w' = w))
    (C : Hid (∀ w : World, Calls Try.prog 31 #[.string s, .int .u64 A, .int .u64 B, .int .i64 u] w fun e w' => e = .returned (.tuple #[.int .u64 r, .int .i64 q]) ∧ w' = w))
    :
    Calls Try.prog 17 #[.int .i64 op, .int .u64 a, .int .u64 b] w fun e w' => e = .returned (.tuple #[.int .u64 r, .int .i64 q]) ∧ w' = w := by
  go_enter Try.func17, Try.ntmps17
  go_wp2_with fail
  refine (BI.out _).mono ?_
  rintro e w1 ⟨rfl, hw⟩
  obtain rfl := hw.symm
  clear hw
  go_wp2_with fail
  refine (CA.out _).mono ?_
  rintro e w1 ⟨rfl, hw⟩
  obtain rfl := hw.symm
  clear hw
  go_wp2_with fail
  refine (CB.out _).mono ?_
  rintro e w1 ⟨rfl, hw⟩
  obtain rfl := hw.symm
  clear hw
  go_wp2_with fail
  refine (NM.out _).mono ?_
  rintro e w1 ⟨rfl, hw⟩
  obtain rfl := hw.symm
  clear hw
  go_wp2_with fail
  refine (TS.out _).mono ?_
  rintro e w1 ⟨rfl, hw⟩
  obtain rfl := hw.symm
  clear hw
  go_wp2_with fail
  refine (C.out _).mono ?_
  rintro e w1 ⟨rfl, hw⟩
  obtain rfl := hw.symm
  clear hw
  go_wp2_with fail
  go_ret2
  exact ⟨rfl, rfl⟩
set_option maxRecDepth 100000 in
set_option maxHeartbeats 1000000 in
theorem rb_19z (op a b u A B : Int) (s : ByteArray) (w : World) (q15 : (s.toList == [97, 100, 100]) = false) (q16 : (s.toList == [115, 117, 98]) = false) (q17 : (s.toList == [109, 117, 108]) = false) (q22 : (s.toList == [97, 110, 100]) = false) (q23 : (s.toList == [111, 114]) = false) (q24 : (s.toList == [120, 111, 114]) = false) (q18 : (s.toList == [100, 105, 118, 95, 115]) = false) (q19 : (s.toList == [100, 105, 118, 95, 117]) = true) (hb : (B == 0) = true)
    (BI : Hid (∀ w : World, Calls Try.prog 13 #[.int .i64 op] w fun e w' => e = .returned (.int .i64 u) ∧ w' = w))
    (CA : Hid (∀ w : World, Calls Try.prog 29 #[.int .u64 a, .int .i64 u] w fun e w' => e = .returned (.int .u64 A) ∧ w' = w))
    (CB : Hid (∀ w : World, Calls Try.prog 29 #[.int .u64 b, .int .i64 u] w fun e w' => e = .returned (.int .u64 B) ∧ w' = w))
    (NM : Hid (∀ w : World, Calls Try.prog 10 #[.int .i64 op] w fun e w' => e = .returned (.string s) ∧ w' = w))
    (TS : Hid (∀ w : World, Calls Try.prog 24 #[.int .i64 op] w fun e w' => e = .returned (.bool false) ∧ w' = w))
    :
    Calls Try.prog 17 #[.int .i64 op, .int .u64 a, .int .u64 b] w fun e w' => e = .returned (.tuple #[.int .u64 0, .int .i64 30]) ∧ w' = w := by
  go_enter Try.func17, Try.ntmps17
  go_wp2_with fail
  refine (BI.out _).mono ?_
  rintro e w1 ⟨rfl, hw⟩
  obtain rfl := hw.symm
  clear hw
  go_wp2_with fail
  refine (CA.out _).mono ?_
  rintro e w1 ⟨rfl, hw⟩
  obtain rfl := hw.symm
  clear hw
  go_wp2_with fail
  refine (CB.out _).mono ?_
  rintro e w1 ⟨rfl, hw⟩
  obtain rfl := hw.symm
  clear hw
  go_wp2_with fail
  refine (NM.out _).mono ?_
  rintro e w1 ⟨rfl, hw⟩
  obtain rfl := hw.symm
  clear hw
  go_wp2_with fail
  refine (TS.out _).mono ?_
  rintro e w1 ⟨rfl, hw⟩
  obtain rfl := hw.symm
  clear hw
  go_wp2_with fail
  go_ret2
  exact ⟨rfl, rfl⟩
set_option maxRecDepth 100000 in
set_option maxHeartbeats 1000000 in
theorem rb_19n (op a b u A B r q : Int) (s : ByteArray) (w : World) (q15 : (s.toList == [97, 100, 100]) = false) (q16 : (s.toList == [115, 117, 98]) = false) (q17 : (s.toList == [109, 117, 108]) = false) (q22 : (s.toList == [97, 110, 100]) = false) (q23 : (s.toList == [111, 114]) = false) (q24 : (s.toList == [120, 111, 114]) = false) (q18 : (s.toList == [100, 105, 118, 95, 115]) = false) (q19 : (s.toList == [100, 105, 118, 95, 117]) = true) (hb : (B == 0) = false)
    (BI : Hid (∀ w : World, Calls Try.prog 13 #[.int .i64 op] w fun e w' => e = .returned (.int .i64 u) ∧ w' = w))
    (CA : Hid (∀ w : World, Calls Try.prog 29 #[.int .u64 a, .int .i64 u] w fun e w' => e = .returned (.int .u64 A) ∧ w' = w))
    (CB : Hid (∀ w : World, Calls Try.prog 29 #[.int .u64 b, .int .i64 u] w fun e w' => e = .returned (.int .u64 B) ∧ w' = w))
    (NM : Hid (∀ w : World, Calls Try.prog 10 #[.int .i64 op] w fun e w' => e = .returned (.string s) ∧ w' = w))
    (TS : Hid (∀ w : World, Calls Try.prog 24 #[.int .i64 op] w fun e w' => e = .returned (.bool false) ∧ w' = w))
    (C : Hid (∀ w : World, Calls Try.prog 31 #[.string s, .int .u64 A, .int .u64 B, .int .i64 u] w fun e w' => e = .returned (.tuple #[.int .u64 r, .int .i64 q]) ∧ w' = w))
    :
    Calls Try.prog 17 #[.int .i64 op, .int .u64 a, .int .u64 b] w fun e w' => e = .returned (.tuple #[.int .u64 r, .int .i64 q]) ∧ w' = w := by
  go_enter Try.func17, Try.ntmps17
  go_wp2_with fail
  refine (BI.out _).mono ?_
  rintro e w1 ⟨rfl, hw⟩
  obtain rfl := hw.symm
  clear hw
  go_wp2_with fail
  refine (CA.out _).mono ?_
  rintro e w1 ⟨rfl, hw⟩
  obtain rfl := hw.symm
  clear hw
  go_wp2_with fail
  refine (CB.out _).mono ?_
  rintro e w1 ⟨rfl, hw⟩
  obtain rfl := hw.symm
  clear hw
  go_wp2_with fail
  refine (NM.out _).mono ?_
  rintro e w1 ⟨rfl, hw⟩
  obtain rfl := hw.symm
  clear hw
  go_wp2_with fail
  refine (TS.out _).mono ?_
  rintro e w1 ⟨rfl, hw⟩
  obtain rfl := hw.symm
  clear hw
  go_wp2_with fail
  refine (C.out _).mono ?_
  rintro e w1 ⟨rfl, hw⟩
  obtain rfl := hw.symm
  clear hw
  go_wp2_with fail
  go_ret2
  exact ⟨rfl, rfl⟩
set_option maxRecDepth 100000 in
set_option maxHeartbeats 1000000 in
theorem rb_20z (op a b u A B : Int) (s : ByteArray) (w : World) (q15 : (s.toList == [97, 100, 100]) = false) (q16 : (s.toList == [115, 117, 98]) = false) (q17 : (s.toList == [109, 117, 108]) = false) (q22 : (s.toList == [97, 110, 100]) = false) (q23 : (s.toList == [111, 114]) = false) (q24 : (s.toList == [120, 111, 114]) = false) (q18 : (s.toList == [100, 105, 118, 95, 115]) = false) (q19 : (s.toList == [100, 105, 118, 95, 117]) = false) (q20 : (s.toList == [114, 101, 109, 95, 115]) = true) (hb : (B == 0) = true)
    (BI : Hid (∀ w : World, Calls Try.prog 13 #[.int .i64 op] w fun e w' => e = .returned (.int .i64 u) ∧ w' = w))
    (CA : Hid (∀ w : World, Calls Try.prog 29 #[.int .u64 a, .int .i64 u] w fun e w' => e = .returned (.int .u64 A) ∧ w' = w))
    (CB : Hid (∀ w : World, Calls Try.prog 29 #[.int .u64 b, .int .i64 u] w fun e w' => e = .returned (.int .u64 B) ∧ w' = w))
    (NM : Hid (∀ w : World, Calls Try.prog 10 #[.int .i64 op] w fun e w' => e = .returned (.string s) ∧ w' = w))
    (TS : Hid (∀ w : World, Calls Try.prog 24 #[.int .i64 op] w fun e w' => e = .returned (.bool false) ∧ w' = w))
    :
    Calls Try.prog 17 #[.int .i64 op, .int .u64 a, .int .u64 b] w fun e w' => e = .returned (.tuple #[.int .u64 0, .int .i64 30]) ∧ w' = w := by
  go_enter Try.func17, Try.ntmps17
  go_wp2_with fail
  refine (BI.out _).mono ?_
  rintro e w1 ⟨rfl, hw⟩
  obtain rfl := hw.symm
  clear hw
  go_wp2_with fail
  refine (CA.out _).mono ?_
  rintro e w1 ⟨rfl, hw⟩
  obtain rfl := hw.symm
  clear hw
  go_wp2_with fail
  refine (CB.out _).mono ?_
  rintro e w1 ⟨rfl, hw⟩
  obtain rfl := hw.symm
  clear hw
  go_wp2_with fail
  refine (NM.out _).mono ?_
  rintro e w1 ⟨rfl, hw⟩
  obtain rfl := hw.symm
  clear hw
  go_wp2_with fail
  refine (TS.out _).mono ?_
  rintro e w1 ⟨rfl, hw⟩
  obtain rfl := hw.symm
  clear hw
  go_wp2_with fail
  go_ret2
  exact ⟨rfl, rfl⟩
set_option maxRecDepth 100000 in
set_option maxHeartbeats 1000000 in
theorem rb_20n (op a b u A B r q : Int) (s : ByteArray) (w : World) (q15 : (s.toList == [97, 100, 100]) = false) (q16 : (s.toList == [115, 117, 98]) = false) (q17 : (s.toList == [109, 117, 108]) = false) (q22 : (s.toList == [97, 110, 100]) = false) (q23 : (s.toList == [111, 114]) = false) (q24 : (s.toList == [120, 111, 114]) = false) (q18 : (s.toList == [100, 105, 118, 95, 115]) = false) (q19 : (s.toList == [100, 105, 118, 95, 117]) = false) (q20 : (s.toList == [114, 101, 109, 95, 115]) = true) (hb : (B == 0) = false)
    (BI : Hid (∀ w : World, Calls Try.prog 13 #[.int .i64 op] w fun e w' => e = .returned (.int .i64 u) ∧ w' = w))
    (CA : Hid (∀ w : World, Calls Try.prog 29 #[.int .u64 a, .int .i64 u] w fun e w' => e = .returned (.int .u64 A) ∧ w' = w))
    (CB : Hid (∀ w : World, Calls Try.prog 29 #[.int .u64 b, .int .i64 u] w fun e w' => e = .returned (.int .u64 B) ∧ w' = w))
    (NM : Hid (∀ w : World, Calls Try.prog 10 #[.int .i64 op] w fun e w' => e = .returned (.string s) ∧ w' = w))
    (TS : Hid (∀ w : World, Calls Try.prog 24 #[.int .i64 op] w fun e w' => e = .returned (.bool false) ∧ w' = w))
    (C : Hid (∀ w : World, Calls Try.prog 31 #[.string s, .int .u64 A, .int .u64 B, .int .i64 u] w fun e w' => e = .returned (.tuple #[.int .u64 r, .int .i64 q]) ∧ w' = w))
    :
    Calls Try.prog 17 #[.int .i64 op, .int .u64 a, .int .u64 b] w fun e w' => e = .returned (.tuple #[.int .u64 r, .int .i64 q]) ∧ w' = w := by
  go_enter Try.func17, Try.ntmps17
  go_wp2_with fail
  refine (BI.out _).mono ?_
  rintro e w1 ⟨rfl, hw⟩
  obtain rfl := hw.symm
  clear hw
  go_wp2_with fail
  refine (CA.out _).mono ?_
  rintro e w1 ⟨rfl, hw⟩
  obtain rfl := hw.symm
  clear hw
  go_wp2_with fail
  refine (CB.out _).mono ?_
  rintro e w1 ⟨rfl, hw⟩
  obtain rfl := hw.symm
  clear hw
  go_wp2_with fail
  refine (NM.out _).mono ?_
  rintro e w1 ⟨rfl, hw⟩
  obtain rfl := hw.symm
  clear hw
  go_wp2_with fail
  refine (TS.out _).mono ?_
  rintro e w1 ⟨rfl, hw⟩
  obtain rfl := hw.symm
  clear hw
  go_wp2_with fail
  refine (C.out _).mono ?_
  rintro e w1 ⟨rfl, hw⟩
  obtain rfl := hw.symm
  clear hw
  go_wp2_with fail
  go_ret2
  exact ⟨rfl, rfl⟩
set_option maxRecDepth 100000 in
set_option maxHeartbeats 1000000 in
theorem rb_21z (op a b u A B : Int) (s : ByteArray) (w : World) (q15 : (s.toList == [97, 100, 100]) = false) (q16 : (s.toList == [115, 117, 98]) = false) (q17 : (s.toList == [109, 117, 108]) = false) (q22 : (s.toList == [97, 110, 100]) = false) (q23 : (s.toList == [111, 114]) = false) (q24 : (s.toList == [120, 111, 114]) = false) (q18 : (s.toList == [100, 105, 118, 95, 115]) = false) (q19 : (s.toList == [100, 105, 118, 95, 117]) = false) (q20 : (s.toList == [114, 101, 109, 95, 115]) = false) (q21 : (s.toList == [114, 101, 109, 95, 117]) = true) (hb : (B == 0) = true)
    (BI : Hid (∀ w : World, Calls Try.prog 13 #[.int .i64 op] w fun e w' => e = .returned (.int .i64 u) ∧ w' = w))
    (CA : Hid (∀ w : World, Calls Try.prog 29 #[.int .u64 a, .int .i64 u] w fun e w' => e = .returned (.int .u64 A) ∧ w' = w))
    (CB : Hid (∀ w : World, Calls Try.prog 29 #[.int .u64 b, .int .i64 u] w fun e w' => e = .returned (.int .u64 B) ∧ w' = w))
    (NM : Hid (∀ w : World, Calls Try.prog 10 #[.int .i64 op] w fun e w' => e = .returned (.string s) ∧ w' = w))
    (TS : Hid (∀ w : World, Calls Try.prog 24 #[.int .i64 op] w fun e w' => e = .returned (.bool false) ∧ w' = w))
    :
    Calls Try.prog 17 #[.int .i64 op, .int .u64 a, .int .u64 b] w fun e w' => e = .returned (.tuple #[.int .u64 0, .int .i64 30]) ∧ w' = w := by
  go_enter Try.func17, Try.ntmps17
  go_wp2_with fail
  refine (BI.out _).mono ?_
  rintro e w1 ⟨rfl, hw⟩
  obtain rfl := hw.symm
  clear hw
  go_wp2_with fail
  refine (CA.out _).mono ?_
  rintro e w1 ⟨rfl, hw⟩
  obtain rfl := hw.symm
  clear hw
  go_wp2_with fail
  refine (CB.out _).mono ?_
  rintro e w1 ⟨rfl, hw⟩
  obtain rfl := hw.symm
  clear hw
  go_wp2_with fail
  refine (NM.out _).mono ?_
  rintro e w1 ⟨rfl, hw⟩
  obtain rfl := hw.symm
  clear hw
  go_wp2_with fail
  refine (TS.out _).mono ?_
  rintro e w1 ⟨rfl, hw⟩
  obtain rfl := hw.symm
  clear hw
  go_wp2_with fail
  go_ret2
  exact ⟨rfl, rfl⟩
set_option maxRecDepth 100000 in
set_option maxHeartbeats 1000000 in
theorem rb_21n (op a b u A B r q : Int) (s : ByteArray) (w : World) (q15 : (s.toList == [97, 100, 100]) = false) (q16 : (s.toList == [115, 117, 98]) = false) (q17 : (s.toList == [109, 117, 108]) = false) (q22 : (s.toList == [97, 110, 100]) = false) (q23 : (s.toList == [111, 114]) = false) (q24 : (s.toList == [120, 111, 114]) = false) (q18 : (s.toList == [100, 105, 118, 95, 115]) = false) (q19 : (s.toList == [100, 105, 118, 95, 117]) = false) (q20 : (s.toList == [114, 101, 109, 95, 115]) = false) (q21 : (s.toList == [114, 101, 109, 95, 117]) = true) (hb : (B == 0) = false)
    (BI : Hid (∀ w : World, Calls Try.prog 13 #[.int .i64 op] w fun e w' => e = .returned (.int .i64 u) ∧ w' = w))
    (CA : Hid (∀ w : World, Calls Try.prog 29 #[.int .u64 a, .int .i64 u] w fun e w' => e = .returned (.int .u64 A) ∧ w' = w))
    (CB : Hid (∀ w : World, Calls Try.prog 29 #[.int .u64 b, .int .i64 u] w fun e w' => e = .returned (.int .u64 B) ∧ w' = w))
    (NM : Hid (∀ w : World, Calls Try.prog 10 #[.int .i64 op] w fun e w' => e = .returned (.string s) ∧ w' = w))
    (TS : Hid (∀ w : World, Calls Try.prog 24 #[.int .i64 op] w fun e w' => e = .returned (.bool false) ∧ w' = w))
    (C : Hid (∀ w : World, Calls Try.prog 31 #[.string s, .int .u64 A, .int .u64 B, .int .i64 u] w fun e w' => e = .returned (.tuple #[.int .u64 r, .int .i64 q]) ∧ w' = w))
    :
    Calls Try.prog 17 #[.int .i64 op, .int .u64 a, .int .u64 b] w fun e w' => e = .returned (.tuple #[.int .u64 r, .int .i64 q]) ∧ w' = w := by
  go_enter Try.func17, Try.ntmps17
  go_wp2_with fail
  refine (BI.out _).mono ?_
  rintro e w1 ⟨rfl, hw⟩
  obtain rfl := hw.symm
  clear hw
  go_wp2_with fail
  refine (CA.out _).mono ?_
  rintro e w1 ⟨rfl, hw⟩
  obtain rfl := hw.symm
  clear hw
  go_wp2_with fail
  refine (CB.out _).mono ?_
  rintro e w1 ⟨rfl, hw⟩
  obtain rfl := hw.symm
  clear hw
  go_wp2_with fail
  refine (NM.out _).mono ?_
  rintro e w1 ⟨rfl, hw⟩
  obtain rfl := hw.symm
  clear hw
  go_wp2_with fail
  refine (TS.out _).mono ?_
  rintro e w1 ⟨rfl, hw⟩
  obtain rfl := hw.symm
  clear hw
  go_wp2_with fail
  refine (C.out _).mono ?_
  rintro e w1 ⟨rfl, hw⟩
  obtain rfl := hw.symm
  clear hw
  go_wp2_with fail
  go_ret2
  exact ⟨rfl, rfl⟩
set_option maxRecDepth 100000 in
set_option maxHeartbeats 1000000 in
theorem rb_sh32 (op a b A B r : Int) (s : ByteArray) (w : World) (q15 : (s.toList == [97, 100, 100]) = false) (q16 : (s.toList == [115, 117, 98]) = false) (q17 : (s.toList == [109, 117, 108]) = false) (q22 : (s.toList == [97, 110, 100]) = false) (q23 : (s.toList == [111, 114]) = false) (q24 : (s.toList == [120, 111, 114]) = false) (q18 : (s.toList == [100, 105, 118, 95, 115]) = false) (q19 : (s.toList == [100, 105, 118, 95, 117]) = false) (q20 : (s.toList == [114, 101, 109, 95, 115]) = false) (q21 : (s.toList == [114, 101, 109, 95, 117]) = false) (hB : 0 ≤ B) (hB1 : B < 18446744073709551616)
    (BI : Hid (∀ w : World, Calls Try.prog 13 #[.int .i64 op] w fun e w' => e = .returned (.int .i64 32) ∧ w' = w))
    (CA : Hid (∀ w : World, Calls Try.prog 29 #[.int .u64 a, .int .i64 32] w fun e w' => e = .returned (.int .u64 A) ∧ w' = w))
    (CB : Hid (∀ w : World, Calls Try.prog 29 #[.int .u64 b, .int .i64 32] w fun e w' => e = .returned (.int .u64 B) ∧ w' = w))
    (NM : Hid (∀ w : World, Calls Try.prog 10 #[.int .i64 op] w fun e w' => e = .returned (.string s) ∧ w' = w))
    (TS : Hid (∀ w : World, Calls Try.prog 24 #[.int .i64 op] w fun e w' => e = .returned (.bool false) ∧ w' = w))
    (C : Hid (∀ w : World, Calls Try.prog 32 #[.string s, .int .u64 A, .int .i64 (B % 32), .int .i64 32] w fun e w' => e = .returned (.int .u64 r) ∧ w' = w))
    :
    Calls Try.prog 17 #[.int .i64 op, .int .u64 a, .int .u64 b] w fun e w' => e = .returned (.tuple #[.int .u64 r, .int .i64 0]) ∧ w' = w := by
  go_enter Try.func17, Try.ntmps17
  go_wp2_with fail
  refine (BI.out _).mono ?_
  rintro e w1 ⟨rfl, hw⟩
  obtain rfl := hw.symm
  clear hw
  go_wp2_with fail
  refine (CA.out _).mono ?_
  rintro e w1 ⟨rfl, hw⟩
  obtain rfl := hw.symm
  clear hw
  go_wp2_with fail
  refine (CB.out _).mono ?_
  rintro e w1 ⟨rfl, hw⟩
  obtain rfl := hw.symm
  clear hw
  go_wp2_with fail
  refine (NM.out _).mono ?_
  rintro e w1 ⟨rfl, hw⟩
  obtain rfl := hw.symm
  clear hw
  go_wp2_with fail
  refine (TS.out _).mono ?_
  rintro e w1 ⟨rfl, hw⟩
  obtain rfl := hw.symm
  clear hw
  go_wp2_with fail
  refine (C.out _).mono ?_
  rintro e w1 ⟨rfl, hw⟩
  obtain rfl := hw.symm
  clear hw
  go_wp2_with fail
  go_ret2
  exact ⟨rfl, rfl⟩
set_option maxRecDepth 100000 in
set_option maxHeartbeats 1000000 in
theorem rb_sh64 (op a b A B r : Int) (s : ByteArray) (w : World) (q15 : (s.toList == [97, 100, 100]) = false) (q16 : (s.toList == [115, 117, 98]) = false) (q17 : (s.toList == [109, 117, 108]) = false) (q22 : (s.toList == [97, 110, 100]) = false) (q23 : (s.toList == [111, 114]) = false) (q24 : (s.toList == [120, 111, 114]) = false) (q18 : (s.toList == [100, 105, 118, 95, 115]) = false) (q19 : (s.toList == [100, 105, 118, 95, 117]) = false) (q20 : (s.toList == [114, 101, 109, 95, 115]) = false) (q21 : (s.toList == [114, 101, 109, 95, 117]) = false) (hB : 0 ≤ B) (hB1 : B < 18446744073709551616)
    (BI : Hid (∀ w : World, Calls Try.prog 13 #[.int .i64 op] w fun e w' => e = .returned (.int .i64 64) ∧ w' = w))
    (CA : Hid (∀ w : World, Calls Try.prog 29 #[.int .u64 a, .int .i64 64] w fun e w' => e = .returned (.int .u64 A) ∧ w' = w))
    (CB : Hid (∀ w : World, Calls Try.prog 29 #[.int .u64 b, .int .i64 64] w fun e w' => e = .returned (.int .u64 B) ∧ w' = w))
    (NM : Hid (∀ w : World, Calls Try.prog 10 #[.int .i64 op] w fun e w' => e = .returned (.string s) ∧ w' = w))
    (TS : Hid (∀ w : World, Calls Try.prog 24 #[.int .i64 op] w fun e w' => e = .returned (.bool false) ∧ w' = w))
    (C : Hid (∀ w : World, Calls Try.prog 32 #[.string s, .int .u64 A, .int .i64 (B % 64), .int .i64 64] w fun e w' => e = .returned (.int .u64 r) ∧ w' = w))
    :
    Calls Try.prog 17 #[.int .i64 op, .int .u64 a, .int .u64 b] w fun e w' => e = .returned (.tuple #[.int .u64 r, .int .i64 0]) ∧ w' = w := by
  go_enter Try.func17, Try.ntmps17
  go_wp2_with fail
  refine (BI.out _).mono ?_
  rintro e w1 ⟨rfl, hw⟩
  obtain rfl := hw.symm
  clear hw
  go_wp2_with fail
  refine (CA.out _).mono ?_
  rintro e w1 ⟨rfl, hw⟩
  obtain rfl := hw.symm
  clear hw
  go_wp2_with fail
  refine (CB.out _).mono ?_
  rintro e w1 ⟨rfl, hw⟩
  obtain rfl := hw.symm
  clear hw
  go_wp2_with fail
  refine (NM.out _).mono ?_
  rintro e w1 ⟨rfl, hw⟩
  obtain rfl := hw.symm
  clear hw
  go_wp2_with fail
  refine (TS.out _).mono ?_
  rintro e w1 ⟨rfl, hw⟩
  obtain rfl := hw.symm
  clear hw
  go_wp2_with fail
  refine (C.out _).mono ?_
  rintro e w1 ⟨rfl, hw⟩
  obtain rfl := hw.symm
  clear hw
  go_wp2_with fail
  go_ret2
  exact ⟨rfl, rfl⟩
end Go.Proofs.Ytolllelejdnjlaa
