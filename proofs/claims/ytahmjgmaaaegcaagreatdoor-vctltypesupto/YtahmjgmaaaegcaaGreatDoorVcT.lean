/-
  The opcodes that the document's Step takes; no statement is proved here.
-/
import Derived.Test.YtahmjgmaaaegcaaGreatDoorVcM
namespace Go.Proofs.YtahmjgmaaaegcaaGreatDoor
open Go.RowKit
set_option linter.unusedVariables false
set_option linter.unusedSimpArgs false

set_option maxRecDepth 100000 in
theorem takes_0 (w : World) : Calls Tryz.prog 18 #[.int .i64 0] w fun en w' => en = .returned (.bool true) ∧ w' = w := by
  go_enter Tryz.func18, Tryz.ntmps18
  go_wp2_with fail
  go_ret
  exact ⟨rfl, rfl⟩
set_option maxRecDepth 100000 in
theorem takes_1 (w : World) : Calls Tryz.prog 18 #[.int .i64 1] w fun en w' => en = .returned (.bool true) ∧ w' = w := by
  go_enter Tryz.func18, Tryz.ntmps18
  go_wp2_with fail
  go_ret
  exact ⟨rfl, rfl⟩
set_option maxRecDepth 100000 in
theorem takes_8 (w : World) : Calls Tryz.prog 18 #[.int .i64 8] w fun en w' => en = .returned (.bool true) ∧ w' = w := by
  go_enter Tryz.func18, Tryz.ntmps18
  go_wp2_with fail
  go_ret
  exact ⟨rfl, rfl⟩
set_option maxRecDepth 100000 in
theorem takes_10 (w : World) : Calls Tryz.prog 18 #[.int .i64 10] w fun en w' => en = .returned (.bool true) ∧ w' = w := by
  go_enter Tryz.func18, Tryz.ntmps18
  go_wp2_with fail
  go_ret
  exact ⟨rfl, rfl⟩
set_option maxRecDepth 100000 in
theorem takes_12 (w : World) : Calls Tryz.prog 18 #[.int .i64 12] w fun en w' => en = .returned (.bool true) ∧ w' = w := by
  go_enter Tryz.func18, Tryz.ntmps18
  go_wp2_with fail
  go_ret
  exact ⟨rfl, rfl⟩
set_option maxRecDepth 100000 in
theorem takes_13 (w : World) : Calls Tryz.prog 18 #[.int .i64 13] w fun en w' => en = .returned (.bool true) ∧ w' = w := by
  go_enter Tryz.func18, Tryz.ntmps18
  go_wp2_with fail
  go_ret
  exact ⟨rfl, rfl⟩
set_option maxRecDepth 100000 in
theorem takes_14 (w : World) : Calls Tryz.prog 18 #[.int .i64 14] w fun en w' => en = .returned (.bool true) ∧ w' = w := by
  go_enter Tryz.func18, Tryz.ntmps18
  go_wp2_with fail
  go_ret
  exact ⟨rfl, rfl⟩
set_option maxRecDepth 100000 in
theorem takes_15 (w : World) : Calls Tryz.prog 18 #[.int .i64 15] w fun en w' => en = .returned (.bool true) ∧ w' = w := by
  go_enter Tryz.func18, Tryz.ntmps18
  go_wp2_with fail
  go_ret
  exact ⟨rfl, rfl⟩
set_option maxRecDepth 100000 in
theorem takes_16 (w : World) : Calls Tryz.prog 18 #[.int .i64 16] w fun en w' => en = .returned (.bool true) ∧ w' = w := by
  go_enter Tryz.func18, Tryz.ntmps18
  go_wp2_with fail
  go_ret
  exact ⟨rfl, rfl⟩
set_option maxRecDepth 100000 in
theorem takes_17 (w : World) : Calls Tryz.prog 18 #[.int .i64 17] w fun en w' => en = .returned (.bool true) ∧ w' = w := by
  go_enter Tryz.func18, Tryz.ntmps18
  go_wp2_with fail
  go_ret
  exact ⟨rfl, rfl⟩
set_option maxRecDepth 100000 in
theorem takes_18 (w : World) : Calls Tryz.prog 18 #[.int .i64 18] w fun en w' => en = .returned (.bool true) ∧ w' = w := by
  go_enter Tryz.func18, Tryz.ntmps18
  go_wp2_with fail
  go_ret
  exact ⟨rfl, rfl⟩
set_option maxRecDepth 100000 in
theorem takes_19 (w : World) : Calls Tryz.prog 18 #[.int .i64 19] w fun en w' => en = .returned (.bool true) ∧ w' = w := by
  go_enter Tryz.func18, Tryz.ntmps18
  go_wp2_with fail
  go_ret
  exact ⟨rfl, rfl⟩
set_option maxRecDepth 100000 in
theorem takes_20 (w : World) : Calls Tryz.prog 18 #[.int .i64 20] w fun en w' => en = .returned (.bool true) ∧ w' = w := by
  go_enter Tryz.func18, Tryz.ntmps18
  go_wp2_with fail
  go_ret
  exact ⟨rfl, rfl⟩
set_option maxRecDepth 100000 in
theorem takes_21 (w : World) : Calls Tryz.prog 18 #[.int .i64 21] w fun en w' => en = .returned (.bool true) ∧ w' = w := by
  go_enter Tryz.func18, Tryz.ntmps18
  go_wp2_with fail
  go_ret
  exact ⟨rfl, rfl⟩
set_option maxRecDepth 100000 in
theorem takes_213 (w : World) : Calls Tryz.prog 18 #[.int .i64 213] w fun en w' => en = .returned (.bool true) ∧ w' = w := by
  go_enter Tryz.func18, Tryz.ntmps18
  go_wp2_with fail
  go_ret
  exact ⟨rfl, rfl⟩
set_option maxRecDepth 100000 in
theorem takes_214 (w : World) : Calls Tryz.prog 18 #[.int .i64 214] w fun en w' => en = .returned (.bool true) ∧ w' = w := by
  go_enter Tryz.func18, Tryz.ntmps18
  go_wp2_with fail
  go_ret
  exact ⟨rfl, rfl⟩
set_option maxRecDepth 100000 in
set_option maxHeartbeats 1000000 in
theorem takes_no (op : Int) (h0 : op ≠ 0) (h1 : op ≠ 1) (h8 : op ≠ 8) (h10 : op ≠ 10) (h12 : op ≠ 12) (h13 : op ≠ 13) (h14 : op ≠ 14) (h15 : op ≠ 15) (h16 : op ≠ 16) (h17 : op ≠ 17) (h18 : op ≠ 18) (h19 : op ≠ 19) (h20 : op ≠ 20) (h21 : op ≠ 21) (h213 : op ≠ 213) (h214 : op ≠ 214) (w : World) : Calls Tryz.prog 18 #[.int .i64 op] w fun en w' => en = .returned (.bool false) ∧ w' = w := by
  have d0 : (op == 0) = false := by simpa using h0
  have d1 : (op == 1) = false := by simpa using h1
  have d8 : (op == 8) = false := by simpa using h8
  have d10 : (op == 10) = false := by simpa using h10
  have d12 : (op == 12) = false := by simpa using h12
  have d13 : (op == 13) = false := by simpa using h13
  have d14 : (op == 14) = false := by simpa using h14
  have d15 : (op == 15) = false := by simpa using h15
  have d16 : (op == 16) = false := by simpa using h16
  have d17 : (op == 17) = false := by simpa using h17
  have d18 : (op == 18) = false := by simpa using h18
  have d19 : (op == 19) = false := by simpa using h19
  have d20 : (op == 20) = false := by simpa using h20
  have d21 : (op == 21) = false := by simpa using h21
  have d213 : (op == 213) = false := by simpa using h213
  have d214 : (op == 214) = false := by simpa using h214
  clear h0 h1 h8 h10 h12 h13 h14 h15 h16 h17 h18 h19 h20 h21 h213 h214
  go_enter Tryz.func18, Tryz.ntmps18
  go_wp2_with fail
  go_ret
  exact ⟨rfl, rfl⟩
theorem takesC_any (op : Int) (w : World) : Calls Tryz.prog 18 #[.int .i64 op] w fun en w' => en = .returned (.bool (inCL op)) ∧ Grew w w' := by
  by_cases h0 : op = 0
  · subst h0
    exact (takes_0 w).mono fun en w' ⟨e, e'⟩ => ⟨e, by rw [e']; exact Grew.refl _⟩
  by_cases h1 : op = 1
  · subst h1
    exact (takes_1 w).mono fun en w' ⟨e, e'⟩ => ⟨e, by rw [e']; exact Grew.refl _⟩
  by_cases h8 : op = 8
  · subst h8
    exact (takes_8 w).mono fun en w' ⟨e, e'⟩ => ⟨e, by rw [e']; exact Grew.refl _⟩
  by_cases h10 : op = 10
  · subst h10
    exact (takes_10 w).mono fun en w' ⟨e, e'⟩ => ⟨e, by rw [e']; exact Grew.refl _⟩
  by_cases h12 : op = 12
  · subst h12
    exact (takes_12 w).mono fun en w' ⟨e, e'⟩ => ⟨e, by rw [e']; exact Grew.refl _⟩
  by_cases h13 : op = 13
  · subst h13
    exact (takes_13 w).mono fun en w' ⟨e, e'⟩ => ⟨e, by rw [e']; exact Grew.refl _⟩
  by_cases h14 : op = 14
  · subst h14
    exact (takes_14 w).mono fun en w' ⟨e, e'⟩ => ⟨e, by rw [e']; exact Grew.refl _⟩
  by_cases h15 : op = 15
  · subst h15
    exact (takes_15 w).mono fun en w' ⟨e, e'⟩ => ⟨e, by rw [e']; exact Grew.refl _⟩
  by_cases h16 : op = 16
  · subst h16
    exact (takes_16 w).mono fun en w' ⟨e, e'⟩ => ⟨e, by rw [e']; exact Grew.refl _⟩
  by_cases h17 : op = 17
  · subst h17
    exact (takes_17 w).mono fun en w' ⟨e, e'⟩ => ⟨e, by rw [e']; exact Grew.refl _⟩
  by_cases h18 : op = 18
  · subst h18
    exact (takes_18 w).mono fun en w' ⟨e, e'⟩ => ⟨e, by rw [e']; exact Grew.refl _⟩
  by_cases h19 : op = 19
  · subst h19
    exact (takes_19 w).mono fun en w' ⟨e, e'⟩ => ⟨e, by rw [e']; exact Grew.refl _⟩
  by_cases h20 : op = 20
  · subst h20
    exact (takes_20 w).mono fun en w' ⟨e, e'⟩ => ⟨e, by rw [e']; exact Grew.refl _⟩
  by_cases h21 : op = 21
  · subst h21
    exact (takes_21 w).mono fun en w' ⟨e, e'⟩ => ⟨e, by rw [e']; exact Grew.refl _⟩
  by_cases h213 : op = 213
  · subst h213
    exact (takes_213 w).mono fun en w' ⟨e, e'⟩ => ⟨e, by rw [e']; exact Grew.refl _⟩
  by_cases h214 : op = 214
  · subst h214
    exact (takes_214 w).mono fun en w' ⟨e, e'⟩ => ⟨e, by rw [e']; exact Grew.refl _⟩
  have e : inCL op = false := by
    unfold inCL CL
    simp only [List.any_cons, List.any_nil, Bool.or_false, Bool.or_eq_false_iff, decide_eq_false_iff_not]
    exact ⟨fun e => h0 e.symm, fun e => h1 e.symm, fun e => h8 e.symm, fun e => h10 e.symm, fun e => h12 e.symm, fun e => h13 e.symm, fun e => h14 e.symm, fun e => h15 e.symm, fun e => h16 e.symm, fun e => h17 e.symm, fun e => h18 e.symm, fun e => h19 e.symm, fun e => h20 e.symm, fun e => h21 e.symm, fun e => h213 e.symm, fun e => h214 e.symm⟩
  rw [e]
  exact (takes_no op h0 h1 h8 h10 h12 h13 h14 h15 h16 h17 h18 h19 h20 h21 h213 h214 w).mono fun en w' ⟨e, e'⟩ => ⟨e, by rw [e']; exact Grew.refl _⟩
end Go.Proofs.YtahmjgmaaaegcaaGreatDoor
