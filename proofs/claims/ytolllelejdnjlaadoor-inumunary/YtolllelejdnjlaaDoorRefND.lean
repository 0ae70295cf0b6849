/-
  The walks of the document's Name, Arity, Bits, Test, Answers; no statement is proved here.
-/
import Derived.Test.YtolllelejdnjlaaDoorRefW
namespace Go.Proofs.YtolllelejdnjlaaDoor
open Go.RowKit
set_option linter.unusedVariables false
set_option linter.unusedSimpArgs false

/- The kind, case by case. -/
theorem kt_0 {op : Int} (c0 : 80 ≤ op ∧ op ≤ 90) : kd op = op - 79 ∧ tk op = 2 ∧ gv op = 1 := by
  refine ⟨by unfold kd; repeat (first | rw [if_pos c0] | rw [if_neg (by omega)]), by unfold tk; rw [if_pos (by omega)], by unfold gv; rw [if_neg (by omega)]⟩
theorem kt_1 {op : Int} (c1 : 69 ≤ op ∧ op ≤ 79) : kd op = op - 68 ∧ tk op = 1 ∧ gv op = 1 := by
  refine ⟨by unfold kd; repeat (first | rw [if_pos c1] | rw [if_neg (by omega)]), by unfold tk; rw [if_neg (by omega)], by unfold gv; rw [if_neg (by omega)]⟩
theorem kt_2 {op : Int} (c2 : 121 ≤ op ∧ op ≤ 138) : kd op = op - 109 ∧ tk op = 2 ∧ gv op = 2 := by
  refine ⟨by unfold kd; repeat (first | rw [if_pos c2] | rw [if_neg (by omega)]), by unfold tk; rw [if_pos (by omega)], by unfold gv; rw [if_pos (by omega)]⟩
theorem kt_3 {op : Int} (c3 : 103 ≤ op ∧ op ≤ 120) : kd op = op - 91 ∧ tk op = 1 ∧ gv op = 1 := by
  refine ⟨by unfold kd; repeat (first | rw [if_pos c3] | rw [if_neg (by omega)]), by unfold tk; rw [if_neg (by omega)], by unfold gv; rw [if_neg (by omega)]⟩
theorem kt_4 {op : Int} (c4 : 194 ≤ op ∧ op ≤ 196) : kd op = op - 164 ∧ tk op = 2 ∧ gv op = 2 := by
  refine ⟨by unfold kd; repeat (first | rw [if_pos c4] | rw [if_neg (by omega)]), by unfold tk; rw [if_pos (by omega)], by unfold gv; rw [if_pos (by omega)]⟩
theorem kt_5 {op : Int} (c5 : 192 ≤ op ∧ op ≤ 193) : kd op = op - 162 ∧ tk op = 1 ∧ gv op = 1 := by
  refine ⟨by unfold kd; repeat (first | rw [if_pos c5] | rw [if_neg (by omega)]), by unfold tk; rw [if_neg (by omega)], by unfold gv; rw [if_neg (by omega)]⟩
theorem kt_6 {op : Int} (c6 : op = 167) : kd op = 33 ∧ tk op = 2 ∧ gv op = 1 := by
  refine ⟨by unfold kd; repeat (first | rw [if_pos c6] | rw [if_neg (by omega)]), by unfold tk; rw [if_pos (by omega)], by unfold gv; rw [if_neg (by omega)]⟩
theorem kt_7 {op : Int} (c7 : 172 ≤ op ∧ op ≤ 173) : kd op = op - 138 ∧ tk op = 1 ∧ gv op = 2 := by
  refine ⟨by unfold kd; repeat (first | rw [if_pos c7] | rw [if_neg (by omega)]), by unfold tk; rw [if_neg (by omega)], by unfold gv; rw [if_pos (by omega)]⟩
theorem kt_no {op : Int} (c0 : ¬ (80 ≤ op ∧ op ≤ 90)) (c1 : ¬ (69 ≤ op ∧ op ≤ 79)) (c2 : ¬ (121 ≤ op ∧ op ≤ 138)) (c3 : ¬ (103 ≤ op ∧ op ≤ 120)) (c4 : ¬ (194 ≤ op ∧ op ≤ 196)) (c5 : ¬ (192 ≤ op ∧ op ≤ 193)) (c6 : ¬ (op = 167)) (c7 : ¬ (172 ≤ op ∧ op ≤ 173)) : kd op = 0 ∧ tk op = 1 ∧ gv op = 1 := by
  refine ⟨by unfold kd; repeat (rw [if_neg (by omega)]), by unfold tk; rw [if_neg (by omega)], by unfold gv; rw [if_neg (by omega)]⟩
/- Which word is which. -/
theorem wq_0 : ∀ k : Fin 36, ((wstr (k.val : Int)).toList.isEmpty) = decide (k.val = 0) := by decide +kernel
theorem wq_1 : ∀ k : Fin 36, ((wstr (k.val : Int)).toList == [101, 113, 122]) = decide (k.val = 1) := by decide +kernel
theorem wq_2 : ∀ k : Fin 36, ((wstr (k.val : Int)).toList == [101, 113]) = decide (k.val = 2) := by decide +kernel
theorem wq_3 : ∀ k : Fin 36, ((wstr (k.val : Int)).toList == [110, 101]) = decide (k.val = 3) := by decide +kernel
theorem wq_4 : ∀ k : Fin 36, ((wstr (k.val : Int)).toList == [108, 116, 95, 115]) = decide (k.val = 4) := by decide +kernel
theorem wq_5 : ∀ k : Fin 36, ((wstr (k.val : Int)).toList == [108, 116, 95, 117]) = decide (k.val = 5) := by decide +kernel
theorem wq_6 : ∀ k : Fin 36, ((wstr (k.val : Int)).toList == [103, 116, 95, 115]) = decide (k.val = 6) := by decide +kernel
theorem wq_7 : ∀ k : Fin 36, ((wstr (k.val : Int)).toList == [103, 116, 95, 117]) = decide (k.val = 7) := by decide +kernel
theorem wq_8 : ∀ k : Fin 36, ((wstr (k.val : Int)).toList == [108, 101, 95, 115]) = decide (k.val = 8) := by decide +kernel
theorem wq_9 : ∀ k : Fin 36, ((wstr (k.val : Int)).toList == [108, 101, 95, 117]) = decide (k.val = 9) := by decide +kernel
theorem wq_10 : ∀ k : Fin 36, ((wstr (k.val : Int)).toList == [103, 101, 95, 115]) = decide (k.val = 10) := by decide +kernel
theorem wq_11 : ∀ k : Fin 36, ((wstr (k.val : Int)).toList == [103, 101, 95, 117]) = decide (k.val = 11) := by decide +kernel
theorem wq_12 : ∀ k : Fin 36, ((wstr (k.val : Int)).toList == [99, 108, 122]) = decide (k.val = 12) := by decide +kernel
theorem wq_13 : ∀ k : Fin 36, ((wstr (k.val : Int)).toList == [99, 116, 122]) = decide (k.val = 13) := by decide +kernel
theorem wq_14 : ∀ k : Fin 36, ((wstr (k.val : Int)).toList == [112, 111, 112, 99, 110, 116]) = decide (k.val = 14) := by decide +kernel
theorem wq_15 : ∀ k : Fin 36, ((wstr (k.val : Int)).toList == [97, 100, 100]) = decide (k.val = 15) := by decide +kernel
theorem wq_16 : ∀ k : Fin 36, ((wstr (k.val : Int)).toList == [115, 117, 98]) = decide (k.val = 16) := by decide +kernel
theorem wq_17 : ∀ k : Fin 36, ((wstr (k.val : Int)).toList == [109, 117, 108]) = decide (k.val = 17) := by decide +kernel
theorem wq_18 : ∀ k : Fin 36, ((wstr (k.val : Int)).toList == [100, 105, 118, 95, 115]) = decide (k.val = 18) := by decide +kernel
theorem wq_19 : ∀ k : Fin 36, ((wstr (k.val : Int)).toList == [100, 105, 118, 95, 117]) = decide (k.val = 19) := by decide +kernel
theorem wq_20 : ∀ k : Fin 36, ((wstr (k.val : Int)).toList == [114, 101, 109, 95, 115]) = decide (k.val = 20) := by decide +kernel
theorem wq_21 : ∀ k : Fin 36, ((wstr (k.val : Int)).toList == [114, 101, 109, 95, 117]) = decide (k.val = 21) := by decide +kernel
theorem wq_22 : ∀ k : Fin 36, ((wstr (k.val : Int)).toList == [97, 110, 100]) = decide (k.val = 22) := by decide +kernel
theorem wq_23 : ∀ k : Fin 36, ((wstr (k.val : Int)).toList == [111, 114]) = decide (k.val = 23) := by decide +kernel
theorem wq_24 : ∀ k : Fin 36, ((wstr (k.val : Int)).toList == [120, 111, 114]) = decide (k.val = 24) := by decide +kernel
theorem wq_25 : ∀ k : Fin 36, ((wstr (k.val : Int)).toList == [115, 104, 108]) = decide (k.val = 25) := by decide +kernel
theorem wq_26 : ∀ k : Fin 36, ((wstr (k.val : Int)).toList == [115, 104, 114, 95, 115]) = decide (k.val = 26) := by decide +kernel
theorem wq_27 : ∀ k : Fin 36, ((wstr (k.val : Int)).toList == [115, 104, 114, 95, 117]) = decide (k.val = 27) := by decide +kernel
theorem wq_28 : ∀ k : Fin 36, ((wstr (k.val : Int)).toList == [114, 111, 116, 108]) = decide (k.val = 28) := by decide +kernel
theorem wq_29 : ∀ k : Fin 36, ((wstr (k.val : Int)).toList == [114, 111, 116, 114]) = decide (k.val = 29) := by decide +kernel
theorem wq_30 : ∀ k : Fin 36, ((wstr (k.val : Int)).toList == [101, 120, 116, 101, 110, 100, 56, 95, 115]) = decide (k.val = 30) := by decide +kernel
theorem wq_31 : ∀ k : Fin 36, ((wstr (k.val : Int)).toList == [101, 120, 116, 101, 110, 100, 49, 54, 95, 115]) = decide (k.val = 31) := by decide +kernel
theorem wq_32 : ∀ k : Fin 36, ((wstr (k.val : Int)).toList == [101, 120, 116, 101, 110, 100, 51, 50, 95, 115]) = decide (k.val = 32) := by decide +kernel
theorem wq_33 : ∀ k : Fin 36, ((wstr (k.val : Int)).toList == [119, 114, 97, 112, 95, 105, 54, 52]) = decide (k.val = 33) := by decide +kernel
theorem wq_34 : ∀ k : Fin 36, ((wstr (k.val : Int)).toList == [101, 120, 116, 101, 110, 100, 95, 105, 51, 50, 95, 115]) = decide (k.val = 34) := by decide +kernel
theorem wq_35 : ∀ k : Fin 36, ((wstr (k.val : Int)).toList == [101, 120, 116, 101, 110, 100, 95, 105, 51, 50, 95, 117]) = decide (k.val = 35) := by decide +kernel
theorem q_0 {k : Int} (h0 : 0 ≤ k) (h1 : k ≤ 35) : ((wstr k).toList.isEmpty) = decide (k = 0) := by
  obtain ⟨n, rfl⟩ : ∃ n : Nat, k = n := ⟨k.toNat, by omega⟩
  rw [wq_0 ⟨n, by omega⟩]
  exact decide_eq_decide.2 (by simp <;> omega)
theorem q_1 {k : Int} (h0 : 0 ≤ k) (h1 : k ≤ 35) : ((wstr k).toList == [101, 113, 122]) = decide (k = 1) := by
  obtain ⟨n, rfl⟩ : ∃ n : Nat, k = n := ⟨k.toNat, by omega⟩
  rw [wq_1 ⟨n, by omega⟩]
  exact decide_eq_decide.2 (by simp <;> omega)
theorem q_2 {k : Int} (h0 : 0 ≤ k) (h1 : k ≤ 35) : ((wstr k).toList == [101, 113]) = decide (k = 2) := by
  obtain ⟨n, rfl⟩ : ∃ n : Nat, k = n := ⟨k.toNat, by omega⟩
  rw [wq_2 ⟨n, by omega⟩]
  exact decide_eq_decide.2 (by simp <;> omega)
theorem q_3 {k : Int} (h0 : 0 ≤ k) (h1 : k ≤ 35) : ((wstr k).toList == [110, 101]) = decide (k = 3) := by
  obtain ⟨n, rfl⟩ : ∃ n : Nat, k = n := ⟨k.toNat, by omega⟩
  rw [wq_3 ⟨n, by omega⟩]
  exact decide_eq_decide.2 (by simp <;> omega)
theorem q_4 {k : Int} (h0 : 0 ≤ k) (h1 : k ≤ 35) : ((wstr k).toList == [108, 116, 95, 115]) = decide (k = 4) := by
  obtain ⟨n, rfl⟩ : ∃ n : Nat, k = n := ⟨k.toNat, by omega⟩
  rw [wq_4 ⟨n, by omega⟩]
  exact decide_eq_decide.2 (by simp <;> omega)
theorem q_5 {k : Int} (h0 : 0 ≤ k) (h1 : k ≤ 35) : ((wstr k).toList == [108, 116, 95, 117]) = decide (k = 5) := by
  obtain ⟨n, rfl⟩ : ∃ n : Nat, k = n := ⟨k.toNat, by omega⟩
  rw [wq_5 ⟨n, by omega⟩]
  exact decide_eq_decide.2 (by simp <;> omega)
theorem q_6 {k : Int} (h0 : 0 ≤ k) (h1 : k ≤ 35) : ((wstr k).toList == [103, 116, 95, 115]) = decide (k = 6) := by
  obtain ⟨n, rfl⟩ : ∃ n : Nat, k = n := ⟨k.toNat, by omega⟩
  rw [wq_6 ⟨n, by omega⟩]
  exact decide_eq_decide.2 (by simp <;> omega)
theorem q_7 {k : Int} (h0 : 0 ≤ k) (h1 : k ≤ 35) : ((wstr k).toList == [103, 116, 95, 117]) = decide (k = 7) := by
  obtain ⟨n, rfl⟩ : ∃ n : Nat, k = n := ⟨k.toNat, by omega⟩
  rw [wq_7 ⟨n, by omega⟩]
  exact decide_eq_decide.2 (by simp <;> omega)
theorem q_8 {k : Int} (h0 : 0 ≤ k) (h1 : k ≤ 35) : ((wstr k).toList == [108, 101, 95, 115]) = decide (k = 8) := by
  obtain ⟨n, rfl⟩ : ∃ n : Nat, k = n := ⟨k.toNat, by omega⟩
  rw [wq_8 ⟨n, by omega⟩]
  exact decide_eq_decide.2 (by simp <;> omega)
theorem q_9 {k : Int} (h0 : 0 ≤ k) (h1 : k ≤ 35) : ((wstr k).toList == [108, 101, 95, 117]) = decide (k = 9) := by
  obtain ⟨n, rfl⟩ : ∃ n : Nat, k = n := ⟨k.toNat, by omega⟩
  rw [wq_9 ⟨n, by omega⟩]
  exact decide_eq_decide.2 (by simp <;> omega)
theorem q_10 {k : Int} (h0 : 0 ≤ k) (h1 : k ≤ 35) : ((wstr k).toList == [103, 101, 95, 115]) = decide (k = 10) := by
  obtain ⟨n, rfl⟩ : ∃ n : Nat, k = n := ⟨k.toNat, by omega⟩
  rw [wq_10 ⟨n, by omega⟩]
  exact decide_eq_decide.2 (by simp <;> omega)
theorem q_11 {k : Int} (h0 : 0 ≤ k) (h1 : k ≤ 35) : ((wstr k).toList == [103, 101, 95, 117]) = decide (k = 11) := by
  obtain ⟨n, rfl⟩ : ∃ n : Nat, k = n := ⟨k.toNat, by omega⟩
  rw [wq_11 ⟨n, by omega⟩]
  exact decide_eq_decide.2 (by simp <;> omega)
theorem q_12 {k : Int} (h0 : 0 ≤ k) (h1 : k ≤ 35) : ((wstr k).toList == [99, 108, 122]) = decide (k = 12) := by
  obtain ⟨n, rfl⟩ : ∃ n : Nat, k = n := ⟨k.toNat, by omega⟩
  rw [wq_12 ⟨n, by omega⟩]
  exact decide_eq_decide.2 (by simp <;> omega)
theorem q_13 {k : Int} (h0 : 0 ≤ k) (h1 : k ≤ 35) : ((wstr k).toList == [99, 116, 122]) = decide (k = 13) := by
  obtain ⟨n, rfl⟩ : ∃ n : Nat, k = n := ⟨k.toNat, by omega⟩
  rw [wq_13 ⟨n, by omega⟩]
  exact decide_eq_decide.2 (by simp <;> omega)
theorem q_14 {k : Int} (h0 : 0 ≤ k) (h1 : k ≤ 35) : ((wstr k).toList == [112, 111, 112, 99, 110, 116]) = decide (k = 14) := by
  obtain ⟨n, rfl⟩ : ∃ n : Nat, k = n := ⟨k.toNat, by omega⟩
  rw [wq_14 ⟨n, by omega⟩]
  exact decide_eq_decide.2 (by simp <;> omega)
theorem q_15 {k : Int} (h0 : 0 ≤ k) (h1 : k ≤ 35) : ((wstr k).toList == [97, 100, 100]) = decide (k = 15) := by
  obtain ⟨n, rfl⟩ : ∃ n : Nat, k = n := ⟨k.toNat, by omega⟩
  rw [wq_15 ⟨n, by omega⟩]
  exact decide_eq_decide.2 (by simp <;> omega)
theorem q_16 {k : Int} (h0 : 0 ≤ k) (h1 : k ≤ 35) : ((wstr k).toList == [115, 117, 98]) = decide (k = 16) := by
  obtain ⟨n, rfl⟩ : ∃ n : Nat, k = n := ⟨k.toNat, by omega⟩
  rw [wq_16 ⟨n, by omega⟩]
  exact decide_eq_decide.2 (by simp <;> omega)
theorem q_17 {k : Int} (h0 : 0 ≤ k) (h1 : k ≤ 35) : ((wstr k).toList == [109, 117, 108]) = decide (k = 17) := by
  obtain ⟨n, rfl⟩ : ∃ n : Nat, k = n := ⟨k.toNat, by omega⟩
  rw [wq_17 ⟨n, by omega⟩]
  exact decide_eq_decide.2 (by simp <;> omega)
theorem q_18 {k : Int} (h0 : 0 ≤ k) (h1 : k ≤ 35) : ((wstr k).toList == [100, 105, 118, 95, 115]) = decide (k = 18) := by
  obtain ⟨n, rfl⟩ : ∃ n : Nat, k = n := ⟨k.toNat, by omega⟩
  rw [wq_18 ⟨n, by omega⟩]
  exact decide_eq_decide.2 (by simp <;> omega)
theorem q_19 {k : Int} (h0 : 0 ≤ k) (h1 : k ≤ 35) : ((wstr k).toList == [100, 105, 118, 95, 117]) = decide (k = 19) := by
  obtain ⟨n, rfl⟩ : ∃ n : Nat, k = n := ⟨k.toNat, by omega⟩
  rw [wq_19 ⟨n, by omega⟩]
  exact decide_eq_decide.2 (by simp <;> omega)
theorem q_20 {k : Int} (h0 : 0 ≤ k) (h1 : k ≤ 35) : ((wstr k).toList == [114, 101, 109, 95, 115]) = decide (k = 20) := by
  obtain ⟨n, rfl⟩ : ∃ n : Nat, k = n := ⟨k.toNat, by omega⟩
  rw [wq_20 ⟨n, by omega⟩]
  exact decide_eq_decide.2 (by simp <;> omega)
theorem q_21 {k : Int} (h0 : 0 ≤ k) (h1 : k ≤ 35) : ((wstr k).toList == [114, 101, 109, 95, 117]) = decide (k = 21) := by
  obtain ⟨n, rfl⟩ : ∃ n : Nat, k = n := ⟨k.toNat, by omega⟩
  rw [wq_21 ⟨n, by omega⟩]
  exact decide_eq_decide.2 (by simp <;> omega)
theorem q_22 {k : Int} (h0 : 0 ≤ k) (h1 : k ≤ 35) : ((wstr k).toList == [97, 110, 100]) = decide (k = 22) := by
  obtain ⟨n, rfl⟩ : ∃ n : Nat, k = n := ⟨k.toNat, by omega⟩
  rw [wq_22 ⟨n, by omega⟩]
  exact decide_eq_decide.2 (by simp <;> omega)
theorem q_23 {k : Int} (h0 : 0 ≤ k) (h1 : k ≤ 35) : ((wstr k).toList == [111, 114]) = decide (k = 23) := by
  obtain ⟨n, rfl⟩ : ∃ n : Nat, k = n := ⟨k.toNat, by omega⟩
  rw [wq_23 ⟨n, by omega⟩]
  exact decide_eq_decide.2 (by simp <;> omega)
theorem q_24 {k : Int} (h0 : 0 ≤ k) (h1 : k ≤ 35) : ((wstr k).toList == [120, 111, 114]) = decide (k = 24) := by
  obtain ⟨n, rfl⟩ : ∃ n : Nat, k = n := ⟨k.toNat, by omega⟩
  rw [wq_24 ⟨n, by omega⟩]
  exact decide_eq_decide.2 (by simp <;> omega)
theorem q_25 {k : Int} (h0 : 0 ≤ k) (h1 : k ≤ 35) : ((wstr k).toList == [115, 104, 108]) = decide (k = 25) := by
  obtain ⟨n, rfl⟩ : ∃ n : Nat, k = n := ⟨k.toNat, by omega⟩
  rw [wq_25 ⟨n, by omega⟩]
  exact decide_eq_decide.2 (by simp <;> omega)
theorem q_26 {k : Int} (h0 : 0 ≤ k) (h1 : k ≤ 35) : ((wstr k).toList == [115, 104, 114, 95, 115]) = decide (k = 26) := by
  obtain ⟨n, rfl⟩ : ∃ n : Nat, k = n := ⟨k.toNat, by omega⟩
  rw [wq_26 ⟨n, by omega⟩]
  exact decide_eq_decide.2 (by simp <;> omega)
theorem q_27 {k : Int} (h0 : 0 ≤ k) (h1 : k ≤ 35) : ((wstr k).toList == [115, 104, 114, 95, 117]) = decide (k = 27) := by
  obtain ⟨n, rfl⟩ : ∃ n : Nat, k = n := ⟨k.toNat, by omega⟩
  rw [wq_27 ⟨n, by omega⟩]
  exact decide_eq_decide.2 (by simp <;> omega)
theorem q_28 {k : Int} (h0 : 0 ≤ k) (h1 : k ≤ 35) : ((wstr k).toList == [114, 111, 116, 108]) = decide (k = 28) := by
  obtain ⟨n, rfl⟩ : ∃ n : Nat, k = n := ⟨k.toNat, by omega⟩
  rw [wq_28 ⟨n, by omega⟩]
  exact decide_eq_decide.2 (by simp <;> omega)
theorem q_29 {k : Int} (h0 : 0 ≤ k) (h1 : k ≤ 35) : ((wstr k).toList == [114, 111, 116, 114]) = decide (k = 29) := by
  obtain ⟨n, rfl⟩ : ∃ n : Nat, k = n := ⟨k.toNat, by omega⟩
  rw [wq_29 ⟨n, by omega⟩]
  exact decide_eq_decide.2 (by simp <;> omega)
theorem q_30 {k : Int} (h0 : 0 ≤ k) (h1 : k ≤ 35) : ((wstr k).toList == [101, 120, 116, 101, 110, 100, 56, 95, 115]) = decide (k = 30) := by
  obtain ⟨n, rfl⟩ : ∃ n : Nat, k = n := ⟨k.toNat, by omega⟩
  rw [wq_30 ⟨n, by omega⟩]
  exact decide_eq_decide.2 (by simp <;> omega)
theorem q_31 {k : Int} (h0 : 0 ≤ k) (h1 : k ≤ 35) : ((wstr k).toList == [101, 120, 116, 101, 110, 100, 49, 54, 95, 115]) = decide (k = 31) := by
  obtain ⟨n, rfl⟩ : ∃ n : Nat, k = n := ⟨k.toNat, by omega⟩
  rw [wq_31 ⟨n, by omega⟩]
  exact decide_eq_decide.2 (by simp <;> omega)
theorem q_32 {k : Int} (h0 : 0 ≤ k) (h1 : k ≤ 35) : ((wstr k).toList == [101, 120, 116, 101, 110, 100, 51, 50, 95, 115]) = decide (k = 32) := by
  obtain ⟨n, rfl⟩ : ∃ n : Nat, k = n := ⟨k.toNat, by omega⟩
  rw [wq_32 ⟨n, by omega⟩]
  exact decide_eq_decide.2 (by simp <;> omega)
theorem q_33 {k : Int} (h0 : 0 ≤ k) (h1 : k ≤ 35) : ((wstr k).toList == [119, 114, 97, 112, 95, 105, 54, 52]) = decide (k = 33) := by
  obtain ⟨n, rfl⟩ : ∃ n : Nat, k = n := ⟨k.toNat, by omega⟩
  rw [wq_33 ⟨n, by omega⟩]
  exact decide_eq_decide.2 (by simp <;> omega)
theorem q_34 {k : Int} (h0 : 0 ≤ k) (h1 : k ≤ 35) : ((wstr k).toList == [101, 120, 116, 101, 110, 100, 95, 105, 51, 50, 95, 115]) = decide (k = 34) := by
  obtain ⟨n, rfl⟩ : ∃ n : Nat, k = n := ⟨k.toNat, by omega⟩
  rw [wq_34 ⟨n, by omega⟩]
  exact decide_eq_decide.2 (by simp <;> omega)
theorem q_35 {k : Int} (h0 : 0 ≤ k) (h1 : k ≤ 35) : ((wstr k).toList == [101, 120, 116, 101, 110, 100, 95, 105, 51, 50, 95, 117]) = decide (k = 35) := by
  obtain ⟨n, rfl⟩ : ∃ n : Nat, k = n := ⟨k.toNat, by omega⟩
  rw [wq_35 ⟨n, by omega⟩]
  exact decide_eq_decide.2 (by simp <;> omega)
set_option maxRecDepth 100000 in
theorem Name_0 (op : Int) (w : World) (h : 80 ≤ op ∧ op ≤ 90) : Calls Tryd.prog 15 #[.int .i64 op] w fun e w' => e = .returned (.string (wstr (op - 79))) ∧ w' = w := by
  have hw : wdP 80 sTests op = wstr (op - 79) := by
    have := wd_50 ⟨(op - 80).toNat, by omega⟩
    simp only at this
    rw [show (80 : Int) + ((op - 80).toNat : Int) = op from by omega, show (1 : Int) + ((op - 80).toNat : Int) = op - 79 from by omega] at this
    exact this
  have W : Hid (∀ w : World, Calls Tryd.prog 28 #[.int .i64 80, .string sTests, .int .i64 op] w fun e w' => e = .returned (.string (wdP 80 sTests op)) ∧ w' = w) := fun w => words_any 80 op sTests w (by decide) (by decide) (by decide)
  rw [hw] at W
  generalize wstr (op - 79) = s at *
  clear hw
  obtain ⟨h0, h1⟩ := h
  go_enter Tryd.func15, Tryd.ntmps15
  go_wp2_with fail
  refine (W.out _).mono ?_
  rintro e w1 ⟨rfl, hw⟩
  obtain rfl := hw.symm
  go_wp2_with fail
  go_ret
  exact ⟨rfl, rfl⟩
set_option maxRecDepth 100000 in
theorem Name_1 (op : Int) (w : World) (h : 69 ≤ op ∧ op ≤ 79) : Calls Tryd.prog 15 #[.int .i64 op] w fun e w' => e = .returned (.string (wstr (op - 68))) ∧ w' = w := by
  have hw : wdP 69 sTests op = wstr (op - 68) := by
    have := wd_45 ⟨(op - 69).toNat, by omega⟩
    simp only at this
    rw [show (69 : Int) + ((op - 69).toNat : Int) = op from by omega, show (1 : Int) + ((op - 69).toNat : Int) = op - 68 from by omega] at this
    exact this
  have W : Hid (∀ w : World, Calls Tryd.prog 28 #[.int .i64 69, .string sTests, .int .i64 op] w fun e w' => e = .returned (.string (wdP 69 sTests op)) ∧ w' = w) := fun w => words_any 69 op sTests w (by decide) (by decide) (by decide)
  rw [hw] at W
  generalize wstr (op - 68) = s at *
  clear hw
  obtain ⟨h0, h1⟩ := h
  go_enter Tryd.func15, Tryd.ntmps15
  go_wp2_with fail
  refine (W.out _).mono ?_
  rintro e w1 ⟨rfl, hw⟩
  obtain rfl := hw.symm
  go_wp2_with fail
  go_ret
  exact ⟨rfl, rfl⟩
set_option maxRecDepth 100000 in
theorem Name_2 (op : Int) (w : World) (h : 121 ≤ op ∧ op ≤ 138) : Calls Tryd.prog 15 #[.int .i64 op] w fun e w' => e = .returned (.string (wstr (op - 109))) ∧ w' = w := by
  have hw : wdP 121 sSums op = wstr (op - 109) := by
    have := wd_79 ⟨(op - 121).toNat, by omega⟩
    simp only at this
    rw [show (121 : Int) + ((op - 121).toNat : Int) = op from by omega, show (12 : Int) + ((op - 121).toNat : Int) = op - 109 from by omega] at this
    exact this
  have W : Hid (∀ w : World, Calls Tryd.prog 28 #[.int .i64 121, .string sSums, .int .i64 op] w fun e w' => e = .returned (.string (wdP 121 sSums op)) ∧ w' = w) := fun w => words_any 121 op sSums w (by decide) (by decide) (by decide)
  rw [hw] at W
  generalize wstr (op - 109) = s at *
  clear hw
  obtain ⟨h0, h1⟩ := h
  go_enter Tryd.func15, Tryd.ntmps15
  go_wp2_with fail
  refine (W.out _).mono ?_
  rintro e w1 ⟨rfl, hw⟩
  obtain rfl := hw.symm
  go_wp2_with fail
  go_ret
  exact ⟨rfl, rfl⟩
set_option maxRecDepth 100000 in
theorem Name_3 (op : Int) (w : World) (h : 103 ≤ op ∧ op ≤ 120) : Calls Tryd.prog 15 #[.int .i64 op] w fun e w' => e = .returned (.string (wstr (op - 91))) ∧ w' = w := by
  have hw : wdP 103 sSums op = wstr (op - 91) := by
    have := wd_67 ⟨(op - 103).toNat, by omega⟩
    simp only at this
    rw [show (103 : Int) + ((op - 103).toNat : Int) = op from by omega, show (12 : Int) + ((op - 103).toNat : Int) = op - 91 from by omega] at this
    exact this
  have W : Hid (∀ w : World, Calls Tryd.prog 28 #[.int .i64 103, .string sSums, .int .i64 op] w fun e w' => e = .returned (.string (wdP 103 sSums op)) ∧ w' = w) := fun w => words_any 103 op sSums w (by decide) (by decide) (by decide)
  rw [hw] at W
  generalize wstr (op - 91) = s at *
  clear hw
  obtain ⟨h0, h1⟩ := h
  go_enter Tryd.func15, Tryd.ntmps15
  go_wp2_with fail
  refine (W.out _).mono ?_
  rintro e w1 ⟨rfl, hw⟩
  obtain rfl := hw.symm
  go_wp2_with fail
  go_ret
  exact ⟨rfl, rfl⟩
set_option maxRecDepth 100000 in
theorem Name_4 (op : Int) (w : World) (h : 194 ≤ op ∧ op ≤ 196) : Calls Tryd.prog 15 #[.int .i64 op] w fun e w' => e = .returned (.string (wstr (op - 164))) ∧ w' = w := by
  have hw : wdP 192 sExt op = wstr (op - 164) := by
    have := wd_c2 ⟨(op - 194).toNat, by omega⟩
    simp only at this
    rw [show (194 : Int) + ((op - 194).toNat : Int) = op from by omega, show (30 : Int) + ((op - 194).toNat : Int) = op - 164 from by omega] at this
    exact this
  have W : Hid (∀ w : World, Calls Tryd.prog 28 #[.int .i64 192, .string sExt, .int .i64 op] w fun e w' => e = .returned (.string (wdP 192 sExt op)) ∧ w' = w) := fun w => words_any 192 op sExt w (by decide) (by decide) (by decide)
  rw [hw] at W
  generalize wstr (op - 164) = s at *
  clear hw
  obtain ⟨h0, h1⟩ := h
  go_enter Tryd.func15, Tryd.ntmps15
  go_wp2_with fail
  refine (W.out _).mono ?_
  rintro e w1 ⟨rfl, hw⟩
  obtain rfl := hw.symm
  go_wp2_with fail
  go_ret
  exact ⟨rfl, rfl⟩
set_option maxRecDepth 100000 in
theorem Name_5 (op : Int) (w : World) (h : 192 ≤ op ∧ op ≤ 193) : Calls Tryd.prog 15 #[.int .i64 op] w fun e w' => e = .returned (.string (wstr (op - 162))) ∧ w' = w := by
  have hw : wdP 192 sExt op = wstr (op - 162) := by
    have := wd_c0 ⟨(op - 192).toNat, by omega⟩
    simp only at this
    rw [show (192 : Int) + ((op - 192).toNat : Int) = op from by omega, show (30 : Int) + ((op - 192).toNat : Int) = op - 162 from by omega] at this
    exact this
  have W : Hid (∀ w : World, Calls Tryd.prog 28 #[.int .i64 192, .string sExt, .int .i64 op] w fun e w' => e = .returned (.string (wdP 192 sExt op)) ∧ w' = w) := fun w => words_any 192 op sExt w (by decide) (by decide) (by decide)
  rw [hw] at W
  generalize wstr (op - 162) = s at *
  clear hw
  obtain ⟨h0, h1⟩ := h
  go_enter Tryd.func15, Tryd.ntmps15
  go_wp2_with fail
  refine (W.out _).mono ?_
  rintro e w1 ⟨rfl, hw⟩
  obtain rfl := hw.symm
  go_wp2_with fail
  go_ret
  exact ⟨rfl, rfl⟩
set_option maxRecDepth 100000 in
theorem Name_6 (op : Int) (w : World) (h : op = 167) : Calls Tryd.prog 15 #[.int .i64 op] w fun e w' => e = .returned (.string (wstr (33))) ∧ w' = w := by
  subst h
  go_enter Tryd.func15, Tryd.ntmps15
  go_wp2_with fail
  go_ret
  exact ⟨rfl, rfl⟩
set_option maxRecDepth 100000 in
theorem Name_7 (op : Int) (w : World) (h : 172 ≤ op ∧ op ≤ 173) : Calls Tryd.prog 15 #[.int .i64 op] w fun e w' => e = .returned (.string (wstr (op - 138))) ∧ w' = w := by
  have hh : op = 172 ∨ op = 173 := by omega
  rcases hh with rfl | rfl <;>
  · go_enter Tryd.func15, Tryd.ntmps15
    go_wp2_with fail
    go_ret
    exact ⟨rfl, rfl⟩
set_option maxRecDepth 100000 in
theorem Name_no (op : Int) (w : World) (n0 : ¬ (80 ≤ op ∧ op ≤ 90)) (n1 : ¬ (69 ≤ op ∧ op ≤ 79)) (n2 : ¬ (121 ≤ op ∧ op ≤ 138)) (n3 : ¬ (103 ≤ op ∧ op ≤ 120)) (n4 : ¬ (194 ≤ op ∧ op ≤ 196)) (n5 : ¬ (192 ≤ op ∧ op ≤ 193)) (n6 : ¬ (op = 167)) (n7 : ¬ (172 ≤ op ∧ op ≤ 173)) : Calls Tryd.prog 15 #[.int .i64 op] w fun e w' => e = .returned (.string ⟨#[]⟩) ∧ w' = w := by
  have b0 : (op == 167) = false := beq_eq_false_iff_ne.2 (by omega)
  have b1 : (op == 172) = false := beq_eq_false_iff_ne.2 (by omega)
  have b2 : (op == 173) = false := beq_eq_false_iff_ne.2 (by omega)
  go_enter Tryd.func15, Tryd.ntmps15
  go_wp2_with fail
  all_goals first
    | (exfalso; go_light; omega)
    | (go_ret; exact ⟨rfl, rfl⟩)
theorem RName_any (op : Int) (w : World) : Calls Tryd.prog 15 #[.int .i64 op] w fun e w' => e = .returned (.string (wstr (kd op))) ∧ w' = w := by
  by_cases c0 : 80 ≤ op ∧ op ≤ 90
  · rw [(kt_0 c0).1]; exact Name_0 op w c0
  by_cases c1 : 69 ≤ op ∧ op ≤ 79
  · rw [(kt_1 c1).1]; exact Name_1 op w c1
  by_cases c2 : 121 ≤ op ∧ op ≤ 138
  · rw [(kt_2 c2).1]; exact Name_2 op w c2
  by_cases c3 : 103 ≤ op ∧ op ≤ 120
  · rw [(kt_3 c3).1]; exact Name_3 op w c3
  by_cases c4 : 194 ≤ op ∧ op ≤ 196
  · rw [(kt_4 c4).1]; exact Name_4 op w c4
  by_cases c5 : 192 ≤ op ∧ op ≤ 193
  · rw [(kt_5 c5).1]; exact Name_5 op w c5
  by_cases c6 : op = 167
  · rw [(kt_6 c6).1]; exact Name_6 op w c6
  by_cases c7 : 172 ≤ op ∧ op ≤ 173
  · rw [(kt_7 c7).1]; exact Name_7 op w c7
  rw [(kt_no c0 c1 c2 c3 c4 c5 c6 c7).1]
  exact Name_no op w c0 c1 c2 c3 c4 c5 c6 c7
set_option maxRecDepth 100000 in
theorem rar_0 (op : Int) (s : ByteArray) (w : World) (q0 : s.toList.isEmpty = true)
    (N : Hid (∀ w : World, Calls Tryd.prog 15 #[.int .i64 op] w fun e w' => e = .returned (.string s) ∧ w' = w)) :
    Calls Tryd.prog 6 #[.int .i64 op] w fun e w' => e = .returned (.int .i64 0) ∧ w' = w := by
  go_enter Tryd.func6, Tryd.ntmps6
  go_wp2_with fail
  refine (N.out _).mono ?_
  rintro e w1 ⟨rfl, hw⟩
  obtain rfl := hw.symm
  go_wp2
  go_ret
  exact ⟨rfl, rfl⟩
set_option maxRecDepth 100000 in
theorem rar_1 (op : Int) (s : ByteArray) (w : World) (q0 : s.toList.isEmpty = false) (q1 : (s.toList == [101, 113, 122]) = true)
    (N : Hid (∀ w : World, Calls Tryd.prog 15 #[.int .i64 op] w fun e w' => e = .returned (.string s) ∧ w' = w)) :
    Calls Tryd.prog 6 #[.int .i64 op] w fun e w' => e = .returned (.int .i64 1) ∧ w' = w := by
  go_enter Tryd.func6, Tryd.ntmps6
  go_wp2_with fail
  refine (N.out _).mono ?_
  rintro e w1 ⟨rfl, hw⟩
  obtain rfl := hw.symm
  go_wp2
  go_ret
  exact ⟨rfl, rfl⟩
set_option maxRecDepth 100000 in
theorem rar_2 (op : Int) (s : ByteArray) (w : World) (q0 : s.toList.isEmpty = false) (q1 : (s.toList == [101, 113, 122]) = false) (q2 : (s.toList == [99, 108, 122]) = true)
    (N : Hid (∀ w : World, Calls Tryd.prog 15 #[.int .i64 op] w fun e w' => e = .returned (.string s) ∧ w' = w)) :
    Calls Tryd.prog 6 #[.int .i64 op] w fun e w' => e = .returned (.int .i64 1) ∧ w' = w := by
  go_enter Tryd.func6, Tryd.ntmps6
  go_wp2_with fail
  refine (N.out _).mono ?_
  rintro e w1 ⟨rfl, hw⟩
  obtain rfl := hw.symm
  go_wp2
  go_ret
  exact ⟨rfl, rfl⟩
set_option maxRecDepth 100000 in
theorem rar_3 (op : Int) (s : ByteArray) (w : World) (q0 : s.toList.isEmpty = false) (q1 : (s.toList == [101, 113, 122]) = false) (q2 : (s.toList == [99, 108, 122]) = false) (q3 : (s.toList == [99, 116, 122]) = true)
    (N : Hid (∀ w : World, Calls Tryd.prog 15 #[.int .i64 op] w fun e w' => e = .returned (.string s) ∧ w' = w)) :
    Calls Tryd.prog 6 #[.int .i64 op] w fun e w' => e = .returned (.int .i64 1) ∧ w' = w := by
  go_enter Tryd.func6, Tryd.ntmps6
  go_wp2_with fail
  refine (N.out _).mono ?_
  rintro e w1 ⟨rfl, hw⟩
  obtain rfl := hw.symm
  go_wp2
  go_ret
  exact ⟨rfl, rfl⟩
set_option maxRecDepth 100000 in
theorem rar_4 (op : Int) (s : ByteArray) (w : World) (q0 : s.toList.isEmpty = false) (q1 : (s.toList == [101, 113, 122]) = false) (q2 : (s.toList == [99, 108, 122]) = false) (q3 : (s.toList == [99, 116, 122]) = false) (q4 : (s.toList == [112, 111, 112, 99, 110, 116]) = true)
    (N : Hid (∀ w : World, Calls Tryd.prog 15 #[.int .i64 op] w fun e w' => e = .returned (.string s) ∧ w' = w)) :
    Calls Tryd.prog 6 #[.int .i64 op] w fun e w' => e = .returned (.int .i64 1) ∧ w' = w := by
  go_enter Tryd.func6, Tryd.ntmps6
  go_wp2_with fail
  refine (N.out _).mono ?_
  rintro e w1 ⟨rfl, hw⟩
  obtain rfl := hw.symm
  go_wp2
  go_ret
  exact ⟨rfl, rfl⟩
set_option maxRecDepth 100000 in
theorem rar_5 (op : Int) (s : ByteArray) (w : World) (q0 : s.toList.isEmpty = false) (q1 : (s.toList == [101, 113, 122]) = false) (q2 : (s.toList == [99, 108, 122]) = false) (q3 : (s.toList == [99, 116, 122]) = false) (q4 : (s.toList == [112, 111, 112, 99, 110, 116]) = false) (q5 : (s.toList == [101, 120, 116, 101, 110, 100, 56, 95, 115]) = true)
    (N : Hid (∀ w : World, Calls Tryd.prog 15 #[.int .i64 op] w fun e w' => e = .returned (.string s) ∧ w' = w)) :
    Calls Tryd.prog 6 #[.int .i64 op] w fun e w' => e = .returned (.int .i64 1) ∧ w' = w := by
  go_enter Tryd.func6, Tryd.ntmps6
  go_wp2_with fail
  refine (N.out _).mono ?_
  rintro e w1 ⟨rfl, hw⟩
  obtain rfl := hw.symm
  go_wp2
  go_ret
  exact ⟨rfl, rfl⟩
set_option maxRecDepth 100000 in
theorem rar_6 (op : Int) (s : ByteArray) (w : World) (q0 : s.toList.isEmpty = false) (q1 : (s.toList == [101, 113, 122]) = false) (q2 : (s.toList == [99, 108, 122]) = false) (q3 : (s.toList == [99, 116, 122]) = false) (q4 : (s.toList == [112, 111, 112, 99, 110, 116]) = false) (q5 : (s.toList == [101, 120, 116, 101, 110, 100, 56, 95, 115]) = false) (q6 : (s.toList == [101, 120, 116, 101, 110, 100, 49, 54, 95, 115]) = true)
    (N : Hid (∀ w : World, Calls Tryd.prog 15 #[.int .i64 op] w fun e w' => e = .returned (.string s) ∧ w' = w)) :
    Calls Tryd.prog 6 #[.int .i64 op] w fun e w' => e = .returned (.int .i64 1) ∧ w' = w := by
  go_enter Tryd.func6, Tryd.ntmps6
  go_wp2_with fail
  refine (N.out _).mono ?_
  rintro e w1 ⟨rfl, hw⟩
  obtain rfl := hw.symm
  go_wp2
  go_ret
  exact ⟨rfl, rfl⟩
set_option maxRecDepth 100000 in
theorem rar_7 (op : Int) (s : ByteArray) (w : World) (q0 : s.toList.isEmpty = false) (q1 : (s.toList == [101, 113, 122]) = false) (q2 : (s.toList == [99, 108, 122]) = false) (q3 : (s.toList == [99, 116, 122]) = false) (q4 : (s.toList == [112, 111, 112, 99, 110, 116]) = false) (q5 : (s.toList == [101, 120, 116, 101, 110, 100, 56, 95, 115]) = false) (q6 : (s.toList == [101, 120, 116, 101, 110, 100, 49, 54, 95, 115]) = false) (q7 : (s.toList == [101, 120, 116, 101, 110, 100, 51, 50, 95, 115]) = true)
    (N : Hid (∀ w : World, Calls Tryd.prog 15 #[.int .i64 op] w fun e w' => e = .returned (.string s) ∧ w' = w)) :
    Calls Tryd.prog 6 #[.int .i64 op] w fun e w' => e = .returned (.int .i64 1) ∧ w' = w := by
  go_enter Tryd.func6, Tryd.ntmps6
  go_wp2_with fail
  refine (N.out _).mono ?_
  rintro e w1 ⟨rfl, hw⟩
  obtain rfl := hw.symm
  go_wp2
  go_ret
  exact ⟨rfl, rfl⟩
set_option maxRecDepth 100000 in
theorem rar_8 (op : Int) (s : ByteArray) (w : World) (q0 : s.toList.isEmpty = false) (q1 : (s.toList == [101, 113, 122]) = false) (q2 : (s.toList == [99, 108, 122]) = false) (q3 : (s.toList == [99, 116, 122]) = false) (q4 : (s.toList == [112, 111, 112, 99, 110, 116]) = false) (q5 : (s.toList == [101, 120, 116, 101, 110, 100, 56, 95, 115]) = false) (q6 : (s.toList == [101, 120, 116, 101, 110, 100, 49, 54, 95, 115]) = false) (q7 : (s.toList == [101, 120, 116, 101, 110, 100, 51, 50, 95, 115]) = false) (q8 : (s.toList == [119, 114, 97, 112, 95, 105, 54, 52]) = true)
    (N : Hid (∀ w : World, Calls Tryd.prog 15 #[.int .i64 op] w fun e w' => e = .returned (.string s) ∧ w' = w)) :
    Calls Tryd.prog 6 #[.int .i64 op] w fun e w' => e = .returned (.int .i64 1) ∧ w' = w := by
  go_enter Tryd.func6, Tryd.ntmps6
  go_wp2_with fail
  refine (N.out _).mono ?_
  rintro e w1 ⟨rfl, hw⟩
  obtain rfl := hw.symm
  go_wp2
  go_ret
  exact ⟨rfl, rfl⟩
set_option maxRecDepth 100000 in
theorem rar_9 (op : Int) (s : ByteArray) (w : World) (q0 : s.toList.isEmpty = false) (q1 : (s.toList == [101, 113, 122]) = false) (q2 : (s.toList == [99, 108, 122]) = false) (q3 : (s.toList == [99, 116, 122]) = false) (q4 : (s.toList == [112, 111, 112, 99, 110, 116]) = false) (q5 : (s.toList == [101, 120, 116, 101, 110, 100, 56, 95, 115]) = false) (q6 : (s.toList == [101, 120, 116, 101, 110, 100, 49, 54, 95, 115]) = false) (q7 : (s.toList == [101, 120, 116, 101, 110, 100, 51, 50, 95, 115]) = false) (q8 : (s.toList == [119, 114, 97, 112, 95, 105, 54, 52]) = false) (q9 : (s.toList == [101, 120, 116, 101, 110, 100, 95, 105, 51, 50, 95, 115]) = true)
    (N : Hid (∀ w : World, Calls Tryd.prog 15 #[.int .i64 op] w fun e w' => e = .returned (.string s) ∧ w' = w)) :
    Calls Tryd.prog 6 #[.int .i64 op] w fun e w' => e = .returned (.int .i64 1) ∧ w' = w := by
  go_enter Tryd.func6, Tryd.ntmps6
  go_wp2_with fail
  refine (N.out _).mono ?_
  rintro e w1 ⟨rfl, hw⟩
  obtain rfl := hw.symm
  go_wp2
  go_ret
  exact ⟨rfl, rfl⟩
set_option maxRecDepth 100000 in
theorem rar_10 (op : Int) (s : ByteArray) (w : World) (q0 : s.toList.isEmpty = false) (q1 : (s.toList == [101, 113, 122]) = false) (q2 : (s.toList == [99, 108, 122]) = false) (q3 : (s.toList == [99, 116, 122]) = false) (q4 : (s.toList == [112, 111, 112, 99, 110, 116]) = false) (q5 : (s.toList == [101, 120, 116, 101, 110, 100, 56, 95, 115]) = false) (q6 : (s.toList == [101, 120, 116, 101, 110, 100, 49, 54, 95, 115]) = false) (q7 : (s.toList == [101, 120, 116, 101, 110, 100, 51, 50, 95, 115]) = false) (q8 : (s.toList == [119, 114, 97, 112, 95, 105, 54, 52]) = false) (q9 : (s.toList == [101, 120, 116, 101, 110, 100, 95, 105, 51, 50, 95, 115]) = false) (q10 : (s.toList == [101, 120, 116, 101, 110, 100, 95, 105, 51, 50, 95, 117]) = true)
    (N : Hid (∀ w : World, Calls Tryd.prog 15 #[.int .i64 op] w fun e w' => e = .returned (.string s) ∧ w' = w)) :
    Calls Tryd.prog 6 #[.int .i64 op] w fun e w' => e = .returned (.int .i64 1) ∧ w' = w := by
  go_enter Tryd.func6, Tryd.ntmps6
  go_wp2_with fail
  refine (N.out _).mono ?_
  rintro e w1 ⟨rfl, hw⟩
  obtain rfl := hw.symm
  go_wp2
  go_ret
  exact ⟨rfl, rfl⟩
set_option maxRecDepth 100000 in
theorem rar_11 (op : Int) (s : ByteArray) (w : World) (q0 : s.toList.isEmpty = false) (q1 : (s.toList == [101, 113, 122]) = false) (q2 : (s.toList == [99, 108, 122]) = false) (q3 : (s.toList == [99, 116, 122]) = false) (q4 : (s.toList == [112, 111, 112, 99, 110, 116]) = false) (q5 : (s.toList == [101, 120, 116, 101, 110, 100, 56, 95, 115]) = false) (q6 : (s.toList == [101, 120, 116, 101, 110, 100, 49, 54, 95, 115]) = false) (q7 : (s.toList == [101, 120, 116, 101, 110, 100, 51, 50, 95, 115]) = false) (q8 : (s.toList == [119, 114, 97, 112, 95, 105, 54, 52]) = false) (q9 : (s.toList == [101, 120, 116, 101, 110, 100, 95, 105, 51, 50, 95, 115]) = false) (q10 : (s.toList == [101, 120, 116, 101, 110, 100, 95, 105, 51, 50, 95, 117]) = false)
    (N : Hid (∀ w : World, Calls Tryd.prog 15 #[.int .i64 op] w fun e w' => e = .returned (.string s) ∧ w' = w)) :
    Calls Tryd.prog 6 #[.int .i64 op] w fun e w' => e = .returned (.int .i64 2) ∧ w' = w := by
  go_enter Tryd.func6, Tryd.ntmps6
  go_wp2_with fail
  refine (N.out _).mono ?_
  rintro e w1 ⟨rfl, hw⟩
  obtain rfl := hw.symm
  go_wp2
  go_ret
  exact ⟨rfl, rfl⟩
theorem RArity_any (op : Int) (w : World) : Calls Tryd.prog 6 #[.int .i64 op] w fun e w' => e = .returned (.int .i64 (ark (kd op))) ∧ w' = w := by
  obtain ⟨k0, k1⟩ := kd_bd op
  have N := fun (w : World) => RName_any op w
  generalize kd op = k at *
  by_cases c0 : k = 0
  · rw [show ark k = 0 from by rw [c0]; rfl]; exact rar_0 op (wstr k) w (by rw [q_0 k0 k1]; exact decide_eq_true (by omega)) N
  by_cases c1 : k = 1
  · rw [show ark k = 1 from by rw [c1]; rfl]; exact rar_1 op (wstr k) w (by rw [q_0 k0 k1]; exact decide_eq_false (by omega)) (by rw [q_1 k0 k1]; exact decide_eq_true (by omega)) N
  by_cases c2 : k = 12
  · rw [show ark k = 1 from by rw [c2]; rfl]; exact rar_2 op (wstr k) w (by rw [q_0 k0 k1]; exact decide_eq_false (by omega)) (by rw [q_1 k0 k1]; exact decide_eq_false (by omega)) (by rw [q_12 k0 k1]; exact decide_eq_true (by omega)) N
  by_cases c3 : k = 13
  · rw [show ark k = 1 from by rw [c3]; rfl]; exact rar_3 op (wstr k) w (by rw [q_0 k0 k1]; exact decide_eq_false (by omega)) (by rw [q_1 k0 k1]; exact decide_eq_false (by omega)) (by rw [q_12 k0 k1]; exact decide_eq_false (by omega)) (by rw [q_13 k0 k1]; exact decide_eq_true (by omega)) N
  by_cases c4 : k = 14
  · rw [show ark k = 1 from by rw [c4]; rfl]; exact rar_4 op (wstr k) w (by rw [q_0 k0 k1]; exact decide_eq_false (by omega)) (by rw [q_1 k0 k1]; exact decide_eq_false (by omega)) (by rw [q_12 k0 k1]; exact decide_eq_false (by omega)) (by rw [q_13 k0 k1]; exact decide_eq_false (by omega)) (by rw [q_14 k0 k1]; exact decide_eq_true (by omega)) N
  by_cases c5 : k = 30
  · rw [show ark k = 1 from by rw [c5]; rfl]; exact rar_5 op (wstr k) w (by rw [q_0 k0 k1]; exact decide_eq_false (by omega)) (by rw [q_1 k0 k1]; exact decide_eq_false (by omega)) (by rw [q_12 k0 k1]; exact decide_eq_false (by omega)) (by rw [q_13 k0 k1]; exact decide_eq_false (by omega)) (by rw [q_14 k0 k1]; exact decide_eq_false (by omega)) (by rw [q_30 k0 k1]; exact decide_eq_true (by omega)) N
  by_cases c6 : k = 31
  · rw [show ark k = 1 from by rw [c6]; rfl]; exact rar_6 op (wstr k) w (by rw [q_0 k0 k1]; exact decide_eq_false (by omega)) (by rw [q_1 k0 k1]; exact decide_eq_false (by omega)) (by rw [q_12 k0 k1]; exact decide_eq_false (by omega)) (by rw [q_13 k0 k1]; exact decide_eq_false (by omega)) (by rw [q_14 k0 k1]; exact decide_eq_false (by omega)) (by rw [q_30 k0 k1]; exact decide_eq_false (by omega)) (by rw [q_31 k0 k1]; exact decide_eq_true (by omega)) N
  by_cases c7 : k = 32
  · rw [show ark k = 1 from by rw [c7]; rfl]; exact rar_7 op (wstr k) w (by rw [q_0 k0 k1]; exact decide_eq_false (by omega)) (by rw [q_1 k0 k1]; exact decide_eq_false (by omega)) (by rw [q_12 k0 k1]; exact decide_eq_false (by omega)) (by rw [q_13 k0 k1]; exact decide_eq_false (by omega)) (by rw [q_14 k0 k1]; exact decide_eq_false (by omega)) (by rw [q_30 k0 k1]; exact decide_eq_false (by omega)) (by rw [q_31 k0 k1]; exact decide_eq_false (by omega)) (by rw [q_32 k0 k1]; exact decide_eq_true (by omega)) N
  by_cases c8 : k = 33
  · rw [show ark k = 1 from by rw [c8]; rfl]; exact rar_8 op (wstr k) w (by rw [q_0 k0 k1]; exact decide_eq_false (by omega)) (by rw [q_1 k0 k1]; exact decide_eq_false (by omega)) (by rw [q_12 k0 k1]; exact decide_eq_false (by omega)) (by rw [q_13 k0 k1]; exact decide_eq_false (by omega)) (by rw [q_14 k0 k1]; exact decide_eq_false (by omega)) (by rw [q_30 k0 k1]; exact decide_eq_false (by omega)) (by rw [q_31 k0 k1]; exact decide_eq_false (by omega)) (by rw [q_32 k0 k1]; exact decide_eq_false (by omega)) (by rw [q_33 k0 k1]; exact decide_eq_true (by omega)) N
  by_cases c9 : k = 34
  · rw [show ark k = 1 from by rw [c9]; rfl]; exact rar_9 op (wstr k) w (by rw [q_0 k0 k1]; exact decide_eq_false (by omega)) (by rw [q_1 k0 k1]; exact decide_eq_false (by omega)) (by rw [q_12 k0 k1]; exact decide_eq_false (by omega)) (by rw [q_13 k0 k1]; exact decide_eq_false (by omega)) (by rw [q_14 k0 k1]; exact decide_eq_false (by omega)) (by rw [q_30 k0 k1]; exact decide_eq_false (by omega)) (by rw [q_31 k0 k1]; exact decide_eq_false (by omega)) (by rw [q_32 k0 k1]; exact decide_eq_false (by omega)) (by rw [q_33 k0 k1]; exact decide_eq_false (by omega)) (by rw [q_34 k0 k1]; exact decide_eq_true (by omega)) N
  by_cases c10 : k = 35
  · rw [show ark k = 1 from by rw [c10]; rfl]; exact rar_10 op (wstr k) w (by rw [q_0 k0 k1]; exact decide_eq_false (by omega)) (by rw [q_1 k0 k1]; exact decide_eq_false (by omega)) (by rw [q_12 k0 k1]; exact decide_eq_false (by omega)) (by rw [q_13 k0 k1]; exact decide_eq_false (by omega)) (by rw [q_14 k0 k1]; exact decide_eq_false (by omega)) (by rw [q_30 k0 k1]; exact decide_eq_false (by omega)) (by rw [q_31 k0 k1]; exact decide_eq_false (by omega)) (by rw [q_32 k0 k1]; exact decide_eq_false (by omega)) (by rw [q_33 k0 k1]; exact decide_eq_false (by omega)) (by rw [q_34 k0 k1]; exact decide_eq_false (by omega)) (by rw [q_35 k0 k1]; exact decide_eq_true (by omega)) N
  rw [show ark k = 2 from by unfold ark; rw [if_neg (by omega), if_neg (by omega)]]
  exact rar_11 op (wstr k) w (by rw [q_0 k0 k1]; exact decide_eq_false (by omega)) (by rw [q_1 k0 k1]; exact decide_eq_false (by omega)) (by rw [q_12 k0 k1]; exact decide_eq_false (by omega)) (by rw [q_13 k0 k1]; exact decide_eq_false (by omega)) (by rw [q_14 k0 k1]; exact decide_eq_false (by omega)) (by rw [q_30 k0 k1]; exact decide_eq_false (by omega)) (by rw [q_31 k0 k1]; exact decide_eq_false (by omega)) (by rw [q_32 k0 k1]; exact decide_eq_false (by omega)) (by rw [q_33 k0 k1]; exact decide_eq_false (by omega)) (by rw [q_34 k0 k1]; exact decide_eq_false (by omega)) (by rw [q_35 k0 k1]; exact decide_eq_false (by omega)) N
set_option maxRecDepth 100000 in
theorem rbits_0 (op : Int) (s : ByteArray) (w : World) (q0 : s.toList.isEmpty = true)
    (N : Hid (∀ w : World, Calls Tryd.prog 15 #[.int .i64 op] w fun e w' => e = .returned (.string s) ∧ w' = w)) :
    Calls Tryd.prog 17 #[.int .i64 op] w fun e w' => e = .returned (.int .i64 0) ∧ w' = w := by
  go_enter Tryd.func17, Tryd.ntmps17
  go_wp2_with fail
  refine (N.out _).mono ?_
  rintro e w1 ⟨rfl, hw⟩
  obtain rfl := hw.symm
  go_wp2
  go_ret
  exact ⟨rfl, rfl⟩
set_option maxRecDepth 100000 in
theorem rbits_c0 (op : Int) (s : ByteArray) (w : World) (q0 : s.toList.isEmpty = false) (h : 80 ≤ op ∧ op ≤ 90)
    (N : Hid (∀ w : World, Calls Tryd.prog 15 #[.int .i64 op] w fun e w' => e = .returned (.string s) ∧ w' = w)) :
    Calls Tryd.prog 17 #[.int .i64 op] w fun e w' => e = .returned (.int .i64 64) ∧ w' = w := by
  obtain ⟨h0, h1⟩ := h
  have b0 : (op == 167) = false := beq_eq_false_iff_ne.2 (by omega)
  go_enter Tryd.func17, Tryd.ntmps17
  go_wp2_with fail
  refine (N.out _).mono ?_
  rintro e w1 ⟨rfl, hw⟩
  obtain rfl := hw.symm
  go_wp2
  go_ret
  exact ⟨rfl, rfl⟩
set_option maxRecDepth 100000 in
theorem rbits_c1 (op : Int) (s : ByteArray) (w : World) (q0 : s.toList.isEmpty = false) (h : 69 ≤ op ∧ op ≤ 79)
    (N : Hid (∀ w : World, Calls Tryd.prog 15 #[.int .i64 op] w fun e w' => e = .returned (.string s) ∧ w' = w)) :
    Calls Tryd.prog 17 #[.int .i64 op] w fun e w' => e = .returned (.int .i64 32) ∧ w' = w := by
  obtain ⟨h0, h1⟩ := h
  have b0 : (op == 167) = false := beq_eq_false_iff_ne.2 (by omega)
  go_enter Tryd.func17, Tryd.ntmps17
  go_wp2_with fail
  refine (N.out _).mono ?_
  rintro e w1 ⟨rfl, hw⟩
  obtain rfl := hw.symm
  go_wp2
  go_ret
  exact ⟨rfl, rfl⟩
set_option maxRecDepth 100000 in
theorem rbits_c2 (op : Int) (s : ByteArray) (w : World) (q0 : s.toList.isEmpty = false) (h : 121 ≤ op ∧ op ≤ 138)
    (N : Hid (∀ w : World, Calls Tryd.prog 15 #[.int .i64 op] w fun e w' => e = .returned (.string s) ∧ w' = w)) :
    Calls Tryd.prog 17 #[.int .i64 op] w fun e w' => e = .returned (.int .i64 64) ∧ w' = w := by
  obtain ⟨h0, h1⟩ := h
  have b0 : (op == 167) = false := beq_eq_false_iff_ne.2 (by omega)
  go_enter Tryd.func17, Tryd.ntmps17
  go_wp2_with fail
  refine (N.out _).mono ?_
  rintro e w1 ⟨rfl, hw⟩
  obtain rfl := hw.symm
  go_wp2
  go_ret
  exact ⟨rfl, rfl⟩
set_option maxRecDepth 100000 in
theorem rbits_c3 (op : Int) (s : ByteArray) (w : World) (q0 : s.toList.isEmpty = false) (h : 103 ≤ op ∧ op ≤ 120)
    (N : Hid (∀ w : World, Calls Tryd.prog 15 #[.int .i64 op] w fun e w' => e = .returned (.string s) ∧ w' = w)) :
    Calls Tryd.prog 17 #[.int .i64 op] w fun e w' => e = .returned (.int .i64 32) ∧ w' = w := by
  obtain ⟨h0, h1⟩ := h
  have b0 : (op == 167) = false := beq_eq_false_iff_ne.2 (by omega)
  go_enter Tryd.func17, Tryd.ntmps17
  go_wp2_with fail
  refine (N.out _).mono ?_
  rintro e w1 ⟨rfl, hw⟩
  obtain rfl := hw.symm
  go_wp2
  go_ret
  exact ⟨rfl, rfl⟩
set_option maxRecDepth 100000 in
theorem rbits_c4 (op : Int) (s : ByteArray) (w : World) (q0 : s.toList.isEmpty = false) (h : 194 ≤ op ∧ op ≤ 196)
    (N : Hid (∀ w : World, Calls Tryd.prog 15 #[.int .i64 op] w fun e w' => e = .returned (.string s) ∧ w' = w)) :
    Calls Tryd.prog 17 #[.int .i64 op] w fun e w' => e = .returned (.int .i64 64) ∧ w' = w := by
  obtain ⟨h0, h1⟩ := h
  have b0 : (op == 167) = false := beq_eq_false_iff_ne.2 (by omega)
  go_enter Tryd.func17, Tryd.ntmps17
  go_wp2_with fail
  refine (N.out _).mono ?_
  rintro e w1 ⟨rfl, hw⟩
  obtain rfl := hw.symm
  go_wp2
  go_ret
  exact ⟨rfl, rfl⟩
set_option maxRecDepth 100000 in
theorem rbits_c5 (op : Int) (s : ByteArray) (w : World) (q0 : s.toList.isEmpty = false) (h : 192 ≤ op ∧ op ≤ 193)
    (N : Hid (∀ w : World, Calls Tryd.prog 15 #[.int .i64 op] w fun e w' => e = .returned (.string s) ∧ w' = w)) :
    Calls Tryd.prog 17 #[.int .i64 op] w fun e w' => e = .returned (.int .i64 32) ∧ w' = w := by
  obtain ⟨h0, h1⟩ := h
  have b0 : (op == 167) = false := beq_eq_false_iff_ne.2 (by omega)
  go_enter Tryd.func17, Tryd.ntmps17
  go_wp2_with fail
  refine (N.out _).mono ?_
  rintro e w1 ⟨rfl, hw⟩
  obtain rfl := hw.symm
  go_wp2
  go_ret
  exact ⟨rfl, rfl⟩
set_option maxRecDepth 100000 in
theorem rbits_c6 (op : Int) (s : ByteArray) (w : World) (q0 : s.toList.isEmpty = false) (h : op = 167)
    (N : Hid (∀ w : World, Calls Tryd.prog 15 #[.int .i64 op] w fun e w' => e = .returned (.string s) ∧ w' = w)) :
    Calls Tryd.prog 17 #[.int .i64 op] w fun e w' => e = .returned (.int .i64 64) ∧ w' = w := by
  subst h
  skip
  go_enter Tryd.func17, Tryd.ntmps17
  go_wp2_with fail
  refine (N.out _).mono ?_
  rintro e w1 ⟨rfl, hw⟩
  obtain rfl := hw.symm
  go_wp2
  go_ret
  exact ⟨rfl, rfl⟩
set_option maxRecDepth 100000 in
theorem rbits_c7 (op : Int) (s : ByteArray) (w : World) (q0 : s.toList.isEmpty = false) (h : 172 ≤ op ∧ op ≤ 173)
    (N : Hid (∀ w : World, Calls Tryd.prog 15 #[.int .i64 op] w fun e w' => e = .returned (.string s) ∧ w' = w)) :
    Calls Tryd.prog 17 #[.int .i64 op] w fun e w' => e = .returned (.int .i64 32) ∧ w' = w := by
  obtain ⟨h0, h1⟩ := h
  have b0 : (op == 167) = false := beq_eq_false_iff_ne.2 (by omega)
  go_enter Tryd.func17, Tryd.ntmps17
  go_wp2_with fail
  refine (N.out _).mono ?_
  rintro e w1 ⟨rfl, hw⟩
  obtain rfl := hw.symm
  go_wp2
  go_ret
  exact ⟨rfl, rfl⟩
/- The width of an operator; 0 of none. -/
def rb (op : Int) : Int := if kd op = 0 then 0 else wd (tk op)
theorem RBits_any (op : Int) (w : World) : Calls Tryd.prog 17 #[.int .i64 op] w fun e w' => e = .returned (.int .i64 (rb op)) ∧ w' = w := by
  obtain ⟨k0, k1⟩ := kd_bd op
  have N := fun (w : World) => RName_any op w
  have Q := q_0 k0 k1
  unfold rb
  by_cases hz : kd op = 0
  · rw [if_pos hz]
    exact rbits_0 op _ w (by rw [Q]; exact decide_eq_true hz) N
  · rw [if_neg hz]
    rw [decide_eq_false hz] at Q
    by_cases c0 : 80 ≤ op ∧ op ≤ 90
    · rw [(kt_0 c0).2.1]; exact rbits_c0 op _ w Q c0 N
    by_cases c1 : 69 ≤ op ∧ op ≤ 79
    · rw [(kt_1 c1).2.1]; exact rbits_c1 op _ w Q c1 N
    by_cases c2 : 121 ≤ op ∧ op ≤ 138
    · rw [(kt_2 c2).2.1]; exact rbits_c2 op _ w Q c2 N
    by_cases c3 : 103 ≤ op ∧ op ≤ 120
    · rw [(kt_3 c3).2.1]; exact rbits_c3 op _ w Q c3 N
    by_cases c4 : 194 ≤ op ∧ op ≤ 196
    · rw [(kt_4 c4).2.1]; exact rbits_c4 op _ w Q c4 N
    by_cases c5 : 192 ≤ op ∧ op ≤ 193
    · rw [(kt_5 c5).2.1]; exact rbits_c5 op _ w Q c5 N
    by_cases c6 : op = 167
    · rw [(kt_6 c6).2.1]; exact rbits_c6 op _ w Q c6 N
    by_cases c7 : 172 ≤ op ∧ op ≤ 173
    · rw [(kt_7 c7).2.1]; exact rbits_c7 op _ w Q c7 N
    exact absurd (kt_no c0 c1 c2 c3 c4 c5 c6 c7).1 hz
end Go.Proofs.YtolllelejdnjlaaDoor
