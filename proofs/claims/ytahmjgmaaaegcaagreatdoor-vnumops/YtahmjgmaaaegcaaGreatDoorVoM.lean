/-
  vnum's Ops, Addr, Least, and the document's; no statement is proved here.
-/
import Derived.Test.YtahmjgmaaaegcaaGreatDoorOpsW
import Derived.Test.YtahmjgmaaaegcaaGreatDoorVmp
import Derived.BigQuiet
namespace Go.Proofs.YtahmjgmaaaegcaaGreatDoor
open Go.RowKit
set_option linter.unusedVariables false
set_option linter.unusedSimpArgs false

def grpF (op : Int) : Int := if 40 ≤ op ∧ op < 54 then 40 else if 54 ≤ op ∧ op ≤ 62 then 54 else if 64512 ≤ op ∧ op ≤ 64519 then 65 else if 65 ≤ op ∧ op ≤ 196 then 65 else op
def takesB (op : Int) : Bool := decide (op = 26) || decide (op = 27) || decide (op = 28) || (decide (32 ≤ op) && decide (op ≤ 38)) || (decide (40 ≤ op) && decide (op ≤ 196)) || (decide (64512 ≤ op) && decide (op ≤ 64529))
def vkeep (op : Int) : Bool := decide (stepF (grpF op) ≠ -1)
def VL : List Int := OL.filter vkeep
def inVL (op : Int) : Bool := VL.any (fun x => decide (x = op))
theorem VL_len : VL.length = 185 := by decide +kernel
theorem VL_rise : riseB VL = true := by decide +kernel
theorem VL_sub (k : Nat) : ((OL.take k).filter vkeep).length ≤ 243 := by
  refine Nat.le_trans (List.length_filter_le _ _) ?_
  rw [List.length_take, OL_len]; omega
theorem inVL_is (op : Int) : inVL op = (vkeep op && inOL op) := by
  unfold inVL VL inOL
  rw [List.any_filter]
  induction OL with
  | nil => simp
  | cons x l ih =>
    rw [List.any_cons, List.any_cons, ih]
    by_cases h : x = op
    · subst h; simp; intro h _; exact h
    · simp [h]
theorem near_t1 : ∀ k : Fin 256, (vkeep (k.val : Int) && inOL (k.val : Int)) = (takesB (k.val : Int) && !(formD (k.val : Int)).isEmpty) := by decide +kernel
theorem near_t2 : ∀ k : Fin 64, (vkeep (64256 + (k.val : Int)) && inOL (64256 + (k.val : Int))) = (takesB (64256 + (k.val : Int)) && !(formD (64256 + (k.val : Int))).isEmpty) := by decide +kernel
theorem near_t3 : ∀ k : Fin 64, (vkeep (64512 + (k.val : Int)) && inOL (64512 + (k.val : Int))) = (takesB (64512 + (k.val : Int)) && !(formD (64512 + (k.val : Int))).isEmpty) := by decide +kernel
theorem inVL_takes (op : Int) : inVL op = (takesB op && !(formD op).isEmpty) := by
  rw [inVL_is]
  rcases op_parts op with h | ⟨k, rfl⟩ | h | ⟨k, rfl⟩ | h | ⟨k, rfl⟩ | h
  · rw [inOL_no (Or.inl h), (names_far (Or.inl h)).2.2]; simp
  · exact near_t1 k
  · rw [inOL_no (Or.inr (Or.inl h)), (names_far (Or.inr (Or.inl h))).2.2]; simp
  · exact near_t2 k
  · rw [inOL_no (Or.inr (Or.inr (Or.inl h))), (names_far (Or.inr (Or.inr (Or.inl h)))).2.2]; simp
  · exact near_t3 k
  · rw [inOL_no (Or.inr (Or.inr (Or.inr h))), (names_far (Or.inr (Or.inr (Or.inr h)))).2.2]; simp
theorem BA_empty (l : List UInt8) : (BA l).toList.isEmpty = l.isEmpty := by rw [BA_toList]
set_option maxRecDepth 100000 in
set_option maxHeartbeats 2000000 in
theorem group_0 (op : Int) (h : op < 40) (w : World) : Calls Tryz.prog 22 #[.int .i64 op] w fun en w' => en = .returned (.int .i64 op) ∧ w' = w := by
  have d0 : decide (40 ≤ op) = false := by simp; omega
  have d1 : decide (op < 54) = true := by simp; omega
  have d2 : decide (54 ≤ op) = false := by simp; omega
  have d3 : decide (op ≤ 62) = true := by simp; omega
  have d4 : decide (64512 ≤ op) = false := by simp; omega
  have d5 : decide (op ≤ 64519) = true := by simp; omega
  have d6 : decide (65 ≤ op) = false := by simp; omega
  have d7 : decide (op ≤ 196) = true := by simp; omega
  clear h
  go_enter Tryz.func22, Tryz.ntmps22
  go_wp2_with fail
  go_ret
  exact ⟨rfl, rfl⟩
set_option maxRecDepth 100000 in
set_option maxHeartbeats 2000000 in
theorem group_1 (op : Int) (h : 40 ≤ op ∧ op < 54) (w : World) : Calls Tryz.prog 22 #[.int .i64 op] w fun en w' => en = .returned (.int .i64 40) ∧ w' = w := by
  have d0 : decide (40 ≤ op) = true := by simp; omega
  have d1 : decide (op < 54) = true := by simp; omega
  have d2 : decide (54 ≤ op) = false := by simp; omega
  have d3 : decide (op ≤ 62) = true := by simp; omega
  have d4 : decide (64512 ≤ op) = false := by simp; omega
  have d5 : decide (op ≤ 64519) = true := by simp; omega
  have d6 : decide (65 ≤ op) = false := by simp; omega
  have d7 : decide (op ≤ 196) = true := by simp; omega
  clear h
  go_enter Tryz.func22, Tryz.ntmps22
  go_wp2_with fail
  go_ret
  exact ⟨rfl, rfl⟩
set_option maxRecDepth 100000 in
set_option maxHeartbeats 2000000 in
theorem group_2 (op : Int) (h : 54 ≤ op ∧ op ≤ 62) (w : World) : Calls Tryz.prog 22 #[.int .i64 op] w fun en w' => en = .returned (.int .i64 54) ∧ w' = w := by
  have d0 : decide (40 ≤ op) = true := by simp; omega
  have d1 : decide (op < 54) = false := by simp; omega
  have d2 : decide (54 ≤ op) = true := by simp; omega
  have d3 : decide (op ≤ 62) = true := by simp; omega
  have d4 : decide (64512 ≤ op) = false := by simp; omega
  have d5 : decide (op ≤ 64519) = true := by simp; omega
  have d6 : decide (65 ≤ op) = false := by simp; omega
  have d7 : decide (op ≤ 196) = true := by simp; omega
  clear h
  go_enter Tryz.func22, Tryz.ntmps22
  go_wp2_with fail
  go_ret
  exact ⟨rfl, rfl⟩
set_option maxRecDepth 100000 in
set_option maxHeartbeats 2000000 in
theorem group_3 (op : Int) (h : 63 ≤ op ∧ op < 65) (w : World) : Calls Tryz.prog 22 #[.int .i64 op] w fun en w' => en = .returned (.int .i64 op) ∧ w' = w := by
  have d0 : decide (40 ≤ op) = true := by simp; omega
  have d1 : decide (op < 54) = false := by simp; omega
  have d2 : decide (54 ≤ op) = true := by simp; omega
  have d3 : decide (op ≤ 62) = false := by simp; omega
  have d4 : decide (64512 ≤ op) = false := by simp; omega
  have d5 : decide (op ≤ 64519) = true := by simp; omega
  have d6 : decide (65 ≤ op) = false := by simp; omega
  have d7 : decide (op ≤ 196) = true := by simp; omega
  clear h
  go_enter Tryz.func22, Tryz.ntmps22
  go_wp2_with fail
  go_ret
  exact ⟨rfl, rfl⟩
set_option maxRecDepth 100000 in
set_option maxHeartbeats 2000000 in
theorem group_4 (op : Int) (h : 65 ≤ op ∧ op ≤ 196) (w : World) : Calls Tryz.prog 22 #[.int .i64 op] w fun en w' => en = .returned (.int .i64 65) ∧ w' = w := by
  have d0 : decide (40 ≤ op) = true := by simp; omega
  have d1 : decide (op < 54) = false := by simp; omega
  have d2 : decide (54 ≤ op) = true := by simp; omega
  have d3 : decide (op ≤ 62) = false := by simp; omega
  have d4 : decide (64512 ≤ op) = false := by simp; omega
  have d5 : decide (op ≤ 64519) = true := by simp; omega
  have d6 : decide (65 ≤ op) = true := by simp; omega
  have d7 : decide (op ≤ 196) = true := by simp; omega
  clear h
  go_enter Tryz.func22, Tryz.ntmps22
  go_wp2_with fail
  go_ret
  exact ⟨rfl, rfl⟩
set_option maxRecDepth 100000 in
set_option maxHeartbeats 2000000 in
theorem group_5 (op : Int) (h : 197 ≤ op ∧ op < 64512) (w : World) : Calls Tryz.prog 22 #[.int .i64 op] w fun en w' => en = .returned (.int .i64 op) ∧ w' = w := by
  have d0 : decide (40 ≤ op) = true := by simp; omega
  have d1 : decide (op < 54) = false := by simp; omega
  have d2 : decide (54 ≤ op) = true := by simp; omega
  have d3 : decide (op ≤ 62) = false := by simp; omega
  have d4 : decide (64512 ≤ op) = false := by simp; omega
  have d5 : decide (op ≤ 64519) = true := by simp; omega
  have d6 : decide (65 ≤ op) = true := by simp; omega
  have d7 : decide (op ≤ 196) = false := by simp; omega
  clear h
  go_enter Tryz.func22, Tryz.ntmps22
  go_wp2_with fail
  go_ret
  exact ⟨rfl, rfl⟩
set_option maxRecDepth 100000 in
set_option maxHeartbeats 2000000 in
theorem group_6 (op : Int) (h : 64512 ≤ op ∧ op ≤ 64519) (w : World) : Calls Tryz.prog 22 #[.int .i64 op] w fun en w' => en = .returned (.int .i64 65) ∧ w' = w := by
  have d0 : decide (40 ≤ op) = true := by simp; omega
  have d1 : decide (op < 54) = false := by simp; omega
  have d2 : decide (54 ≤ op) = true := by simp; omega
  have d3 : decide (op ≤ 62) = false := by simp; omega
  have d4 : decide (64512 ≤ op) = true := by simp; omega
  have d5 : decide (op ≤ 64519) = true := by simp; omega
  have d6 : decide (65 ≤ op) = true := by simp; omega
  have d7 : decide (op ≤ 196) = false := by simp; omega
  clear h
  go_enter Tryz.func22, Tryz.ntmps22
  go_wp2_with fail
  go_ret
  exact ⟨rfl, rfl⟩
set_option maxRecDepth 100000 in
set_option maxHeartbeats 2000000 in
theorem group_7 (op : Int) (h : 64519 < op) (w : World) : Calls Tryz.prog 22 #[.int .i64 op] w fun en w' => en = .returned (.int .i64 op) ∧ w' = w := by
  have d0 : decide (40 ≤ op) = true := by simp; omega
  have d1 : decide (op < 54) = false := by simp; omega
  have d2 : decide (54 ≤ op) = true := by simp; omega
  have d3 : decide (op ≤ 62) = false := by simp; omega
  have d4 : decide (64512 ≤ op) = true := by simp; omega
  have d5 : decide (op ≤ 64519) = false := by simp; omega
  have d6 : decide (65 ≤ op) = true := by simp; omega
  have d7 : decide (op ≤ 196) = false := by simp; omega
  clear h
  go_enter Tryz.func22, Tryz.ntmps22
  go_wp2_with fail
  go_ret
  exact ⟨rfl, rfl⟩
theorem group_any (op : Int) (w : World) : Calls Tryz.prog 22 #[.int .i64 op] w fun en w' => en = .returned (.int .i64 (grpF op)) ∧ w' = w := by
  by_cases h0 : op < 40
  · have e : grpF op = op := by unfold grpF; (repeat' split) <;> omega
    rw [e]
    exact group_0 op h0 w
  by_cases h1 : 40 ≤ op ∧ op < 54
  · have e : grpF op = 40 := by unfold grpF; (repeat' split) <;> omega
    rw [e]
    exact group_1 op h1 w
  by_cases h2 : 54 ≤ op ∧ op ≤ 62
  · have e : grpF op = 54 := by unfold grpF; (repeat' split) <;> omega
    rw [e]
    exact group_2 op h2 w
  by_cases h3 : 63 ≤ op ∧ op < 65
  · have e : grpF op = op := by unfold grpF; (repeat' split) <;> omega
    rw [e]
    exact group_3 op h3 w
  by_cases h4 : 65 ≤ op ∧ op ≤ 196
  · have e : grpF op = 65 := by unfold grpF; (repeat' split) <;> omega
    rw [e]
    exact group_4 op h4 w
  by_cases h5 : 197 ≤ op ∧ op < 64512
  · have e : grpF op = op := by unfold grpF; (repeat' split) <;> omega
    rw [e]
    exact group_5 op h5 w
  by_cases h6 : 64512 ≤ op ∧ op ≤ 64519
  · have e : grpF op = 65 := by unfold grpF; (repeat' split) <;> omega
    rw [e]
    exact group_6 op h6 w
  have h7 : 64519 < op := by omega
  have e : grpF op = op := by unfold grpF; (repeat' split) <;> omega
  rw [e]
  exact group_7 op h7 w
set_option maxRecDepth 100000 in
set_option maxHeartbeats 2000000 in
theorem takes_0 (op : Int) (h : op < 26) (w : World) : Calls Tryz.prog 23 #[.int .i64 op] w fun en w' => en = .returned (.bool false) ∧ w' = w := by
  have d0 : decide (32 ≤ op) = false := by simp; omega
  have d1 : decide (op ≤ 38) = true := by simp; omega
  have d2 : decide (40 ≤ op) = false := by simp; omega
  have d3 : decide (op ≤ 196) = true := by simp; omega
  have d4 : decide (64512 ≤ op) = false := by simp; omega
  have d5 : decide (op ≤ 64529) = true := by simp; omega
  have e0 : (op == 26) = false := by simp; omega
  have f0 : decide (op = 26) = false := by simp; omega
  have e1 : (op == 27) = false := by simp; omega
  have f1 : decide (op = 27) = false := by simp; omega
  have e2 : (op == 28) = false := by simp; omega
  have f2 : decide (op = 28) = false := by simp; omega
  clear h
  go_enter Tryz.func23, Tryz.ntmps23
  go_wp2_with fail
  go_ret
  exact ⟨rfl, rfl⟩
set_option maxRecDepth 100000 in
set_option maxHeartbeats 2000000 in
theorem takes_1 (op : Int) (h : op = 26) (w : World) : Calls Tryz.prog 23 #[.int .i64 op] w fun en w' => en = .returned (.bool true) ∧ w' = w := by
  subst h
  go_enter Tryz.func23, Tryz.ntmps23
  go_wp2_with fail
  go_ret
  exact ⟨rfl, rfl⟩
set_option maxRecDepth 100000 in
set_option maxHeartbeats 2000000 in
theorem takes_2 (op : Int) (h : op = 27) (w : World) : Calls Tryz.prog 23 #[.int .i64 op] w fun en w' => en = .returned (.bool true) ∧ w' = w := by
  subst h
  go_enter Tryz.func23, Tryz.ntmps23
  go_wp2_with fail
  go_ret
  exact ⟨rfl, rfl⟩
set_option maxRecDepth 100000 in
set_option maxHeartbeats 2000000 in
theorem takes_3 (op : Int) (h : op = 28) (w : World) : Calls Tryz.prog 23 #[.int .i64 op] w fun en w' => en = .returned (.bool true) ∧ w' = w := by
  subst h
  go_enter Tryz.func23, Tryz.ntmps23
  go_wp2_with fail
  go_ret
  exact ⟨rfl, rfl⟩
set_option maxRecDepth 100000 in
set_option maxHeartbeats 2000000 in
theorem takes_4 (op : Int) (h : 28 < op ∧ op < 32) (w : World) : Calls Tryz.prog 23 #[.int .i64 op] w fun en w' => en = .returned (.bool false) ∧ w' = w := by
  have d0 : decide (32 ≤ op) = false := by simp; omega
  have d1 : decide (op ≤ 38) = true := by simp; omega
  have d2 : decide (40 ≤ op) = false := by simp; omega
  have d3 : decide (op ≤ 196) = true := by simp; omega
  have d4 : decide (64512 ≤ op) = false := by simp; omega
  have d5 : decide (op ≤ 64529) = true := by simp; omega
  have e0 : (op == 26) = false := by simp; omega
  have f0 : decide (op = 26) = false := by simp; omega
  have e1 : (op == 27) = false := by simp; omega
  have f1 : decide (op = 27) = false := by simp; omega
  have e2 : (op == 28) = false := by simp; omega
  have f2 : decide (op = 28) = false := by simp; omega
  clear h
  go_enter Tryz.func23, Tryz.ntmps23
  go_wp2_with fail
  go_ret
  exact ⟨rfl, rfl⟩
set_option maxRecDepth 100000 in
set_option maxHeartbeats 2000000 in
theorem takes_5 (op : Int) (h : 32 ≤ op ∧ op ≤ 38) (w : World) : Calls Tryz.prog 23 #[.int .i64 op] w fun en w' => en = .returned (.bool true) ∧ w' = w := by
  have d0 : decide (32 ≤ op) = true := by simp; omega
  have d1 : decide (op ≤ 38) = true := by simp; omega
  have d2 : decide (40 ≤ op) = false := by simp; omega
  have d3 : decide (op ≤ 196) = true := by simp; omega
  have d4 : decide (64512 ≤ op) = false := by simp; omega
  have d5 : decide (op ≤ 64529) = true := by simp; omega
  have e0 : (op == 26) = false := by simp; omega
  have f0 : decide (op = 26) = false := by simp; omega
  have e1 : (op == 27) = false := by simp; omega
  have f1 : decide (op = 27) = false := by simp; omega
  have e2 : (op == 28) = false := by simp; omega
  have f2 : decide (op = 28) = false := by simp; omega
  clear h
  go_enter Tryz.func23, Tryz.ntmps23
  go_wp2_with fail
  go_ret
  exact ⟨rfl, rfl⟩
set_option maxRecDepth 100000 in
set_option maxHeartbeats 2000000 in
theorem takes_6 (op : Int) (h : op = 39) (w : World) : Calls Tryz.prog 23 #[.int .i64 op] w fun en w' => en = .returned (.bool false) ∧ w' = w := by
  subst h
  go_enter Tryz.func23, Tryz.ntmps23
  go_wp2_with fail
  go_ret
  exact ⟨rfl, rfl⟩
set_option maxRecDepth 100000 in
set_option maxHeartbeats 2000000 in
theorem takes_7 (op : Int) (h : 40 ≤ op ∧ op ≤ 196) (w : World) : Calls Tryz.prog 23 #[.int .i64 op] w fun en w' => en = .returned (.bool true) ∧ w' = w := by
  have d0 : decide (32 ≤ op) = true := by simp; omega
  have d1 : decide (op ≤ 38) = false := by simp; omega
  have d2 : decide (40 ≤ op) = true := by simp; omega
  have d3 : decide (op ≤ 196) = true := by simp; omega
  have d4 : decide (64512 ≤ op) = false := by simp; omega
  have d5 : decide (op ≤ 64529) = true := by simp; omega
  have e0 : (op == 26) = false := by simp; omega
  have f0 : decide (op = 26) = false := by simp; omega
  have e1 : (op == 27) = false := by simp; omega
  have f1 : decide (op = 27) = false := by simp; omega
  have e2 : (op == 28) = false := by simp; omega
  have f2 : decide (op = 28) = false := by simp; omega
  clear h
  go_enter Tryz.func23, Tryz.ntmps23
  go_wp2_with fail
  go_ret
  exact ⟨rfl, rfl⟩
set_option maxRecDepth 100000 in
set_option maxHeartbeats 2000000 in
theorem takes_8 (op : Int) (h : 196 < op ∧ op < 64512) (w : World) : Calls Tryz.prog 23 #[.int .i64 op] w fun en w' => en = .returned (.bool false) ∧ w' = w := by
  have d0 : decide (32 ≤ op) = true := by simp; omega
  have d1 : decide (op ≤ 38) = false := by simp; omega
  have d2 : decide (40 ≤ op) = true := by simp; omega
  have d3 : decide (op ≤ 196) = false := by simp; omega
  have d4 : decide (64512 ≤ op) = false := by simp; omega
  have d5 : decide (op ≤ 64529) = true := by simp; omega
  have e0 : (op == 26) = false := by simp; omega
  have f0 : decide (op = 26) = false := by simp; omega
  have e1 : (op == 27) = false := by simp; omega
  have f1 : decide (op = 27) = false := by simp; omega
  have e2 : (op == 28) = false := by simp; omega
  have f2 : decide (op = 28) = false := by simp; omega
  clear h
  go_enter Tryz.func23, Tryz.ntmps23
  go_wp2_with fail
  go_ret
  exact ⟨rfl, rfl⟩
set_option maxRecDepth 100000 in
set_option maxHeartbeats 2000000 in
theorem takes_9 (op : Int) (h : 64512 ≤ op ∧ op ≤ 64529) (w : World) : Calls Tryz.prog 23 #[.int .i64 op] w fun en w' => en = .returned (.bool true) ∧ w' = w := by
  have d0 : decide (32 ≤ op) = true := by simp; omega
  have d1 : decide (op ≤ 38) = false := by simp; omega
  have d2 : decide (40 ≤ op) = true := by simp; omega
  have d3 : decide (op ≤ 196) = false := by simp; omega
  have d4 : decide (64512 ≤ op) = true := by simp; omega
  have d5 : decide (op ≤ 64529) = true := by simp; omega
  have e0 : (op == 26) = false := by simp; omega
  have f0 : decide (op = 26) = false := by simp; omega
  have e1 : (op == 27) = false := by simp; omega
  have f1 : decide (op = 27) = false := by simp; omega
  have e2 : (op == 28) = false := by simp; omega
  have f2 : decide (op = 28) = false := by simp; omega
  clear h
  go_enter Tryz.func23, Tryz.ntmps23
  go_wp2_with fail
  go_ret
  exact ⟨rfl, rfl⟩
set_option maxRecDepth 100000 in
set_option maxHeartbeats 2000000 in
theorem takes_10 (op : Int) (h : 64529 < op) (w : World) : Calls Tryz.prog 23 #[.int .i64 op] w fun en w' => en = .returned (.bool false) ∧ w' = w := by
  have d0 : decide (32 ≤ op) = true := by simp; omega
  have d1 : decide (op ≤ 38) = false := by simp; omega
  have d2 : decide (40 ≤ op) = true := by simp; omega
  have d3 : decide (op ≤ 196) = false := by simp; omega
  have d4 : decide (64512 ≤ op) = true := by simp; omega
  have d5 : decide (op ≤ 64529) = false := by simp; omega
  have e0 : (op == 26) = false := by simp; omega
  have f0 : decide (op = 26) = false := by simp; omega
  have e1 : (op == 27) = false := by simp; omega
  have f1 : decide (op = 27) = false := by simp; omega
  have e2 : (op == 28) = false := by simp; omega
  have f2 : decide (op = 28) = false := by simp; omega
  clear h
  go_enter Tryz.func23, Tryz.ntmps23
  go_wp2_with fail
  go_ret
  exact ⟨rfl, rfl⟩
theorem takes_any (op : Int) (w : World) : Calls Tryz.prog 23 #[.int .i64 op] w fun en w' => en = .returned (.bool (takesB op)) ∧ w' = w := by
  by_cases h0 : op < 26
  · have e : takesB op = false := by simp [takesB]; omega
    rw [e]
    exact takes_0 op h0 w
  by_cases h1 : op = 26
  · have e : takesB op = true := by simp [takesB]; omega
    rw [e]
    exact takes_1 op h1 w
  by_cases h2 : op = 27
  · have e : takesB op = true := by simp [takesB]; omega
    rw [e]
    exact takes_2 op h2 w
  by_cases h3 : op = 28
  · have e : takesB op = true := by simp [takesB]; omega
    rw [e]
    exact takes_3 op h3 w
  by_cases h4 : 28 < op ∧ op < 32
  · have e : takesB op = false := by simp [takesB]; omega
    rw [e]
    exact takes_4 op h4 w
  by_cases h5 : 32 ≤ op ∧ op ≤ 38
  · have e : takesB op = true := by simp [takesB]; omega
    rw [e]
    exact takes_5 op h5 w
  by_cases h6 : op = 39
  · have e : takesB op = false := by simp [takesB]; omega
    rw [e]
    exact takes_6 op h6 w
  by_cases h7 : 40 ≤ op ∧ op ≤ 196
  · have e : takesB op = true := by simp [takesB]; omega
    rw [e]
    exact takes_7 op h7 w
  by_cases h8 : 196 < op ∧ op < 64512
  · have e : takesB op = false := by simp [takesB]; omega
    rw [e]
    exact takes_8 op h8 w
  by_cases h9 : 64512 ≤ op ∧ op ≤ 64529
  · have e : takesB op = true := by simp [takesB]; omega
    rw [e]
    exact takes_9 op h9 w
  have h10 : 64529 < op := by omega
  have e : takesB op = false := by simp [takesB]; omega
  rw [e]
  exact takes_10 op h10 w
/- A block of three cells behind a call. -/
theorem vfresh3 {w w1 : World} {t : TypeId} {a b c : Value} (g : Grew (w.alloc (.cells #[a, b, c] t)) w1) :
    Grew w w1 ∧ w.heap.size < w1.heap.size ∧ w1.cell? ⟨w.heap.size, 0, none⟩ = some a ∧ w1.cell? ⟨w.heap.size, 1, none⟩ = some b ∧ w1.cell? ⟨w.heap.size, 2, none⟩ = some c ∧
    w1.frozen? ⟨w.heap.size, 0, none⟩ = false ∧ w1.frozen? ⟨w.heap.size, 1, none⟩ = false ∧ w1.frozen? ⟨w.heap.size, 2, none⟩ = false := by
  have B1 := (g.turn []).other (heap_alloc_last w (.cells #[a, b, c] t)) (by simp)
  refine ⟨((Grew.refl w).alloc _).trans g, lt_of_obj B1, ?_, ?_, ?_, free_of B1 0, free_of B1 1, free_of B1 2⟩
  · rw [cell_of B1]; rfl
  · rw [cell_of B1]; rfl
  · rw [cell_of B1]; rfl
def TI : Int → Value := fun n => .agg #[.int .i64 n, .bool false, .int .i64 0]
set_option maxRecDepth 100000 in
set_option maxHeartbeats 2000000 in
theorem i32_any (w : World) : Calls Tryz.prog 64 #[] w fun en w' => en = .returned (TI 1) ∧ Grew w w' := by
  go_enter Tryz.func64, Tryz.ntmps64
  go_wp2_with fail
  refine bodyPost_ret (v := TI 1) (by simp [TI, results, Tryz.results64, go_sem]) rfl ?_
  exact ⟨rfl, by repeat (first | with_reducible exact Grew.refl _ | refine Grew.alloc ?_ _ | refine Grew.set ?_ (by simp) _)⟩
end Go.Proofs.YtahmjgmaaaegcaaGreatDoor
