/-
  Small functions of vnum; no statement is proved here.
-/
import Derived.Test.YtikaidokllnifaaGreatDoorVnA
import Derived.BigQuiet
set_option maxRecDepth 100000
set_option maxHeartbeats 8000000
namespace Go.Proofs.YtikaidokllnifaaGreatDoor
open Go.RowKit
set_option linter.unusedVariables false
set_option linter.unusedSimpArgs false
def grpF (op : Int) : Int := if 40 ≤ op ∧ op < 54 then 40 else if 54 ≤ op ∧ op ≤ 62 then 54 else if 64512 ≤ op ∧ op ≤ 64519 then 65 else if 65 ≤ op ∧ op ≤ 196 then 65 else op
def takesB (op : Int) : Bool := decide (op = 26) || decide (op = 27) || decide (op = 28) || (decide (32 ≤ op) && decide (op ≤ 38)) || (decide (40 ≤ op) && decide (op ≤ 196)) || (decide (64512 ≤ op) && decide (op ≤ 64529))
theorem group_0 (op : Int) (h : op < 40) (w : World) : Calls Tryz.prog 37 #[.int .i64 op] w fun en w' => en = .returned (.int .i64 op) ∧ w' = w := by
  have d0 : decide (40 ≤ op) = false := by simp; omega
  have d1 : decide (op < 54) = true := by simp; omega
  have d2 : decide (54 ≤ op) = false := by simp; omega
  have d3 : decide (op ≤ 62) = true := by simp; omega
  have d4 : decide (64512 ≤ op) = false := by simp; omega
  have d5 : decide (op ≤ 64519) = true := by simp; omega
  have d6 : decide (65 ≤ op) = false := by simp; omega
  have d7 : decide (op ≤ 196) = true := by simp; omega
  clear h
  go_enter Tryz.func37, Tryz.ntmps37
  go_wp2_with fail
  go_ret
  exact ⟨rfl, rfl⟩
theorem group_1 (op : Int) (h : 40 ≤ op ∧ op < 54) (w : World) : Calls Tryz.prog 37 #[.int .i64 op] w fun en w' => en = .returned (.int .i64 40) ∧ w' = w := by
  have d0 : decide (40 ≤ op) = true := by simp; omega
  have d1 : decide (op < 54) = true := by simp; omega
  have d2 : decide (54 ≤ op) = false := by simp; omega
  have d3 : decide (op ≤ 62) = true := by simp; omega
  have d4 : decide (64512 ≤ op) = false := by simp; omega
  have d5 : decide (op ≤ 64519) = true := by simp; omega
  have d6 : decide (65 ≤ op) = false := by simp; omega
  have d7 : decide (op ≤ 196) = true := by simp; omega
  clear h
  go_enter Tryz.func37, Tryz.ntmps37
  go_wp2_with fail
  go_ret
  exact ⟨rfl, rfl⟩
theorem group_2 (op : Int) (h : 54 ≤ op ∧ op ≤ 62) (w : World) : Calls Tryz.prog 37 #[.int .i64 op] w fun en w' => en = .returned (.int .i64 54) ∧ w' = w := by
  have d0 : decide (40 ≤ op) = true := by simp; omega
  have d1 : decide (op < 54) = false := by simp; omega
  have d2 : decide (54 ≤ op) = true := by simp; omega
  have d3 : decide (op ≤ 62) = true := by simp; omega
  have d4 : decide (64512 ≤ op) = false := by simp; omega
  have d5 : decide (op ≤ 64519) = true := by simp; omega
  have d6 : decide (65 ≤ op) = false := by simp; omega
  have d7 : decide (op ≤ 196) = true := by simp; omega
  clear h
  go_enter Tryz.func37, Tryz.ntmps37
  go_wp2_with fail
  go_ret
  exact ⟨rfl, rfl⟩
theorem group_3 (op : Int) (h : 63 ≤ op ∧ op < 65) (w : World) : Calls Tryz.prog 37 #[.int .i64 op] w fun en w' => en = .returned (.int .i64 op) ∧ w' = w := by
  have d0 : decide (40 ≤ op) = true := by simp; omega
  have d1 : decide (op < 54) = false := by simp; omega
  have d2 : decide (54 ≤ op) = true := by simp; omega
  have d3 : decide (op ≤ 62) = false := by simp; omega
  have d4 : decide (64512 ≤ op) = false := by simp; omega
  have d5 : decide (op ≤ 64519) = true := by simp; omega
  have d6 : decide (65 ≤ op) = false := by simp; omega
  have d7 : decide (op ≤ 196) = true := by simp; omega
  clear h
  go_enter Tryz.func37, Tryz.ntmps37
  go_wp2_with fail
  go_ret
  exact ⟨rfl, rfl⟩
theorem group_4 (op : Int) (h : 65 ≤ op ∧ op ≤ 196) (w : World) : Calls Tryz.prog 37 #[.int .i64 op] w fun en w' => en = .returned (.int .i64 65) ∧ w' = w := by
  have d0 : decide (40 ≤ op) = true := by simp; omega
  have d1 : decide (op < 54) = false := by simp; omega
  have d2 : decide (54 ≤ op) = true := by simp; omega
  have d3 : decide (op ≤ 62) = false := by simp; omega
  have d4 : decide (64512 ≤ op) = false := by simp; omega
  have d5 : decide (op ≤ 64519) = true := by simp; omega
  have d6 : decide (65 ≤ op) = true := by simp; omega
  have d7 : decide (op ≤ 196) = true := by simp; omega
  clear h
  go_enter Tryz.func37, Tryz.ntmps37
  go_wp2_with fail
  go_ret
  exact ⟨rfl, rfl⟩
theorem group_5 (op : Int) (h : 197 ≤ op ∧ op < 64512) (w : World) : Calls Tryz.prog 37 #[.int .i64 op] w fun en w' => en = .returned (.int .i64 op) ∧ w' = w := by
  have d0 : decide (40 ≤ op) = true := by simp; omega
  have d1 : decide (op < 54) = false := by simp; omega
  have d2 : decide (54 ≤ op) = true := by simp; omega
  have d3 : decide (op ≤ 62) = false := by simp; omega
  have d4 : decide (64512 ≤ op) = false := by simp; omega
  have d5 : decide (op ≤ 64519) = true := by simp; omega
  have d6 : decide (65 ≤ op) = true := by simp; omega
  have d7 : decide (op ≤ 196) = false := by simp; omega
  clear h
  go_enter Tryz.func37, Tryz.ntmps37
  go_wp2_with fail
  go_ret
  exact ⟨rfl, rfl⟩
theorem group_6 (op : Int) (h : 64512 ≤ op ∧ op ≤ 64519) (w : World) : Calls Tryz.prog 37 #[.int .i64 op] w fun en w' => en = .returned (.int .i64 65) ∧ w' = w := by
  have d0 : decide (40 ≤ op) = true := by simp; omega
  have d1 : decide (op < 54) = false := by simp; omega
  have d2 : decide (54 ≤ op) = true := by simp; omega
  have d3 : decide (op ≤ 62) = false := by simp; omega
  have d4 : decide (64512 ≤ op) = true := by simp; omega
  have d5 : decide (op ≤ 64519) = true := by simp; omega
  have d6 : decide (65 ≤ op) = true := by simp; omega
  have d7 : decide (op ≤ 196) = false := by simp; omega
  clear h
  go_enter Tryz.func37, Tryz.ntmps37
  go_wp2_with fail
  go_ret
  exact ⟨rfl, rfl⟩
theorem group_7 (op : Int) (h : 64519 < op) (w : World) : Calls Tryz.prog 37 #[.int .i64 op] w fun en w' => en = .returned (.int .i64 op) ∧ w' = w := by
  have d0 : decide (40 ≤ op) = true := by simp; omega
  have d1 : decide (op < 54) = false := by simp; omega
  have d2 : decide (54 ≤ op) = true := by simp; omega
  have d3 : decide (op ≤ 62) = false := by simp; omega
  have d4 : decide (64512 ≤ op) = true := by simp; omega
  have d5 : decide (op ≤ 64519) = false := by simp; omega
  have d6 : decide (65 ≤ op) = true := by simp; omega
  have d7 : decide (op ≤ 196) = false := by simp; omega
  clear h
  go_enter Tryz.func37, Tryz.ntmps37
  go_wp2_with fail
  go_ret
  exact ⟨rfl, rfl⟩
theorem group_any (op : Int) (w : World) : Calls Tryz.prog 37 #[.int .i64 op] w fun en w' => en = .returned (.int .i64 (grpF op)) ∧ w' = w := by
  by_cases h0 : op < 40
  · have e : grpF op = op := by unfold grpF; (repeat' split) <;> omega
    rw [e]
    exact group_0 op h0 w
  by_cases h1 : 40 ≤ op ∧ op < 54
  · have e : grpF op = 40 := by unfold grpF; (repeat' split) <;> omega
    rw [e]
    exact group_1 op h1 w
  by_cases h2 : 54 ≤ op ∧ op ≤ 62
  · have e : grpF op = 54 := by unfold grpF; (repeat' split) <;> omega
    rw [e]
    exact group_2 op h2 w
  by_cases h3 : 63 ≤ op ∧ op < 65
  · have e : grpF op = op := by unfold grpF; (repeat' split) <;> omega
    rw [e]
    exact group_3 op h3 w
  by_cases h4 : 65 ≤ op ∧ op ≤ 196
  · have e : grpF op = 65 := by unfold grpF; (repeat' split) <;> omega
    rw [e]
    exact group_4 op h4 w
  by_cases h5 : 197 ≤ op ∧ op < 64512
  · have e : grpF op = op := by unfold grpF; (repeat' split) <;> omega
    rw [e]
    exact group_5 op h5 w
  by_cases h6 : 64512 ≤ op ∧ op ≤ 64519
  · have e : grpF op = 65 := by unfold grpF; (repeat' split) <;> omega
    rw [e]
    exact group_6 op h6 w
  have h7 : 64519 < op := by omega
  have e : grpF op = op := by unfold grpF; (repeat' split) <;> omega
  rw [e]
  exact group_7 op h7 w
theorem takes_0 (op : Int) (h : op < 26) (w : World) : Calls Tryz.prog 16 #[.int .i64 op] w fun en w' => en = .returned (.bool false) ∧ w' = w := by
  have d0 : decide (32 ≤ op) = false := by simp; omega
  have d1 : decide (op ≤ 38) = true := by simp; omega
  have d2 : decide (40 ≤ op) = false := by simp; omega
  have d3 : decide (op ≤ 196) = true := by simp; omega
  have d4 : decide (64512 ≤ op) = false := by simp; omega
  have d5 : decide (op ≤ 64529) = true := by simp; omega
  have e0 : (op == 26) = false := by simp; omega
  have f0 : decide (op = 26) = false := by simp; omega
  have e1 : (op == 27) = false := by simp; omega
  have f1 : decide (op = 27) = false := by simp; omega
  have e2 : (op == 28) = false := by simp; omega
  have f2 : decide (op = 28) = false := by simp; omega
  clear h
  go_enter Tryz.func16, Tryz.ntmps16
  go_wp2_with fail
  go_ret
  exact ⟨rfl, rfl⟩
theorem takes_1 (op : Int) (h : op = 26) (w : World) : Calls Tryz.prog 16 #[.int .i64 op] w fun en w' => en = .returned (.bool true) ∧ w' = w := by
  subst h
  go_enter Tryz.func16, Tryz.ntmps16
  go_wp2_with fail
  go_ret
  exact ⟨rfl, rfl⟩
theorem takes_2 (op : Int) (h : op = 27) (w : World) : Calls Tryz.prog 16 #[.int .i64 op] w fun en w' => en = .returned (.bool true) ∧ w' = w := by
  subst h
  go_enter Tryz.func16, Tryz.ntmps16
  go_wp2_with fail
  go_ret
  exact ⟨rfl, rfl⟩
theorem takes_3 (op : Int) (h : op = 28) (w : World) : Calls Tryz.prog 16 #[.int .i64 op] w fun en w' => en = .returned (.bool true) ∧ w' = w := by
  subst h
  go_enter Tryz.func16, Tryz.ntmps16
  go_wp2_with fail
  go_ret
  exact ⟨rfl, rfl⟩
theorem takes_4 (op : Int) (h : 28 < op ∧ op < 32) (w : World) : Calls Tryz.prog 16 #[.int .i64 op] w fun en w' => en = .returned (.bool false) ∧ w' = w := by
  have d0 : decide (32 ≤ op) = false := by simp; omega
  have d1 : decide (op ≤ 38) = true := by simp; omega
  have d2 : decide (40 ≤ op) = false := by simp; omega
  have d3 : decide (op ≤ 196) = true := by simp; omega
  have d4 : decide (64512 ≤ op) = false := by simp; omega
  have d5 : decide (op ≤ 64529) = true := by simp; omega
  have e0 : (op == 26) = false := by simp; omega
  have f0 : decide (op = 26) = false := by simp; omega
  have e1 : (op == 27) = false := by simp; omega
  have f1 : decide (op = 27) = false := by simp; omega
  have e2 : (op == 28) = false := by simp; omega
  have f2 : decide (op = 28) = false := by simp; omega
  clear h
  go_enter Tryz.func16, Tryz.ntmps16
  go_wp2_with fail
  go_ret
  exact ⟨rfl, rfl⟩
theorem takes_5 (op : Int) (h : 32 ≤ op ∧ op ≤ 38) (w : World) : Calls Tryz.prog 16 #[.int .i64 op] w fun en w' => en = .returned (.bool true) ∧ w' = w := by
  have d0 : decide (32 ≤ op) = true := by simp; omega
  have d1 : decide (op ≤ 38) = true := by simp; omega
  have d2 : decide (40 ≤ op) = false := by simp; omega
  have d3 : decide (op ≤ 196) = true := by simp; omega
  have d4 : decide (64512 ≤ op) = false := by simp; omega
  have d5 : decide (op ≤ 64529) = true := by simp; omega
  have e0 : (op == 26) = false := by simp; omega
  have f0 : decide (op = 26) = false := by simp; omega
  have e1 : (op == 27) = false := by simp; omega
  have f1 : decide (op = 27) = false := by simp; omega
  have e2 : (op == 28) = false := by simp; omega
  have f2 : decide (op = 28) = false := by simp; omega
  clear h
  go_enter Tryz.func16, Tryz.ntmps16
  go_wp2_with fail
  go_ret
  exact ⟨rfl, rfl⟩
theorem takes_6 (op : Int) (h : op = 39) (w : World) : Calls Tryz.prog 16 #[.int .i64 op] w fun en w' => en = .returned (.bool false) ∧ w' = w := by
  subst h
  go_enter Tryz.func16, Tryz.ntmps16
  go_wp2_with fail
  go_ret
  exact ⟨rfl, rfl⟩
theorem takes_7 (op : Int) (h : 40 ≤ op ∧ op ≤ 196) (w : World) : Calls Tryz.prog 16 #[.int .i64 op] w fun en w' => en = .returned (.bool true) ∧ w' = w := by
  have d0 : decide (32 ≤ op) = true := by simp; omega
  have d1 : decide (op ≤ 38) = false := by simp; omega
  have d2 : decide (40 ≤ op) = true := by simp; omega
  have d3 : decide (op ≤ 196) = true := by simp; omega
  have d4 : decide (64512 ≤ op) = false := by simp; omega
  have d5 : decide (op ≤ 64529) = true := by simp; omega
  have e0 : (op == 26) = false := by simp; omega
  have f0 : decide (op = 26) = false := by simp; omega
  have e1 : (op == 27) = false := by simp; omega
  have f1 : decide (op = 27) = false := by simp; omega
  have e2 : (op == 28) = false := by simp; omega
  have f2 : decide (op = 28) = false := by simp; omega
  clear h
  go_enter Tryz.func16, Tryz.ntmps16
  go_wp2_with fail
  go_ret
  exact ⟨rfl, rfl⟩
theorem takes_8 (op : Int) (h : 196 < op ∧ op < 64512) (w : World) : Calls Tryz.prog 16 #[.int .i64 op] w fun en w' => en = .returned (.bool false) ∧ w' = w := by
  have d0 : decide (32 ≤ op) = true := by simp; omega
  have d1 : decide (op ≤ 38) = false := by simp; omega
  have d2 : decide (40 ≤ op) = true := by simp; omega
  have d3 : decide (op ≤ 196) = false := by simp; omega
  have d4 : decide (64512 ≤ op) = false := by simp; omega
  have d5 : decide (op ≤ 64529) = true := by simp; omega
  have e0 : (op == 26) = false := by simp; omega
  have f0 : decide (op = 26) = false := by simp; omega
  have e1 : (op == 27) = false := by simp; omega
  have f1 : decide (op = 27) = false := by simp; omega
  have e2 : (op == 28) = false := by simp; omega
  have f2 : decide (op = 28) = false := by simp; omega
  clear h
  go_enter Tryz.func16, Tryz.ntmps16
  go_wp2_with fail
  go_ret
  exact ⟨rfl, rfl⟩
theorem takes_9 (op : Int) (h : 64512 ≤ op ∧ op ≤ 64529) (w : World) : Calls Tryz.prog 16 #[.int .i64 op] w fun en w' => en = .returned (.bool true) ∧ w' = w := by
  have d0 : decide (32 ≤ op) = true := by simp; omega
  have d1 : decide (op ≤ 38) = false := by simp; omega
  have d2 : decide (40 ≤ op) = true := by simp; omega
  have d3 : decide (op ≤ 196) = false := by simp; omega
  have d4 : decide (64512 ≤ op) = true := by simp; omega
  have d5 : decide (op ≤ 64529) = true := by simp; omega
  have e0 : (op == 26) = false := by simp; omega
  have f0 : decide (op = 26) = false := by simp; omega
  have e1 : (op == 27) = false := by simp; omega
  have f1 : decide (op = 27) = false := by simp; omega
  have e2 : (op == 28) = false := by simp; omega
  have f2 : decide (op = 28) = false := by simp; omega
  clear h
  go_enter Tryz.func16, Tryz.ntmps16
  go_wp2_with fail
  go_ret
  exact ⟨rfl, rfl⟩
theorem takes_10 (op : Int) (h : 64529 < op) (w : World) : Calls Tryz.prog 16 #[.int .i64 op] w fun en w' => en = .returned (.bool false) ∧ w' = w := by
  have d0 : decide (32 ≤ op) = true := by simp; omega
  have d1 : decide (op ≤ 38) = false := by simp; omega
  have d2 : decide (40 ≤ op) = true := by simp; omega
  have d3 : decide (op ≤ 196) = false := by simp; omega
  have d4 : decide (64512 ≤ op) = true := by simp; omega
  have d5 : decide (op ≤ 64529) = false := by simp; omega
  have e0 : (op == 26) = false := by simp; omega
  have f0 : decide (op = 26) = false := by simp; omega
  have e1 : (op == 27) = false := by simp; omega
  have f1 : decide (op = 27) = false := by simp; omega
  have e2 : (op == 28) = false := by simp; omega
  have f2 : decide (op = 28) = false := by simp; omega
  clear h
  go_enter Tryz.func16, Tryz.ntmps16
  go_wp2_with fail
  go_ret
  exact ⟨rfl, rfl⟩
theorem takes_any (op : Int) (w : World) : Calls Tryz.prog 16 #[.int .i64 op] w fun en w' => en = .returned (.bool (takesB op)) ∧ w' = w := by
  by_cases h0 : op < 26
  · have e : takesB op = false := by simp [takesB]; omega
    rw [e]
    exact takes_0 op h0 w
  by_cases h1 : op = 26
  · have e : takesB op = true := by simp [takesB]; omega
    rw [e]
    exact takes_1 op h1 w
  by_cases h2 : op = 27
  · have e : takesB op = true := by simp [takesB]; omega
    rw [e]
    exact takes_2 op h2 w
  by_cases h3 : op = 28
  · have e : takesB op = true := by simp [takesB]; omega
    rw [e]
    exact takes_3 op h3 w
  by_cases h4 : 28 < op ∧ op < 32
  · have e : takesB op = false := by simp [takesB]; omega
    rw [e]
    exact takes_4 op h4 w
  by_cases h5 : 32 ≤ op ∧ op ≤ 38
  · have e : takesB op = true := by simp [takesB]; omega
    rw [e]
    exact takes_5 op h5 w
  by_cases h6 : op = 39
  · have e : takesB op = false := by simp [takesB]; omega
    rw [e]
    exact takes_6 op h6 w
  by_cases h7 : 40 ≤ op ∧ op ≤ 196
  · have e : takesB op = true := by simp [takesB]; omega
    rw [e]
    exact takes_7 op h7 w
  by_cases h8 : 196 < op ∧ op < 64512
  · have e : takesB op = false := by simp [takesB]; omega
    rw [e]
    exact takes_8 op h8 w
  by_cases h9 : 64512 ≤ op ∧ op ≤ 64529
  · have e : takesB op = true := by simp [takesB]; omega
    rw [e]
    exact takes_9 op h9 w
  have h10 : 64529 < op := by omega
  have e : takesB op = false := by simp [takesB]; omega
  rw [e]
  exact takes_10 op h10 w
/- A block of three cells behind a call. -/
theorem vfresh3 {w w1 : World} {t : TypeId} {a b c : Value} (g : Grew (w.alloc (.cells #[a, b, c] t)) w1) :
    Grew w w1 ∧ w.heap.size < w1.heap.size ∧ w1.cell? ⟨w.heap.size, 0, none⟩ = some a ∧ w1.cell? ⟨w.heap.size, 1, none⟩ = some b ∧ w1.cell? ⟨w.heap.size, 2, none⟩ = some c ∧
    w1.frozen? ⟨w.heap.size, 0, none⟩ = false ∧ w1.frozen? ⟨w.heap.size, 1, none⟩ = false ∧ w1.frozen? ⟨w.heap.size, 2, none⟩ = false := by
  have B1 := (g.turn []).other (heap_alloc_last w (.cells #[a, b, c] t)) (by simp)
  refine ⟨((Grew.refl w).alloc _).trans g, lt_of_obj B1, ?_, ?_, ?_, free_of B1 0, free_of B1 1, free_of B1 2⟩
  · rw [cell_of B1]; rfl
  · rw [cell_of B1]; rfl
  · rw [cell_of B1]; rfl
def TI : Int → Value := fun n => .agg #[.int .i64 n, .bool false, .int .i64 0]
theorem i32_any (w : World) : Calls Tryz.prog 137 #[] w fun en w' => en = .returned (TI 1) ∧ Grew w w' := by
  go_enter Tryz.func137, Tryz.ntmps137
  go_wp2_with fail
  refine bodyPost_ret (v := TI 1) (by simp [TI, results, Tryz.results137, go_sem]) rfl ?_
  exact ⟨rfl, by repeat (first | with_reducible exact .refl _ | refine .alloc ?_ _ | refine .set ?_ (by simp) _)⟩
def adT (wd : Bool) : Value := TI (if wd then 2 else 1)
theorem saddr_any (wd : Bool) (a b : Int) (h : Bool) (w : World) : Calls Tryz.prog 55 #[.agg #[.bool wd, .int .u64 a, .int .u64 b, .bool h]] w fun en w' => en = .returned (adT wd) ∧ Grew w w' := by
  have C1 : Hid (∀ W, Calls Tryz.prog 137 #[] W fun en w' => en = .returned (TI 1) ∧ Grew W w') := i32_any
  unfold TI at C1
  cases wd with
  | true =>
    go_enter Tryz.func55, Tryz.ntmps55
    go_wp2_with fail
    refine bodyPost_ret (v := adT true) (by simp [adT, TI, results, Tryz.results55, go_sem]) rfl ?_
    exact ⟨rfl, by repeat (first | with_reducible exact .refl _ | refine .alloc ?_ _ | refine .set ?_ (by simp) _)⟩
  | false =>
    go_enter Tryz.func55, Tryz.ntmps55
    go_wp2_with fail
    refine (C1.out _).mono ?_
    rintro e w1 ⟨rfl, g1⟩
    obtain ⟨gg, hl, n0, n1, n2, z0, z1, z2⟩ := vfresh3 g1
    have G1 : Hid (Grew w w1) := ((Grew.refl w).alloc _).trans gg
    clear g1 gg C1
    rw [alloc_size] at *
    go_wp2_with fail
    refine bodyPost_ret (v := adT false) (by simp [adT, TI, results, Tryz.results55, go_sem, n0, n1, n2]) rfl ?_
    exact ⟨rfl, ((G1.out.set (p := ⟨w.heap.size + 1, 0, none⟩) (Nat.le_succ _) _).set (p := ⟨w.heap.size + 1, 1, none⟩) (Nat.le_succ _) _).set (p := ⟨w.heap.size + 1, 2, none⟩) (Nat.le_succ _) _⟩
theorem addr_any (wd : Bool) (a b : Int) (h : Bool) (w : World) : Calls Tryz.prog 27 #[.agg #[.bool wd, .int .u64 a, .int .u64 b, .bool h]] w fun en w' => en = .returned (adT wd) ∧ Grew w w' := by
  have C1 : Hid (∀ W, Calls Tryz.prog 55 #[.agg #[.bool wd, .int .u64 a, .int .u64 b, .bool h]] W fun en w' => en = .returned (adT wd) ∧ Grew W w') := fun W => saddr_any wd a b h W
  unfold adT TI at C1 ⊢
  generalize (if wd then (2 : Int) else 1) = q at *
  go_enter Tryz.func27, Tryz.ntmps27
  go_wp2_with fail
  refine (C1.out _).mono ?_
  rintro e w1 ⟨rfl, g1⟩
  obtain ⟨gg, hl, n0, n1, n2, z0, z1, z2⟩ := vfresh3 g1
  have G1 : Hid (Grew w w1) := ((Grew.refl w).alloc _).trans gg
  clear g1 gg C1
  rw [alloc_size] at *
  go_wp2_with fail
  refine bodyPost_ret (v := .agg #[.int .i64 q, .bool false, .int .i64 0]) (by simp [results, Tryz.results27, go_sem, n0, n1, n2]) rfl ?_
  exact ⟨rfl, ((G1.out.set (p := ⟨w.heap.size + 1, 0, none⟩) (Nat.le_succ _) _).set (p := ⟨w.heap.size + 1, 1, none⟩) (Nat.le_succ _) _).set (p := ⟨w.heap.size + 1, 2, none⟩) (Nat.le_succ _) _⟩
theorem least_any (wa : Bool) (a1 a2 : Int) (a3 : Bool) (wb : Bool) (b1 b2 : Int) (b3 : Bool) (w : World) : Calls Tryz.prog 157 #[.agg #[.bool wa, .int .u64 a1, .int .u64 a2, .bool a3], .agg #[.bool wb, .int .u64 b1, .int .u64 b2, .bool b3]] w fun en w' => en = .returned (adT (wa && wb)) ∧ Grew w w' := by
  have C1 : Hid (∀ wd a b h W, Calls Tryz.prog 27 #[.agg #[.bool wd, .int .u64 a, .int .u64 b, .bool h]] W fun en w' => en = .returned (adT wd) ∧ Grew W w') := addr_any
  unfold adT TI at C1
  cases wa <;> cases wb
  all_goals
    go_enter Tryz.func157, Tryz.ntmps157
    go_wp2_with fail
    refine (C1.out _ _ _ _ _).mono ?_
    rintro e w1 ⟨rfl, g1⟩
    obtain ⟨gg, hl, n0, n1, n2, z0, z1, z2⟩ := vfresh3 g1
    have G1 : Hid (Grew w w1) := (((Grew.refl w).alloc _).alloc _).trans gg
    clear g1 gg C1
    rw [alloc_size, alloc_size] at *
    go_wp2_with fail
    first
    | (refine bodyPost_ret (v := TI 1) (by simp [adT, TI, results, Tryz.results157, go_sem, n0, n1, n2]) rfl ?_
       exact ⟨rfl, ((G1.out.set (p := ⟨w.heap.size + 1 + 1, 0, none⟩) (by simp; omega) _).set (p := ⟨w.heap.size + 1 + 1, 1, none⟩) (by simp; omega) _).set (p := ⟨w.heap.size + 1 + 1, 2, none⟩) (by simp; omega) _⟩)
    | (refine bodyPost_ret (v := TI 2) (by simp [adT, TI, results, Tryz.results157, go_sem, n0, n1, n2]) rfl ?_
       exact ⟨rfl, ((G1.out.set (p := ⟨w.heap.size + 1 + 1, 0, none⟩) (by simp; omega) _).set (p := ⟨w.heap.size + 1 + 1, 1, none⟩) (by simp; omega) _).set (p := ⟨w.heap.size + 1 + 1, 2, none⟩) (by simp; omega) _⟩)
theorem list_any (v : Value) (w : World) : Calls Tryz.prog 144 #[v] w fun en w' => en = .returned v ∧ w' = w := by
  go_enter Tryz.func144, Tryz.ntmps144
  go_wp2_with fail
  go_ret
  exact ⟨rfl, rfl⟩
def namE (e : Int) : Int := if e = 1 then 150 else e
theorem named_any (n h : Int) (z : Bool) (e : Int) (w : World) : Calls Tryz.prog 147 #[.agg #[.int .i64 n, .bool z, .int .i64 h], .int .i64 e] w fun en w' => en = .returned (.tuple #[.agg #[.int .i64 n, .bool z, .int .i64 h], .int .i64 (namE e)]) ∧ Grew w w' := by
  by_cases he : e = 1
  · subst he
    go_enter Tryz.func147, Tryz.ntmps147
    go_wp2_with fail
    refine bodyPost_ret (v := .tuple #[.agg #[.int .i64 n, .bool z, .int .i64 h], .int .i64 (namE 1)]) (by simp [results, Tryz.results147, go_sem, namE]) rfl ?_
    exact ⟨rfl, by repeat (first | with_reducible exact .refl _ | refine .alloc ?_ _ | refine .set ?_ (by simp) _)⟩
  · have d1 : (e == 1) = false := by simp [he]
    have e1 : namE e = e := if_neg he
    rw [e1]
    clear he e1
    go_enter Tryz.func147, Tryz.ntmps147
    go_wp2_with fail
    refine bodyPost_ret (v := .tuple #[.agg #[.int .i64 n, .bool z, .int .i64 h], .int .i64 e]) (by simp [results, Tryz.results147, go_sem]) rfl ?_
    exact ⟨rfl, by repeat (first | with_reducible exact .refl _ | refine .alloc ?_ _ | refine .set ?_ (by simp) _)⟩
end Go.Proofs.YtikaidokllnifaaGreatDoor
