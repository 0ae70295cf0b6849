/-
  The walks of inum's small functions; no statement is proved here.
-/
import Derived.Test.YtolllelejdnjlaaDoorWorld
import Derived.Test.YtolllelejdnjlaaDoorPlain
namespace Go.Proofs.YtolllelejdnjlaaDoor
open Go.RowKit
set_option linter.unusedVariables false
set_option linter.unusedSimpArgs false

set_option maxRecDepth 100000 in
theorem find_0 (op : Int) (w : World) (h : 80 ≤ op ∧ op ≤ 90) :
    Calls Tryd.prog 11 #[.int .i64 op] w fun e w' => e = .returned (.agg #[.int .i64 (op - 79), .int .i64 2, .int .i64 1]) ∧ Grew w w' := by
  obtain ⟨c2, c3⟩ := h
  go_enter Tryd.func11, Tryd.ntmps11
  go_wp2
  refine bodyPost_ret (v := .agg #[.int .i64 (op - 79), .int .i64 2, .int .i64 1]) (by simp [results, Tryd.results11, go_sem]; try omega) rfl ⟨rfl, ?_⟩
  go_light
  repeat (first | exact Grew.refl _ | refine Grew.drew ?_ | refine Grew.alloc ?_ _ | refine Grew.set ?_ (by simp) _)
set_option maxRecDepth 100000 in
theorem find_1 (op : Int) (w : World) (h : 69 ≤ op ∧ op ≤ 79) :
    Calls Tryd.prog 11 #[.int .i64 op] w fun e w' => e = .returned (.agg #[.int .i64 (op - 68), .int .i64 1, .int .i64 1]) ∧ Grew w w' := by
  obtain ⟨c2, c3⟩ := h
  go_enter Tryd.func11, Tryd.ntmps11
  go_wp2
  refine bodyPost_ret (v := .agg #[.int .i64 (op - 68), .int .i64 1, .int .i64 1]) (by simp [results, Tryd.results11, go_sem]; try omega) rfl ⟨rfl, ?_⟩
  go_light
  repeat (first | exact Grew.refl _ | refine Grew.drew ?_ | refine Grew.alloc ?_ _ | refine Grew.set ?_ (by simp) _)
set_option maxRecDepth 100000 in
theorem find_2 (op : Int) (w : World) (h : 121 ≤ op ∧ op ≤ 138) :
    Calls Tryd.prog 11 #[.int .i64 op] w fun e w' => e = .returned (.agg #[.int .i64 (op - 109), .int .i64 2, .int .i64 2]) ∧ Grew w w' := by
  obtain ⟨c2, c3⟩ := h
  go_enter Tryd.func11, Tryd.ntmps11
  go_wp2
  refine bodyPost_ret (v := .agg #[.int .i64 (op - 109), .int .i64 2, .int .i64 2]) (by simp [results, Tryd.results11, go_sem]; try omega) rfl ⟨rfl, ?_⟩
  go_light
  repeat (first | exact Grew.refl _ | refine Grew.drew ?_ | refine Grew.alloc ?_ _ | refine Grew.set ?_ (by simp) _)
set_option maxRecDepth 100000 in
theorem find_3 (op : Int) (w : World) (h : 103 ≤ op ∧ op ≤ 120) :
    Calls Tryd.prog 11 #[.int .i64 op] w fun e w' => e = .returned (.agg #[.int .i64 (op - 91), .int .i64 1, .int .i64 1]) ∧ Grew w w' := by
  obtain ⟨c2, c3⟩ := h
  go_enter Tryd.func11, Tryd.ntmps11
  go_wp2
  refine bodyPost_ret (v := .agg #[.int .i64 (op - 91), .int .i64 1, .int .i64 1]) (by simp [results, Tryd.results11, go_sem]; try omega) rfl ⟨rfl, ?_⟩
  go_light
  repeat (first | exact Grew.refl _ | refine Grew.drew ?_ | refine Grew.alloc ?_ _ | refine Grew.set ?_ (by simp) _)
set_option maxRecDepth 100000 in
theorem find_4 (op : Int) (w : World) (h : 194 ≤ op ∧ op ≤ 196) :
    Calls Tryd.prog 11 #[.int .i64 op] w fun e w' => e = .returned (.agg #[.int .i64 (op - 164), .int .i64 2, .int .i64 2]) ∧ Grew w w' := by
  obtain ⟨c2, c3⟩ := h
  go_enter Tryd.func11, Tryd.ntmps11
  go_wp2
  refine bodyPost_ret (v := .agg #[.int .i64 (op - 164), .int .i64 2, .int .i64 2]) (by simp [results, Tryd.results11, go_sem]; try omega) rfl ⟨rfl, ?_⟩
  go_light
  repeat (first | exact Grew.refl _ | refine Grew.drew ?_ | refine Grew.alloc ?_ _ | refine Grew.set ?_ (by simp) _)
set_option maxRecDepth 100000 in
theorem find_5 (op : Int) (w : World) (h : 192 ≤ op ∧ op ≤ 193) :
    Calls Tryd.prog 11 #[.int .i64 op] w fun e w' => e = .returned (.agg #[.int .i64 (op - 162), .int .i64 1, .int .i64 1]) ∧ Grew w w' := by
  obtain ⟨c2, c3⟩ := h
  go_enter Tryd.func11, Tryd.ntmps11
  go_wp2
  refine bodyPost_ret (v := .agg #[.int .i64 (op - 162), .int .i64 1, .int .i64 1]) (by simp [results, Tryd.results11, go_sem]; try omega) rfl ⟨rfl, ?_⟩
  go_light
  repeat (first | exact Grew.refl _ | refine Grew.drew ?_ | refine Grew.alloc ?_ _ | refine Grew.set ?_ (by simp) _)
set_option maxRecDepth 100000 in
theorem find_6 (op : Int) (w : World) (h : op = 167) :
    Calls Tryd.prog 11 #[.int .i64 op] w fun e w' => e = .returned (.agg #[.int .i64 (33), .int .i64 2, .int .i64 1]) ∧ Grew w w' := by
  subst h
  go_enter Tryd.func11, Tryd.ntmps11
  go_wp2
  refine bodyPost_ret (v := .agg #[.int .i64 (33), .int .i64 2, .int .i64 1]) (by simp [results, Tryd.results11, go_sem]) rfl ⟨rfl, ?_⟩
  go_light
  repeat (first | exact Grew.refl _ | refine Grew.drew ?_ | refine Grew.alloc ?_ _ | refine Grew.set ?_ (by simp) _)
set_option maxRecDepth 100000 in
theorem find_7 (op : Int) (w : World) (h : 172 ≤ op ∧ op ≤ 173) :
    Calls Tryd.prog 11 #[.int .i64 op] w fun e w' => e = .returned (.agg #[.int .i64 (op - 138), .int .i64 1, .int .i64 2]) ∧ Grew w w' := by
  obtain ⟨c2, c3⟩ := h
  go_enter Tryd.func11, Tryd.ntmps11
  go_wp2
  refine bodyPost_ret (v := .agg #[.int .i64 (op - 138), .int .i64 1, .int .i64 2]) (by simp [results, Tryd.results11, go_sem]; try omega) rfl ⟨rfl, ?_⟩
  go_light
  repeat (first | exact Grew.refl _ | refine Grew.drew ?_ | refine Grew.alloc ?_ _ | refine Grew.set ?_ (by simp) _)
set_option maxRecDepth 100000 in
theorem find_none (op : Int) (w : World) (h0 : -9223372036854775808 ≤ op) (h1 : op ≤ 9223372036854775807) (n0 : ¬ (80 ≤ op ∧ op ≤ 90)) (n1 : ¬ (69 ≤ op ∧ op ≤ 79)) (n2 : ¬ (121 ≤ op ∧ op ≤ 138)) (n3 : ¬ (103 ≤ op ∧ op ≤ 120)) (n4 : ¬ (194 ≤ op ∧ op ≤ 196)) (n5 : ¬ (192 ≤ op ∧ op ≤ 193)) (n6 : ¬ (op = 167)) (n7 : ¬ (172 ≤ op ∧ op ≤ 173)) :
    Calls Tryd.prog 11 #[.int .i64 op] w fun e w' => e = .returned (.agg #[.int .i64 0, .int .i64 1, .int .i64 1]) ∧ Grew w w' := by
  go_enter Tryd.func11, Tryd.ntmps11
  go_wp2
  all_goals first
    | (exfalso; go_light; omega)
    | (refine bodyPost_ret (v := .agg #[.int .i64 0, .int .i64 1, .int .i64 1]) (by simp [results, Tryd.results11, go_sem]) rfl ⟨rfl, ?_⟩
       go_light
       repeat (first | exact Grew.refl _ | refine Grew.drew ?_ | refine Grew.alloc ?_ _ | refine Grew.set ?_ (by simp) _))
theorem find_any (op : Int) (w : World) (h0 : -9223372036854775808 ≤ op) (h1 : op ≤ 9223372036854775807) :
    Calls Tryd.prog 11 #[.int .i64 op] w fun e w' => e = .returned (.agg #[.int .i64 (kd op), .int .i64 (tk op), .int .i64 (gv op)]) ∧ Grew w w' := by
  by_cases c0 : 80 ≤ op ∧ op ≤ 90
  · have hk : kd op = op - 79 := by unfold kd; repeat (first | rw [if_pos c0] | rw [if_neg (by omega)])
    have ht : tk op = 2 := by unfold tk; rw [if_pos (by omega)]
    have hg : gv op = 1 := by unfold gv; rw [if_neg (by omega)]
    rw [hk, ht, hg]
    exact find_0 op w c0
  by_cases c1 : 69 ≤ op ∧ op ≤ 79
  · have hk : kd op = op - 68 := by unfold kd; repeat (first | rw [if_pos c1] | rw [if_neg (by omega)])
    have ht : tk op = 1 := by unfold tk; rw [if_neg (by omega)]
    have hg : gv op = 1 := by unfold gv; rw [if_neg (by omega)]
    rw [hk, ht, hg]
    exact find_1 op w c1
  by_cases c2 : 121 ≤ op ∧ op ≤ 138
  · have hk : kd op = op - 109 := by unfold kd; repeat (first | rw [if_pos c2] | rw [if_neg (by omega)])
    have ht : tk op = 2 := by unfold tk; rw [if_pos (by omega)]
    have hg : gv op = 2 := by unfold gv; rw [if_pos (by omega)]
    rw [hk, ht, hg]
    exact find_2 op w c2
  by_cases c3 : 103 ≤ op ∧ op ≤ 120
  · have hk : kd op = op - 91 := by unfold kd; repeat (first | rw [if_pos c3] | rw [if_neg (by omega)])
    have ht : tk op = 1 := by unfold tk; rw [if_neg (by omega)]
    have hg : gv op = 1 := by unfold gv; rw [if_neg (by omega)]
    rw [hk, ht, hg]
    exact find_3 op w c3
  by_cases c4 : 194 ≤ op ∧ op ≤ 196
  · have hk : kd op = op - 164 := by unfold kd; repeat (first | rw [if_pos c4] | rw [if_neg (by omega)])
    have ht : tk op = 2 := by unfold tk; rw [if_pos (by omega)]
    have hg : gv op = 2 := by unfold gv; rw [if_pos (by omega)]
    rw [hk, ht, hg]
    exact find_4 op w c4
  by_cases c5 : 192 ≤ op ∧ op ≤ 193
  · have hk : kd op = op - 162 := by unfold kd; repeat (first | rw [if_pos c5] | rw [if_neg (by omega)])
    have ht : tk op = 1 := by unfold tk; rw [if_neg (by omega)]
    have hg : gv op = 1 := by unfold gv; rw [if_neg (by omega)]
    rw [hk, ht, hg]
    exact find_5 op w c5
  by_cases c6 : op = 167
  · have hk : kd op = 33 := by unfold kd; repeat (first | rw [if_pos c6] | rw [if_neg (by omega)])
    have ht : tk op = 2 := by unfold tk; rw [if_pos (by omega)]
    have hg : gv op = 1 := by unfold gv; rw [if_neg (by omega)]
    rw [hk, ht, hg]
    exact find_6 op w c6
  by_cases c7 : 172 ≤ op ∧ op ≤ 173
  · have hk : kd op = op - 138 := by unfold kd; repeat (first | rw [if_pos c7] | rw [if_neg (by omega)])
    have ht : tk op = 1 := by unfold tk; rw [if_neg (by omega)]
    have hg : gv op = 2 := by unfold gv; rw [if_pos (by omega)]
    rw [hk, ht, hg]
    exact find_7 op w c7
  have hk : kd op = 0 := by unfold kd; repeat (rw [if_neg (by omega)])
  have ht : tk op = 1 := by unfold tk; rw [if_neg (by omega)]
  have hg : gv op = 1 := by unfold gv; rw [if_neg (by omega)]
  rw [hk, ht, hg]
  exact find_none op w h0 h1 c0 c1 c2 c3 c4 c5 c6 c7
end Go.Proofs.YtolllelejdnjlaaDoor
