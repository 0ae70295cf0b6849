/-
  The walks of inum's small functions on values; no statement is proved here.
-/
import Derived.Test.YtolllelejdnjlaaDoorWorld
import Derived.Test.YtolllelejdnjlaaDoorPlain
namespace Go.Proofs.YtolllelejdnjlaaDoor
open Go.RowKit
set_option linter.unusedVariables false
set_option linter.unusedSimpArgs false

def opV (k t g : Int) : Value := .agg #[.int .i64 k, .int .i64 t, .int .i64 g]

set_option maxRecDepth 100000 in
theorem arity_any (k : Int) (w : World) : Calls Tryd.prog 12 #[.int .i64 k] w fun e w' => e = .returned (.int .i64 (ark k)) ∧ w' = w := by
  by_cases h0 : k = 0
  · subst h0
    go_enter Tryd.func12, Tryd.ntmps12
    go_wp2
    go_ret
    exact ⟨rfl, rfl⟩
  by_cases h1 : k = 1 ∨ k = 12 ∨ k = 13 ∨ k = 14 ∨ (30 ≤ k ∧ k ≤ 35)
  · have e : ark k = 1 := by unfold ark; rw [if_neg h0, if_pos h1]
    rw [e]
    have hh : k = 1 ∨ k = 12 ∨ k = 13 ∨ k = 14 ∨ k = 30 ∨ k = 31 ∨ k = 32 ∨ k = 33 ∨ k = 34 ∨ k = 35 := by omega
    clear e h0 h1
    rcases hh with rfl | rfl | rfl | rfl | rfl | rfl | rfl | rfl | rfl | rfl <;>
    · go_enter Tryd.func12, Tryd.ntmps12
      go_wp2
      go_ret
      exact ⟨rfl, rfl⟩
  · have e : ark k = 2 := by unfold ark; rw [if_neg h0, if_neg h1]
    rw [e]
    have n0 : (k == 0) = false := beq_eq_false_iff_ne.2 (by omega)
    have n1 : (k == 1) = false := beq_eq_false_iff_ne.2 (by omega)
    have n2 : (k == 12) = false := beq_eq_false_iff_ne.2 (by omega)
    have n3 : (k == 13) = false := beq_eq_false_iff_ne.2 (by omega)
    have n4 : (k == 14) = false := beq_eq_false_iff_ne.2 (by omega)
    have n5 : (k == 30) = false := beq_eq_false_iff_ne.2 (by omega)
    have n6 : (k == 31) = false := beq_eq_false_iff_ne.2 (by omega)
    have n7 : (k == 32) = false := beq_eq_false_iff_ne.2 (by omega)
    have n8 : (k == 33) = false := beq_eq_false_iff_ne.2 (by omega)
    have n9 : (k == 34) = false := beq_eq_false_iff_ne.2 (by omega)
    have n10 : (k == 35) = false := beq_eq_false_iff_ne.2 (by omega)
    clear e h0 h1
    go_enter Tryd.func12, Tryd.ntmps12
    go_wp2
    go_ret
    exact ⟨rfl, rfl⟩

set_option maxRecDepth 100000 in
theorem cut_any (n t : Int) (w : World) (ht : t = 1 ∨ t = 2) (h0 : 0 ≤ n) (h1 : n < 18446744073709551616) :
    Calls Tryd.prog 13 #[.int .u64 n, .int .i64 t] w fun e w' => e = .returned (.int .u64 (ct t n)) ∧ w' = w := by
  rcases ht with rfl | rfl <;> unfold ct <;> simp only [if_pos, reduceIte, show ¬ ((2 : Int) = 1) from by decide] <;> go_enter Tryd.func13, Tryd.ntmps13 <;> go_wp2 <;> go_ret
  · exact ⟨by simp, rfl⟩
  · exact ⟨rfl, rfl⟩

set_option maxRecDepth 100000 in
theorem divides_any (k : Int) (w : World) : Calls Tryd.prog 29 #[.int .i64 k] w fun e w' => e = .returned (.bool (decide (18 ≤ k ∧ k ≤ 21))) ∧ w' = w := by
  go_enter Tryd.func29, Tryd.ntmps29
  go_wp2
  all_goals go_ret
  all_goals exact ⟨by simp; omega, rfl⟩

def opO (k t g : Int) : Obj := .cells #[.int .i64 k, .int .i64 t, .int .i64 g] 36
set_option maxRecDepth 100000 in
theorem width_x (k t g : Int) (w : World) (ht : t = 1 ∨ t = 2) : Calls Tryd.prog 24 #[.agg #[.int .i64 k, .int .i64 t, .int .i64 g]] w fun e w' => e = .returned (.int .i64 (wd t)) ∧ w' = w.alloc (.cells #[.int .i64 k, .int .i64 t, .int .i64 g] 36) := by
  rcases ht with rfl | rfl <;> go_enter Tryd.func24, Tryd.ntmps24 <;> go_wp2 <;> go_ret <;> exact ⟨rfl, rfl⟩

set_option maxRecDepth 100000 in
theorem signed_x (k t g n : Int) (w : World) (ht : t = 1 ∨ t = 2) (h0 : 0 ≤ n) (h1 : n < 18446744073709551616) :
    Calls Tryd.prog 27 #[.agg #[.int .i64 k, .int .i64 t, .int .i64 g], .int .u64 n] w fun e w' => e = .returned (.int .i64 (sg t n)) ∧ w' = w.alloc (.cells #[.int .i64 k, .int .i64 t, .int .i64 g] 36) := by
  rcases ht with rfl | rfl <;> unfold sg <;> simp only [if_pos, reduceIte, show ¬ ((2 : Int) = 1) from by decide] <;> go_enter Tryd.func27, Tryd.ntmps27 <;> go_wp2 <;> go_ret
  · refine ⟨congrArg (fun x => Ending.returned (Value.int IntKind.i64 x)) ?_, rfl⟩
    unfold wrap64 wrap32; omega
  · refine ⟨congrArg (fun x => Ending.returned (Value.int IntKind.i64 x)) ?_, rfl⟩
    unfold wrap64; omega

theorem truth_any (b : Bool) (w : World) : Calls Tryd.prog 22 #[.bool b] w fun e w' => e = .returned (.int .u64 (if b then 1 else 0)) ∧ w' = w := by
  cases b <;> go_enter Tryd.func22, Tryd.ntmps22 <;> go_wp2 <;> go_ret <;> exact ⟨rfl, rfl⟩

end Go.Proofs.YtolllelejdnjlaaDoor
