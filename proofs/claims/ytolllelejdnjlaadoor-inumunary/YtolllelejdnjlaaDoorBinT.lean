/-
  The walk of Binary; no statement is proved here.
-/
import Derived.Test.YtolllelejdnjlaaDoorLeaf
import Derived.Test.YtolllelejdnjlaaDoorOvf
import Derived.Test.YtolllelejdnjlaaDoorBin
import Derived.WalkMore
import Derived.ScopeJumps
import Derived.BigQuiet
namespace Go.Proofs.YtolllelejdnjlaaDoor
open Go.RowKit
set_option linter.unusedVariables false
set_option linter.unusedSimpArgs false

set_option maxRecDepth 100000 in
theorem cut_u (n t : Int) (w : World) (ht : t = 1 ∨ t = 2) :
    Calls Tryd.prog 13 #[.int .u64 n, .int .i64 t] w fun e w' => e = .returned (.int .u64 (ct t n)) ∧ w' = w := by
  rcases ht with rfl | rfl <;> unfold ct <;> simp only [if_pos, reduceIte, show ¬ ((2 : Int) = 1) from by decide] <;> go_enter Tryd.func13, Tryd.ntmps13 <;> go_wp2 <;> go_ret
  · exact ⟨by simp, rfl⟩
  · exact ⟨rfl, rfl⟩
/- What holds at the label: the fault. -/
set_option maxRecDepth 100000 in
set_option maxHeartbeats 1000000 in
theorem Bin_arg (op a b k t g r E : Int) (w : World) (hr : (r != 2) = true) (hE : Hid (E = 1))
    (F : Hid (∀ w : World, Calls Tryd.prog 11 #[.int .i64 op] w fun e w' => e = .returned (.agg #[.int .i64 k, .int .i64 t, .int .i64 g]) ∧ Grew w w'))
    (R : Hid (∀ w : World, Calls Tryd.prog 12 #[.int .i64 k] w fun e w' => e = .returned (.int .i64 r) ∧ w' = w)) :
    Calls Tryd.prog 16 #[.int .i64 op, .int .u64 a, .int .u64 b] w fun e w' => e = .returned (.tuple #[.int .u64 0, .int .i64 E]) ∧ Grew w w' := by
  go_enter Tryd.func16, Tryd.ntmps16
  go_wp2_with fail
  refine wp_scope_jumps 0 (fun a' w' => Grew w w' ∧ ∃ v0 v1 v2 v3 v4 v5 v6 v7 v8 v10 v11 v12 v13 v14 v15 v16 v17 v18 v19 v20 v21 v22 v23 v24 v25 v26 v27 v28 v29 v30 v31 v32 v33 v34 v35 v36 v37 v38 v39 v40 v41 v42 v43 v44 v45 v46 v47 : Value, a' = { tmps := #[v0, v1, v2, v3, v4, v5, v6, v7, v8, .int .i64 E, v10, v11, v12, v13, v14, v15, v16, v17, v18, v19, v20, v21, v22, v23, v24, v25, v26, v27, v28, v29, v30, v31, v32, v33, v34, v35, v36, v37, v38, v39, v40, v41, v42, v43, v44, v45, v46, v47], defers := [] }) (fun _ _ => 0) rfl ?_ ?_
  rotate_left
  · rintro a' w' ⟨hg, v0, v1, v2, v3, v4, v5, v6, v7, v8, v10, v11, v12, v13, v14, v15, v16, v17, v18, v19, v20, v21, v22, v23, v24, v25, v26, v27, v28, v29, v30, v31, v32, v33, v34, v35, v36, v37, v38, v39, v40, v41, v42, v43, v44, v45, v46, v47, rfl⟩
    have HG : Hid (Grew w w') := hg
    clear hg
    go_wp2
    simp only [Exit.jump]
    go_ret2
    exact ⟨rfl, HG.out⟩
  go_wp2_with fail
  refine (F.out _).mono ?_
  rintro e w1 ⟨rfl, g1⟩
  have G1 : Hid (Grew w w1) := Grew.trans (by repeat (first | exact Grew.refl _ | refine Grew.drew ?_ | refine Grew.alloc ?_ _ | refine Grew.set ?_ (by simp) _)) g1
  clear g1
  go_wp2_with fail
  refine (R.out _).mono ?_
  rintro e w2 ⟨rfl, hw2⟩
  obtain rfl := hw2.symm
  go_wp2_with fail
  go_step3
  obtain rfl := hE.out
  exact ⟨rfl, G1.out.alloc _, _, _, _, _, _, _, _, _, _, _, _, _, _, _, _, _, _, _, _, _, _, _, _, _, _, _, _, _, _, _, _, _, _, _, _, _, _, _, _, _, _, _, _, _, _, _, _, rfl⟩
set_option maxRecDepth 100000 in
set_option maxHeartbeats 1000000 in
theorem Bin_div (op a b a1 b1 k t g r E : Int) (dv : Bool) (w : World) (hr : (r != 2) = false) (hdv : dv = true) (hb1 : (b1 == 0) = true) (hE : Hid (E = 30))
    (F : Hid (∀ w : World, Calls Tryd.prog 11 #[.int .i64 op] w fun e w' => e = .returned (.agg #[.int .i64 k, .int .i64 t, .int .i64 g]) ∧ Grew w w'))
    (R : Hid (∀ w : World, Calls Tryd.prog 12 #[.int .i64 k] w fun e w' => e = .returned (.int .i64 r) ∧ w' = w))
    (A : Hid (∀ w : World, Calls Tryd.prog 13 #[.int .u64 a, .int .i64 t] w fun e w' => e = .returned (.int .u64 a1) ∧ w' = w))
    (B : Hid (∀ w : World, Calls Tryd.prog 13 #[.int .u64 b, .int .i64 t] w fun e w' => e = .returned (.int .u64 b1) ∧ w' = w))
    (D : Hid (∀ w : World, Calls Tryd.prog 29 #[.int .i64 k] w fun e w' => e = .returned (.bool dv) ∧ w' = w)) :
    Calls Tryd.prog 16 #[.int .i64 op, .int .u64 a, .int .u64 b] w fun e w' => e = .returned (.tuple #[.int .u64 0, .int .i64 E]) ∧ Grew w w' := by
  subst hdv
  go_enter Tryd.func16, Tryd.ntmps16
  go_wp2_with fail
  refine wp_scope_jumps 0 (fun a' w' => Grew w w' ∧ ∃ v0 v1 v2 v3 v4 v5 v6 v7 v8 v10 v11 v12 v13 v14 v15 v16 v17 v18 v19 v20 v21 v22 v23 v24 v25 v26 v27 v28 v29 v30 v31 v32 v33 v34 v35 v36 v37 v38 v39 v40 v41 v42 v43 v44 v45 v46 v47 : Value, a' = { tmps := #[v0, v1, v2, v3, v4, v5, v6, v7, v8, .int .i64 E, v10, v11, v12, v13, v14, v15, v16, v17, v18, v19, v20, v21, v22, v23, v24, v25, v26, v27, v28, v29, v30, v31, v32, v33, v34, v35, v36, v37, v38, v39, v40, v41, v42, v43, v44, v45, v46, v47], defers := [] }) (fun _ _ => 0) rfl ?_ ?_
  rotate_left
  · rintro a' w' ⟨hg, v0, v1, v2, v3, v4, v5, v6, v7, v8, v10, v11, v12, v13, v14, v15, v16, v17, v18, v19, v20, v21, v22, v23, v24, v25, v26, v27, v28, v29, v30, v31, v32, v33, v34, v35, v36, v37, v38, v39, v40, v41, v42, v43, v44, v45, v46, v47, rfl⟩
    have HG : Hid (Grew w w') := hg
    clear hg
    go_wp2
    simp only [Exit.jump]
    go_ret2
    exact ⟨rfl, HG.out⟩
  go_wp2_with fail
  refine (F.out _).mono ?_
  rintro e w1 ⟨rfl, g1⟩
  have G1 : Hid (Grew w w1) := Grew.trans (by repeat (first | exact Grew.refl _ | refine Grew.drew ?_ | refine Grew.alloc ?_ _ | refine Grew.set ?_ (by simp) _)) g1
  clear g1
  go_wp2_with fail
  refine (R.out _).mono ?_
  rintro e w2 ⟨rfl, hw2⟩
  obtain rfl := hw2.symm
  go_wp2_with fail
  go_quiet (first | (go_at_call_of 13 (Value.int IntKind.u64 a); exact Calls.quiet_of_same (A.out _)) | (go_at_call_of 13 (Value.int IntKind.u64 b); exact Calls.quiet_of_same (B.out _)))
  go_wp2_with fail
  refine (D.out _).mono ?_
  rintro e w3 ⟨rfl, hw3⟩
  obtain rfl := hw3.symm
  go_wp2_with fail
  go_step3
  obtain rfl := hE.out
  refine ⟨rfl, ?_, _, _, _, _, _, _, _, _, _, _, _, _, _, _, _, _, _, _, _, _, _, _, _, _, _, _, _, _, _, _, _, _, _, _, _, _, _, _, _, _, _, _, _, _, _, _, _, rfl⟩
  repeat (first | exact G1.out | refine Grew.drew ?_ | refine Grew.drewN ?_ _ | refine Grew.alloc ?_ _ | refine Grew.set ?_ (by simp) _)
set_option maxRecDepth 100000 in
set_option maxHeartbeats 1000000 in
theorem Bin_ovf (op a b a1 b1 k t g r E : Int) (dv : Bool) (w : World) (hr : (r != 2) = false) (hdv : dv = true) (hb1 : (b1 == 0) = false) (hk : k = 18) (hE : Hid (E = 31))
    (F : Hid (∀ w : World, Calls Tryd.prog 11 #[.int .i64 op] w fun e w' => e = .returned (.agg #[.int .i64 k, .int .i64 t, .int .i64 g]) ∧ Grew w w'))
    (R : Hid (∀ w : World, Calls Tryd.prog 12 #[.int .i64 k] w fun e w' => e = .returned (.int .i64 r) ∧ w' = w))
    (A : Hid (∀ w : World, Calls Tryd.prog 13 #[.int .u64 a, .int .i64 t] w fun e w' => e = .returned (.int .u64 a1) ∧ w' = w))
    (B : Hid (∀ w : World, Calls Tryd.prog 13 #[.int .u64 b, .int .i64 t] w fun e w' => e = .returned (.int .u64 b1) ∧ w' = w))
    (D : Hid (∀ w : World, Calls Tryd.prog 29 #[.int .i64 k] w fun e w' => e = .returned (.bool dv) ∧ w' = w))
    (O : Hid (∀ w : World, Calls Tryd.prog 30 #[.agg #[.int .i64 k, .int .i64 t, .int .i64 g], .int .u64 a1, .int .u64 b1] w fun e w' => e = .returned (.bool true) ∧ Grew w w')) :
    Calls Tryd.prog 16 #[.int .i64 op, .int .u64 a, .int .u64 b] w fun e w' => e = .returned (.tuple #[.int .u64 0, .int .i64 E]) ∧ Grew w w' := by
  subst hdv hk
  go_enter Tryd.func16, Tryd.ntmps16
  go_wp2_with fail
  refine wp_scope_jumps 0 (fun a' w' => Grew w w' ∧ ∃ v0 v1 v2 v3 v4 v5 v6 v7 v8 v10 v11 v12 v13 v14 v15 v16 v17 v18 v19 v20 v21 v22 v23 v24 v25 v26 v27 v28 v29 v30 v31 v32 v33 v34 v35 v36 v37 v38 v39 v40 v41 v42 v43 v44 v45 v46 v47 : Value, a' = { tmps := #[v0, v1, v2, v3, v4, v5, v6, v7, v8, .int .i64 E, v10, v11, v12, v13, v14, v15, v16, v17, v18, v19, v20, v21, v22, v23, v24, v25, v26, v27, v28, v29, v30, v31, v32, v33, v34, v35, v36, v37, v38, v39, v40, v41, v42, v43, v44, v45, v46, v47], defers := [] }) (fun _ _ => 0) rfl ?_ ?_
  rotate_left
  · rintro a' w' ⟨hg, v0, v1, v2, v3, v4, v5, v6, v7, v8, v10, v11, v12, v13, v14, v15, v16, v17, v18, v19, v20, v21, v22, v23, v24, v25, v26, v27, v28, v29, v30, v31, v32, v33, v34, v35, v36, v37, v38, v39, v40, v41, v42, v43, v44, v45, v46, v47, rfl⟩
    have HG : Hid (Grew w w') := hg
    clear hg
    go_wp2
    simp only [Exit.jump]
    go_ret2
    exact ⟨rfl, HG.out⟩
  go_wp2_with fail
  refine (F.out _).mono ?_
  rintro e w1 ⟨rfl, g1⟩
  have G1 : Hid (Grew w w1) := Grew.trans (by repeat (first | exact Grew.refl _ | refine Grew.drew ?_ | refine Grew.alloc ?_ _ | refine Grew.set ?_ (by simp) _)) g1
  clear g1
  go_wp2_with fail
  refine (R.out _).mono ?_
  rintro e w2 ⟨rfl, hw2⟩
  obtain rfl := hw2.symm
  go_wp2_with fail
  go_quiet (first | (go_at_call_of 13 (Value.int IntKind.u64 a); exact Calls.quiet_of_same (A.out _)) | (go_at_call_of 13 (Value.int IntKind.u64 b); exact Calls.quiet_of_same (B.out _)))
  go_wp2_with fail
  refine (D.out _).mono ?_
  rintro e w3 ⟨rfl, hw3⟩
  obtain rfl := hw3.symm
  go_wp2_with fail
  refine (O.out _).mono ?_
  rintro e w4 ⟨rfl, g4⟩
  have G4 : Hid (Grew w w4) := Grew.trans (by repeat (first | exact G1.out | refine Grew.drew ?_ | refine Grew.drewN ?_ _ | refine Grew.alloc ?_ _ | refine Grew.set ?_ (by simp) _)) g4
  clear g4
  go_wp2_with fail
  go_step3
  obtain rfl := hE.out
  exact ⟨rfl, G4.out, _, _, _, _, _, _, _, _, _, _, _, _, _, _, _, _, _, _, _, _, _, _, _, _, _, _, _, _, _, _, _, _, _, _, _, _, _, _, _, _, _, _, _, _, _, _, _, rfl⟩
set_option maxRecDepth 100000 in
set_option maxHeartbeats 1000000 in
theorem Bin_no (op a b a1 b1 k t g r x y : Int) (dv : Bool) (w : World) (hr : (r != 2) = false) (hdv : dv = false) (hk : (k == 18) = false)
    (F : Hid (∀ w : World, Calls Tryd.prog 11 #[.int .i64 op] w fun e w' => e = .returned (.agg #[.int .i64 k, .int .i64 t, .int .i64 g]) ∧ Grew w w'))
    (R : Hid (∀ w : World, Calls Tryd.prog 12 #[.int .i64 k] w fun e w' => e = .returned (.int .i64 r) ∧ w' = w))
    (A : Hid (∀ w : World, Calls Tryd.prog 13 #[.int .u64 a, .int .i64 t] w fun e w' => e = .returned (.int .u64 a1) ∧ w' = w))
    (B : Hid (∀ w : World, Calls Tryd.prog 13 #[.int .u64 b, .int .i64 t] w fun e w' => e = .returned (.int .u64 b1) ∧ w' = w))
    (D : Hid (∀ w : World, Calls Tryd.prog 29 #[.int .i64 k] w fun e w' => e = .returned (.bool dv) ∧ w' = w))
    (M : Hid (∀ w : World, Calls Tryd.prog 31 #[.agg #[.int .i64 k, .int .i64 t, .int .i64 g], .int .u64 a1, .int .u64 b1] w fun e w' => e = .returned (.int .u64 x) ∧ Grew w w'))
    (C : Hid (∀ w : World, Calls Tryd.prog 13 #[.int .u64 x, .int .i64 g] w fun e w' => e = .returned (.int .u64 y) ∧ w' = w)) :
    Calls Tryd.prog 16 #[.int .i64 op, .int .u64 a, .int .u64 b] w fun e w' => e = .returned (.tuple #[.int .u64 y, .int .i64 0]) ∧ Grew w w' := by
  subst hdv
  go_enter Tryd.func16, Tryd.ntmps16
  go_wp2_with fail
  go_step3
  go_wp2_with fail
  refine (F.out _).mono ?_
  rintro e w1 ⟨rfl, g1⟩
  have G1 : Hid (Grew w w1) := Grew.trans (by repeat (first | exact Grew.refl _ | refine Grew.drew ?_ | refine Grew.alloc ?_ _ | refine Grew.set ?_ (by simp) _)) g1
  clear g1
  go_wp2_with fail
  refine (R.out _).mono ?_
  rintro e w2 ⟨rfl, hw2⟩
  obtain rfl := hw2.symm
  go_wp2_with fail
  go_quiet (first | (go_at_call_of 13 (Value.int IntKind.u64 a); exact Calls.quiet_of_same (A.out _)) | (go_at_call_of 13 (Value.int IntKind.u64 b); exact Calls.quiet_of_same (B.out _)))
  go_wp2_with fail
  refine (D.out _).mono ?_
  rintro e w3 ⟨rfl, hw3⟩
  obtain rfl := hw3.symm
  go_wp2_with fail
  first
  | go_region_with (first
    | (go_at_call 31; refine (M.out _).mono ?_; rintro e w5 ⟨rfl, g5⟩; have hc5 : w5.cell? ⟨w1.heap.size, 2, none⟩ = some (.int .i64 g) := (by rw [g5.1.cell (by simp)]; go_simp))
    | (go_at_call 13; refine (C.out _).mono ?_; rintro e w6 ⟨rfl, hw6⟩; obtain rfl := hw6.symm))
  | fail
  all_goals go_wp2
  all_goals (try simp only [Exit.noGoto_ret])
  all_goals go_ret2
  all_goals
    refine ⟨rfl, Grew.trans ?_ g5⟩
    repeat (first | exact G1.out | refine Grew.drew ?_ | refine Grew.drewN ?_ _ | refine Grew.alloc ?_ _ | refine Grew.set ?_ (by simp) _)
set_option maxRecDepth 100000 in
set_option maxHeartbeats 1000000 in
theorem Bin_nz (op a b a1 b1 k t g r x y : Int) (dv : Bool) (w : World) (hr : (r != 2) = false) (hdv : dv = true) (hb1 : (b1 == 0) = false) (hk : (k == 18) = false)
    (F : Hid (∀ w : World, Calls Tryd.prog 11 #[.int .i64 op] w fun e w' => e = .returned (.agg #[.int .i64 k, .int .i64 t, .int .i64 g]) ∧ Grew w w'))
    (R : Hid (∀ w : World, Calls Tryd.prog 12 #[.int .i64 k] w fun e w' => e = .returned (.int .i64 r) ∧ w' = w))
    (A : Hid (∀ w : World, Calls Tryd.prog 13 #[.int .u64 a, .int .i64 t] w fun e w' => e = .returned (.int .u64 a1) ∧ w' = w))
    (B : Hid (∀ w : World, Calls Tryd.prog 13 #[.int .u64 b, .int .i64 t] w fun e w' => e = .returned (.int .u64 b1) ∧ w' = w))
    (D : Hid (∀ w : World, Calls Tryd.prog 29 #[.int .i64 k] w fun e w' => e = .returned (.bool dv) ∧ w' = w))
    (M : Hid (∀ w : World, Calls Tryd.prog 31 #[.agg #[.int .i64 k, .int .i64 t, .int .i64 g], .int .u64 a1, .int .u64 b1] w fun e w' => e = .returned (.int .u64 x) ∧ Grew w w'))
    (C : Hid (∀ w : World, Calls Tryd.prog 13 #[.int .u64 x, .int .i64 g] w fun e w' => e = .returned (.int .u64 y) ∧ w' = w)) :
    Calls Tryd.prog 16 #[.int .i64 op, .int .u64 a, .int .u64 b] w fun e w' => e = .returned (.tuple #[.int .u64 y, .int .i64 0]) ∧ Grew w w' := by
  subst hdv
  go_enter Tryd.func16, Tryd.ntmps16
  go_wp2_with fail
  go_step3
  go_wp2_with fail
  refine (F.out _).mono ?_
  rintro e w1 ⟨rfl, g1⟩
  have G1 : Hid (Grew w w1) := Grew.trans (by repeat (first | exact Grew.refl _ | refine Grew.drew ?_ | refine Grew.alloc ?_ _ | refine Grew.set ?_ (by simp) _)) g1
  clear g1
  go_wp2_with fail
  refine (R.out _).mono ?_
  rintro e w2 ⟨rfl, hw2⟩
  obtain rfl := hw2.symm
  go_wp2_with fail
  go_quiet (first | (go_at_call_of 13 (Value.int IntKind.u64 a); exact Calls.quiet_of_same (A.out _)) | (go_at_call_of 13 (Value.int IntKind.u64 b); exact Calls.quiet_of_same (B.out _)))
  go_wp2_with fail
  refine (D.out _).mono ?_
  rintro e w3 ⟨rfl, hw3⟩
  obtain rfl := hw3.symm
  go_wp2_with fail
  first
  | go_region_with (first
    | (go_at_call 31; refine (M.out _).mono ?_; rintro e w5 ⟨rfl, g5⟩; have hc5 : w5.cell? ⟨w1.heap.size, 2, none⟩ = some (.int .i64 g) := (by rw [g5.1.cell (by simp)]; go_simp))
    | (go_at_call 13; refine (C.out _).mono ?_; rintro e w6 ⟨rfl, hw6⟩; obtain rfl := hw6.symm))
  | fail
  all_goals go_wp2
  all_goals (try simp only [Exit.noGoto_ret])
  all_goals go_ret2
  all_goals
    refine ⟨rfl, Grew.trans ?_ g5⟩
    repeat (first | exact G1.out | refine Grew.drew ?_ | refine Grew.drewN ?_ _ | refine Grew.alloc ?_ _ | refine Grew.set ?_ (by simp) _)
set_option maxRecDepth 100000 in
set_option maxHeartbeats 1000000 in
theorem Bin_18 (op a b a1 b1 k t g r x y : Int) (dv : Bool) (w : World) (hr : (r != 2) = false) (hdv : dv = true) (hb1 : (b1 == 0) = false) (hk : k = 18)
    (F : Hid (∀ w : World, Calls Tryd.prog 11 #[.int .i64 op] w fun e w' => e = .returned (.agg #[.int .i64 k, .int .i64 t, .int .i64 g]) ∧ Grew w w'))
    (R : Hid (∀ w : World, Calls Tryd.prog 12 #[.int .i64 k] w fun e w' => e = .returned (.int .i64 r) ∧ w' = w))
    (A : Hid (∀ w : World, Calls Tryd.prog 13 #[.int .u64 a, .int .i64 t] w fun e w' => e = .returned (.int .u64 a1) ∧ w' = w))
    (B : Hid (∀ w : World, Calls Tryd.prog 13 #[.int .u64 b, .int .i64 t] w fun e w' => e = .returned (.int .u64 b1) ∧ w' = w))
    (D : Hid (∀ w : World, Calls Tryd.prog 29 #[.int .i64 k] w fun e w' => e = .returned (.bool dv) ∧ w' = w))
    (O : Hid (∀ w : World, Calls Tryd.prog 30 #[.agg #[.int .i64 k, .int .i64 t, .int .i64 g], .int .u64 a1, .int .u64 b1] w fun e w' => e = .returned (.bool false) ∧ Grew w w'))
    (M : Hid (∀ w : World, Calls Tryd.prog 31 #[.agg #[.int .i64 k, .int .i64 t, .int .i64 g], .int .u64 a1, .int .u64 b1] w fun e w' => e = .returned (.int .u64 x) ∧ Grew w w'))
    (C : Hid (∀ w : World, Calls Tryd.prog 13 #[.int .u64 x, .int .i64 g] w fun e w' => e = .returned (.int .u64 y) ∧ w' = w)) :
    Calls Tryd.prog 16 #[.int .i64 op, .int .u64 a, .int .u64 b] w fun e w' => e = .returned (.tuple #[.int .u64 y, .int .i64 0]) ∧ Grew w w' := by
  subst hdv hk
  go_enter Tryd.func16, Tryd.ntmps16
  go_wp2_with fail
  go_step3
  go_wp2_with fail
  refine (F.out _).mono ?_
  rintro e w1 ⟨rfl, g1⟩
  have G1 : Hid (Grew w w1) := Grew.trans (by repeat (first | exact Grew.refl _ | refine Grew.drew ?_ | refine Grew.alloc ?_ _ | refine Grew.set ?_ (by simp) _)) g1
  clear g1
  go_wp2_with fail
  refine (R.out _).mono ?_
  rintro e w2 ⟨rfl, hw2⟩
  obtain rfl := hw2.symm
  go_wp2_with fail
  go_quiet (first | (go_at_call_of 13 (Value.int IntKind.u64 a); exact Calls.quiet_of_same (A.out _)) | (go_at_call_of 13 (Value.int IntKind.u64 b); exact Calls.quiet_of_same (B.out _)))
  go_wp2_with fail
  refine (D.out _).mono ?_
  rintro e w3 ⟨rfl, hw3⟩
  obtain rfl := hw3.symm
  go_wp2_with fail
  refine (O.out _).mono ?_
  rintro e w4 ⟨rfl, g4⟩
  have G4 : Hid (Grew w w4) := Grew.trans (by repeat (first | exact G1.out | refine Grew.drew ?_ | refine Grew.drewN ?_ _ | refine Grew.alloc ?_ _ | refine Grew.set ?_ (by simp) _)) g4
  have hc0 : w4.cell? ⟨w1.heap.size, 0, none⟩ = some (.int .i64 18) := by rw [g4.1.cell (by simp)]; go_simp
  have hc1 : w4.cell? ⟨w1.heap.size, 1, none⟩ = some (.int .i64 t) := by rw [g4.1.cell (by simp)]; go_simp
  have hc2 : w4.cell? ⟨w1.heap.size, 2, none⟩ = some (.int .i64 g) := by rw [g4.1.cell (by simp)]; go_simp
  have hlt4 : w1.heap.size < w4.heap.size := by have := g4.2; simp at this; omega
  clear g4
  go_wp2_with fail
  first
  | go_region_with (first
    | (go_at_call 31; refine (M.out _).mono ?_; rintro e w5 ⟨rfl, g5⟩; have hc5 : w5.cell? ⟨w1.heap.size, 2, none⟩ = some (.int .i64 g) := (by rw [g5.1.cell (by simp; have := hlt4; omega)]; go_simp))
    | (go_at_call 13; refine (C.out _).mono ?_; rintro e w6 ⟨rfl, hw6⟩; obtain rfl := hw6.symm))
  | fail
  all_goals go_wp2
  all_goals (try simp only [Exit.noGoto_ret])
  all_goals go_ret2
  all_goals
    refine ⟨rfl, Grew.trans ?_ g5⟩
    repeat (first | exact G4.out | refine Grew.drew ?_ | refine Grew.drewN ?_ _ | refine Grew.alloc ?_ _ | refine Grew.set ?_ (by simp) _)
end Go.Proofs.YtolllelejdnjlaaDoor
