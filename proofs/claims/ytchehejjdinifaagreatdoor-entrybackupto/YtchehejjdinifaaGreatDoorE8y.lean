/-
  An extern without what its kind does not tell; no statement is proved here.
-/
import Derived.Test.YtchehejjdinifaaGreatDoorE8l
import Derived.Test.YtchehejjdinifaaGreatDoorN2F
namespace Go.Proofs.YtchehejjdinifaaGreatDoor
open Go.RowKit
set_option linter.unusedVariables false
set_option linter.unusedSimpArgs false
set_option linter.constructorNameAsVariable false

theorem heap_three' (w : World) (o1 o2 o3 : Obj) : (((w.alloc o1).alloc o2).alloc o3).heap[w.heap.size]? = some o1 ∧ (((w.alloc o1).alloc o2).alloc o3).heap[w.heap.size + 1]? = some o2 ∧ (((w.alloc o1).alloc o2).alloc o3).heap[w.heap.size + 1 + 1]? = some o3 := by
  have h1 : (w.alloc o1).heap.size = w.heap.size + 1 := by simp
  have h2 : ((w.alloc o1).alloc o2).heap.size = w.heap.size + 1 + 1 := by simp
  refine ⟨heap_alloc (heap_alloc (heap_alloc_last _ _) _) _, ?_, ?_⟩
  · rw [← h1]
    exact heap_alloc (heap_alloc_last _ _) _
  · rw [← h2]
    exact heap_alloc_last _ _
set_option maxRecDepth 100000 in
set_option maxHeartbeats 2000000 in
theorem told0_any (k ty tn th tp tq mp mq gn gh : Int) (tz tw tm mw mm gz gm : Bool) (w : World) :
    Calls Tryz.prog 51 #[.agg #[.int .i64 0, .int .i64 ty, .int .i64 tn, .bool tz, .int .i64 th, .bool tw, .int .u64 tp, .int .u64 tq, .bool tm, .bool mw, .int .u64 mp, .int .u64 mq, .bool mm, .int .i64 gn, .bool gz, .int .i64 gh, .bool gm]] w fun en w' => en = .returned (.agg #[.int .i64 0, .int .i64 ty, .int .i64 0, .bool false, .int .i64 0, .bool false, .int .u64 0, .int .u64 0, .bool false, .bool false, .int .u64 0, .int .u64 0, .bool false, .int .i64 0, .bool false, .int .i64 0, .bool false]) ∧ Grew w w' := by
  obtain ⟨es, hes⟩ : ∃ es : Array Value, es = #[.int .i64 0, .int .i64 ty, .int .i64 tn, .bool tz, .int .i64 th, .bool tw, .int .u64 tp, .int .u64 tq, .bool tm, .bool mw, .int .u64 mp, .int .u64 mq, .bool mm, .int .i64 gn, .bool gz, .int .i64 gh, .bool gm] := ⟨_, rfl⟩
  rw [← hes]
  have e0 : es[0]? = some (.int .i64 0) := by rw [hes]; rfl
  have e1 : es[1]? = some (.int .i64 ty) := by rw [hes]; rfl
  have a0 := heap_alloc_last w (.cells es 35)
  have a1 := heap_alloc a0 (.cells #[.int .i64 0, .int .i64 0, .int .i64 0, .bool false, .int .i64 0, .bool false, .int .u64 0, .int .u64 0, .bool false, .bool false, .int .u64 0, .int .u64 0, .bool false, .int .i64 0, .bool false, .int .i64 0, .bool false] 35)
  have a0c0 := (cell_of a0 0).trans e0
  have a0c1 := (cell_of a0 1).trans e1
  have a1c0 := (cell_of a1 0).trans e0
  have a1c1 := (cell_of a1 1).trans e1
  clear hes
  go_enter Tryz.func51, Tryz.ntmps51
  go_wp2_with (first
    | (refine at_load 35 rfl ?_; refine wpList_load_row rfl 35 _ rfl (w.heap.size + 1 + 1) rfl 35 #[.int .i64 0, .int .i64 ty, .int .i64 0, .bool false, .int .i64 0, .bool false, .int .u64 0, .int .u64 0, .bool false, .bool false, .int .u64 0, .int .u64 0, .bool false, .int .i64 0, .bool false, .int .i64 0, .bool false] (0, 0) _ (heap_three' _ _ _ _).2.2 Tryz.underlying35 rfl (by kernel_rfl) ?_)
    | fail)
  exact bodyPost_ret (results_cell_row Tryz.results51 _ _ (w.heap.size + 1) 35 #[.int .i64 0, .int .i64 ty, .int .i64 0, .bool false, .int .i64 0, .bool false, .int .u64 0, .int .u64 0, .bool false, .bool false, .int .u64 0, .int .u64 0, .bool false, .int .i64 0, .bool false, .int .i64 0, .bool false] (0, 0) _ rfl (heap_three' _ _ _ _).2.1 Tryz.underlying35 rfl (by kernel_rfl)) rfl ⟨rfl, (((Grew.refl w).alloc _).alloc _).alloc _⟩
set_option maxRecDepth 100000 in
set_option maxHeartbeats 2000000 in
theorem told1_any (k ty tn th tp tq mp mq gn gh : Int) (tz tw tm mw mm gz gm : Bool) (w : World) :
    Calls Tryz.prog 51 #[.agg #[.int .i64 1, .int .i64 ty, .int .i64 tn, .bool tz, .int .i64 th, .bool tw, .int .u64 tp, .int .u64 tq, .bool tm, .bool mw, .int .u64 mp, .int .u64 mq, .bool mm, .int .i64 gn, .bool gz, .int .i64 gh, .bool gm]] w fun en w' => en = .returned (.agg #[.int .i64 1, .int .i64 0, .int .i64 tn, .bool tz, .int .i64 th, .bool tw, .int .u64 tp, .int .u64 tq, .bool tm, .bool false, .int .u64 0, .int .u64 0, .bool false, .int .i64 0, .bool false, .int .i64 0, .bool false]) ∧ Grew w w' := by
  obtain ⟨es, hes⟩ : ∃ es : Array Value, es = #[.int .i64 1, .int .i64 ty, .int .i64 tn, .bool tz, .int .i64 th, .bool tw, .int .u64 tp, .int .u64 tq, .bool tm, .bool mw, .int .u64 mp, .int .u64 mq, .bool mm, .int .i64 gn, .bool gz, .int .i64 gh, .bool gm] := ⟨_, rfl⟩
  rw [← hes]
  have e0 : es[0]? = some (.int .i64 1) := by rw [hes]; rfl
  have e2 : es[2]? = some (.int .i64 tn) := by rw [hes]; rfl
  have e3 : es[3]? = some (.bool tz) := by rw [hes]; rfl
  have e4 : es[4]? = some (.int .i64 th) := by rw [hes]; rfl
  have e5 : es[5]? = some (.bool tw) := by rw [hes]; rfl
  have e6 : es[6]? = some (.int .u64 tp) := by rw [hes]; rfl
  have e7 : es[7]? = some (.int .u64 tq) := by rw [hes]; rfl
  have e8 : es[8]? = some (.bool tm) := by rw [hes]; rfl
  have a0 := heap_alloc_last w (.cells es 35)
  have a1 := heap_alloc a0 (.cells #[.int .i64 0, .int .i64 0, .int .i64 0, .bool false, .int .i64 0, .bool false, .int .u64 0, .int .u64 0, .bool false, .bool false, .int .u64 0, .int .u64 0, .bool false, .int .i64 0, .bool false, .int .i64 0, .bool false] 35)
  have a0c0 := (cell_of a0 0).trans e0
  have a0c2 := (cell_of a0 2).trans e2
  have a0c3 := (cell_of a0 3).trans e3
  have a0c4 := (cell_of a0 4).trans e4
  have a0c5 := (cell_of a0 5).trans e5
  have a0c6 := (cell_of a0 6).trans e6
  have a0c7 := (cell_of a0 7).trans e7
  have a0c8 := (cell_of a0 8).trans e8
  have a1c0 := (cell_of a1 0).trans e0
  have a1c2 := (cell_of a1 2).trans e2
  have a1c3 := (cell_of a1 3).trans e3
  have a1c4 := (cell_of a1 4).trans e4
  have a1c5 := (cell_of a1 5).trans e5
  have a1c6 := (cell_of a1 6).trans e6
  have a1c7 := (cell_of a1 7).trans e7
  have a1c8 := (cell_of a1 8).trans e8
  clear hes
  go_enter Tryz.func51, Tryz.ntmps51
  go_wp2_with (first
    | (refine at_load 35 rfl ?_; refine wpList_load_row rfl 35 _ rfl (w.heap.size + 1 + 1) rfl 35 #[.int .i64 1, .int .i64 0, .int .i64 tn, .bool tz, .int .i64 th, .bool tw, .int .u64 tp, .int .u64 tq, .bool tm, .bool false, .int .u64 0, .int .u64 0, .bool false, .int .i64 0, .bool false, .int .i64 0, .bool false] (0, 0) _ (heap_three' _ _ _ _).2.2 Tryz.underlying35 rfl (by kernel_rfl) ?_)
    | fail)
  exact bodyPost_ret (results_cell_row Tryz.results51 _ _ (w.heap.size + 1) 35 #[.int .i64 1, .int .i64 0, .int .i64 tn, .bool tz, .int .i64 th, .bool tw, .int .u64 tp, .int .u64 tq, .bool tm, .bool false, .int .u64 0, .int .u64 0, .bool false, .int .i64 0, .bool false, .int .i64 0, .bool false] (0, 0) _ rfl (heap_three' _ _ _ _).2.1 Tryz.underlying35 rfl (by kernel_rfl)) rfl ⟨rfl, (((Grew.refl w).alloc _).alloc _).alloc _⟩
set_option maxRecDepth 100000 in
set_option maxHeartbeats 2000000 in
theorem told2_any (k ty tn th tp tq mp mq gn gh : Int) (tz tw tm mw mm gz gm : Bool) (w : World) :
    Calls Tryz.prog 51 #[.agg #[.int .i64 2, .int .i64 ty, .int .i64 tn, .bool tz, .int .i64 th, .bool tw, .int .u64 tp, .int .u64 tq, .bool tm, .bool mw, .int .u64 mp, .int .u64 mq, .bool mm, .int .i64 gn, .bool gz, .int .i64 gh, .bool gm]] w fun en w' => en = .returned (.agg #[.int .i64 2, .int .i64 0, .int .i64 0, .bool false, .int .i64 0, .bool false, .int .u64 0, .int .u64 0, .bool false, .bool mw, .int .u64 mp, .int .u64 mq, .bool mm, .int .i64 0, .bool false, .int .i64 0, .bool false]) ∧ Grew w w' := by
  obtain ⟨es, hes⟩ : ∃ es : Array Value, es = #[.int .i64 2, .int .i64 ty, .int .i64 tn, .bool tz, .int .i64 th, .bool tw, .int .u64 tp, .int .u64 tq, .bool tm, .bool mw, .int .u64 mp, .int .u64 mq, .bool mm, .int .i64 gn, .bool gz, .int .i64 gh, .bool gm] := ⟨_, rfl⟩
  rw [← hes]
  have e0 : es[0]? = some (.int .i64 2) := by rw [hes]; rfl
  have e9 : es[9]? = some (.bool mw) := by rw [hes]; rfl
  have e10 : es[10]? = some (.int .u64 mp) := by rw [hes]; rfl
  have e11 : es[11]? = some (.int .u64 mq) := by rw [hes]; rfl
  have e12 : es[12]? = some (.bool mm) := by rw [hes]; rfl
  have a0 := heap_alloc_last w (.cells es 35)
  have a1 := heap_alloc a0 (.cells #[.int .i64 0, .int .i64 0, .int .i64 0, .bool false, .int .i64 0, .bool false, .int .u64 0, .int .u64 0, .bool false, .bool false, .int .u64 0, .int .u64 0, .bool false, .int .i64 0, .bool false, .int .i64 0, .bool false] 35)
  have a0c0 := (cell_of a0 0).trans e0
  have a0c9 := (cell_of a0 9).trans e9
  have a0c10 := (cell_of a0 10).trans e10
  have a0c11 := (cell_of a0 11).trans e11
  have a0c12 := (cell_of a0 12).trans e12
  have a1c0 := (cell_of a1 0).trans e0
  have a1c9 := (cell_of a1 9).trans e9
  have a1c10 := (cell_of a1 10).trans e10
  have a1c11 := (cell_of a1 11).trans e11
  have a1c12 := (cell_of a1 12).trans e12
  clear hes
  go_enter Tryz.func51, Tryz.ntmps51
  go_wp2_with (first
    | (refine at_load 35 rfl ?_; refine wpList_load_row rfl 35 _ rfl (w.heap.size + 1 + 1) rfl 35 #[.int .i64 2, .int .i64 0, .int .i64 0, .bool false, .int .i64 0, .bool false, .int .u64 0, .int .u64 0, .bool false, .bool mw, .int .u64 mp, .int .u64 mq, .bool mm, .int .i64 0, .bool false, .int .i64 0, .bool false] (0, 0) _ (heap_three' _ _ _ _).2.2 Tryz.underlying35 rfl (by kernel_rfl) ?_)
    | fail)
  exact bodyPost_ret (results_cell_row Tryz.results51 _ _ (w.heap.size + 1) 35 #[.int .i64 2, .int .i64 0, .int .i64 0, .bool false, .int .i64 0, .bool false, .int .u64 0, .int .u64 0, .bool false, .bool mw, .int .u64 mp, .int .u64 mq, .bool mm, .int .i64 0, .bool false, .int .i64 0, .bool false] (0, 0) _ rfl (heap_three' _ _ _ _).2.1 Tryz.underlying35 rfl (by kernel_rfl)) rfl ⟨rfl, (((Grew.refl w).alloc _).alloc _).alloc _⟩
set_option maxRecDepth 100000 in
set_option maxHeartbeats 2000000 in
theorem told3_any (k ty tn th tp tq mp mq gn gh : Int) (tz tw tm mw mm gz gm : Bool) (w : World) :
    Calls Tryz.prog 51 #[.agg #[.int .i64 3, .int .i64 ty, .int .i64 tn, .bool tz, .int .i64 th, .bool tw, .int .u64 tp, .int .u64 tq, .bool tm, .bool mw, .int .u64 mp, .int .u64 mq, .bool mm, .int .i64 gn, .bool gz, .int .i64 gh, .bool gm]] w fun en w' => en = .returned (.agg #[.int .i64 3, .int .i64 0, .int .i64 0, .bool false, .int .i64 0, .bool false, .int .u64 0, .int .u64 0, .bool false, .bool false, .int .u64 0, .int .u64 0, .bool false, .int .i64 gn, .bool gz, .int .i64 gh, .bool gm]) ∧ Grew w w' := by
  obtain ⟨es, hes⟩ : ∃ es : Array Value, es = #[.int .i64 3, .int .i64 ty, .int .i64 tn, .bool tz, .int .i64 th, .bool tw, .int .u64 tp, .int .u64 tq, .bool tm, .bool mw, .int .u64 mp, .int .u64 mq, .bool mm, .int .i64 gn, .bool gz, .int .i64 gh, .bool gm] := ⟨_, rfl⟩
  rw [← hes]
  have e0 : es[0]? = some (.int .i64 3) := by rw [hes]; rfl
  have e13 : es[13]? = some (.int .i64 gn) := by rw [hes]; rfl
  have e14 : es[14]? = some (.bool gz) := by rw [hes]; rfl
  have e15 : es[15]? = some (.int .i64 gh) := by rw [hes]; rfl
  have e16 : es[16]? = some (.bool gm) := by rw [hes]; rfl
  have a0 := heap_alloc_last w (.cells es 35)
  have a1 := heap_alloc a0 (.cells #[.int .i64 0, .int .i64 0, .int .i64 0, .bool false, .int .i64 0, .bool false, .int .u64 0, .int .u64 0, .bool false, .bool false, .int .u64 0, .int .u64 0, .bool false, .int .i64 0, .bool false, .int .i64 0, .bool false] 35)
  have a0c0 := (cell_of a0 0).trans e0
  have a0c13 := (cell_of a0 13).trans e13
  have a0c14 := (cell_of a0 14).trans e14
  have a0c15 := (cell_of a0 15).trans e15
  have a0c16 := (cell_of a0 16).trans e16
  have a1c0 := (cell_of a1 0).trans e0
  have a1c13 := (cell_of a1 13).trans e13
  have a1c14 := (cell_of a1 14).trans e14
  have a1c15 := (cell_of a1 15).trans e15
  have a1c16 := (cell_of a1 16).trans e16
  clear hes
  go_enter Tryz.func51, Tryz.ntmps51
  go_wp2_with (first
    | (refine at_load 35 rfl ?_; refine wpList_load_row rfl 35 _ rfl (w.heap.size + 1 + 1) rfl 35 #[.int .i64 3, .int .i64 0, .int .i64 0, .bool false, .int .i64 0, .bool false, .int .u64 0, .int .u64 0, .bool false, .bool false, .int .u64 0, .int .u64 0, .bool false, .int .i64 gn, .bool gz, .int .i64 gh, .bool gm] (0, 0) _ (heap_three' _ _ _ _).2.2 Tryz.underlying35 rfl (by kernel_rfl) ?_)
    | fail)
  exact bodyPost_ret (results_cell_row Tryz.results51 _ _ (w.heap.size + 1) 35 #[.int .i64 3, .int .i64 0, .int .i64 0, .bool false, .int .i64 0, .bool false, .int .u64 0, .int .u64 0, .bool false, .bool false, .int .u64 0, .int .u64 0, .bool false, .int .i64 gn, .bool gz, .int .i64 gh, .bool gm] (0, 0) _ rfl (heap_three' _ _ _ _).2.1 Tryz.underlying35 rfl (by kernel_rfl)) rfl ⟨rfl, (((Grew.refl w).alloc _).alloc _).alloc _⟩
set_option maxRecDepth 100000 in
set_option maxHeartbeats 2000000 in
theorem told4_any (k ty tn th tp tq mp mq gn gh : Int) (tz tw tm mw mm gz gm : Bool) (w : World) :
    Calls Tryz.prog 51 #[.agg #[.int .i64 4, .int .i64 ty, .int .i64 tn, .bool tz, .int .i64 th, .bool tw, .int .u64 tp, .int .u64 tq, .bool tm, .bool mw, .int .u64 mp, .int .u64 mq, .bool mm, .int .i64 gn, .bool gz, .int .i64 gh, .bool gm]] w fun en w' => en = .returned (.agg #[.int .i64 4, .int .i64 ty, .int .i64 0, .bool false, .int .i64 0, .bool false, .int .u64 0, .int .u64 0, .bool false, .bool false, .int .u64 0, .int .u64 0, .bool false, .int .i64 0, .bool false, .int .i64 0, .bool false]) ∧ Grew w w' := by
  obtain ⟨es, hes⟩ : ∃ es : Array Value, es = #[.int .i64 4, .int .i64 ty, .int .i64 tn, .bool tz, .int .i64 th, .bool tw, .int .u64 tp, .int .u64 tq, .bool tm, .bool mw, .int .u64 mp, .int .u64 mq, .bool mm, .int .i64 gn, .bool gz, .int .i64 gh, .bool gm] := ⟨_, rfl⟩
  rw [← hes]
  have e0 : es[0]? = some (.int .i64 4) := by rw [hes]; rfl
  have e1 : es[1]? = some (.int .i64 ty) := by rw [hes]; rfl
  have a0 := heap_alloc_last w (.cells es 35)
  have a1 := heap_alloc a0 (.cells #[.int .i64 0, .int .i64 0, .int .i64 0, .bool false, .int .i64 0, .bool false, .int .u64 0, .int .u64 0, .bool false, .bool false, .int .u64 0, .int .u64 0, .bool false, .int .i64 0, .bool false, .int .i64 0, .bool false] 35)
  have a0c0 := (cell_of a0 0).trans e0
  have a0c1 := (cell_of a0 1).trans e1
  have a1c0 := (cell_of a1 0).trans e0
  have a1c1 := (cell_of a1 1).trans e1
  clear hes
  go_enter Tryz.func51, Tryz.ntmps51
  go_wp2_with (first
    | (refine at_load 35 rfl ?_; refine wpList_load_row rfl 35 _ rfl (w.heap.size + 1 + 1) rfl 35 #[.int .i64 4, .int .i64 ty, .int .i64 0, .bool false, .int .i64 0, .bool false, .int .u64 0, .int .u64 0, .bool false, .bool false, .int .u64 0, .int .u64 0, .bool false, .int .i64 0, .bool false, .int .i64 0, .bool false] (0, 0) _ (heap_three' _ _ _ _).2.2 Tryz.underlying35 rfl (by kernel_rfl) ?_)
    | fail)
  exact bodyPost_ret (results_cell_row Tryz.results51 _ _ (w.heap.size + 1) 35 #[.int .i64 4, .int .i64 ty, .int .i64 0, .bool false, .int .i64 0, .bool false, .int .u64 0, .int .u64 0, .bool false, .bool false, .int .u64 0, .int .u64 0, .bool false, .int .i64 0, .bool false, .int .i64 0, .bool false] (0, 0) _ rfl (heap_three' _ _ _ _).2.1 Tryz.underlying35 rfl (by kernel_rfl)) rfl ⟨rfl, (((Grew.refl w).alloc _).alloc _).alloc _⟩
end Go.Proofs.YtchehejjdinifaaGreatDoor
