/-
  vref's table of steps: which opcodes have one; no statement is proved here.
-/
import Derived.Test.YtikbfhhebhhglaaGreatDoorVrC
import Derived.Test.YtikbfhhebhhglaaGreatDoorVrM
namespace Go.Proofs.YtikbfhhebhhglaaGreatDoor
open Go.RowKit
set_option linter.unusedVariables false
set_option linter.unusedSimpArgs false

set_option maxRecDepth 100000 in
set_option maxHeartbeats 2000000 in
theorem converts_fn (a b : Int) (w : World) : Calls Tryz.prog 94 #[.int .i64 a, .int .i64 b] w fun en w' => ∃ v, en = .returned v ∧ isFn v ∧ Grew w w' := by
  have CT : Hid (∀ f1 f2 A1 A2 B1 B2 X, Calls Tryz.prog 27 #[.func (.func f1) A1 B1, .func (.func f2) A2 B2] X fun en w' => ∃ v, en = .returned v ∧ isFn v ∧ Grew X w') := turns_fn
  have GP : Hid (Grew w w) := Grew.refl w
  go_enter Tryz.func94, Tryz.ntmps94
  go_wp2_with fail
  repeat (first
    | (with_reducible refine (CT.out _ _ _ _ _ _ _).mono ?_
       rintro en wn ⟨v, rfl, hv, gn⟩
       have gx : Grew w wn := Grew.trans (by repeat (first | with_reducible exact GP.out | with_reducible exact Grew.refl _ | refine Grew.alloc ?_ _ | refine Grew.set ?_ (by simp) _ | refine Grew.drewN ?_ _ | refine Grew.drew ?_)) gn
       clear GP
       have GP := Hid.mk' gx
       clear gn gx
       obtain ⟨fn, fA, fB, rfl⟩ := hv
       go_wp2_with fail))
  go_ret
  exact ⟨_, rfl, ⟨_, _, _, rfl⟩, (by repeat (first | with_reducible exact GP.out | with_reducible exact Grew.refl _ | refine Grew.alloc ?_ _ | refine Grew.set ?_ (by simp) _ | refine Grew.drewN ?_ _ | refine Grew.drew ?_))⟩
set_option maxRecDepth 100000 in
theorem acc_64258 (w : World) : Calls Tryz.prog 75 #[.int .i64 64258] w fun en w' => ∃ k s p, en = .returned (.agg #[.int .i64 k, .bool s, .bool p]) ∧ Grew w w' := by
  go_enter Tryz.func75, Tryz.ntmps75
  go_wp2_with fail
  refine bodyPost_ret (v := .agg #[.int .i64 2, .bool false, .bool false]) (by simp [results, Tryz.results75, go_sem]) rfl ?_
  exact ⟨_, _, _, rfl, by repeat (first | with_reducible exact Grew.refl _ | refine Grew.alloc ?_ _ | refine Grew.set ?_ (by simp) _ | refine Grew.drewN ?_ _ | refine Grew.drew ?_)⟩
set_option maxRecDepth 100000 in
set_option maxHeartbeats 2000000 in
theorem at_64258 (w : World) : Calls Tryz.prog 38 #[.agg #[.slice none 0 0, .slice none 0 0, .slice none 0 0, .slice none 0 0, .slice none 0 0, .slice none 0 0, .slice none 0 0, .int .i64 0, .slice none 0 0], .agg #[.int .i64 64258, .int .u32 0, .int .u32 0, .int .u64 0, .int .u32 0, .int .u32 0, .int .u64 0, .int .i64 0, .int .i64 0, .bool false, .int .i64 0, .slice none 0 0, .slice none 0 0, .bool false, .slice none 0 0, .slice none 0 0, .slice none 0 0]] w fun en w' => ∃ v, en = .returned v ∧ isFn v ∧ Grew w w' := by
  have N1 : ((w.alloc (.cells #[.slice none 0 0, .slice none 0 0, .slice none 0 0, .slice none 0 0, .slice none 0 0, .slice none 0 0, .slice none 0 0, .int .i64 0, .slice none 0 0] 30)).alloc (.cells #[.int .i64 64258, .int .u32 0, .int .u32 0, .int .u64 0, .int .u32 0, .int .u32 0, .int .u64 0, .int .i64 0, .int .i64 0, .bool false, .int .i64 0, .slice none 0 0, .slice none 0 0, .bool false, .slice none 0 0, .slice none 0 0, .slice none 0 0] 52)).heap[w.heap.size + 1]? = some (.cells #[.int .i64 64258, .int .u32 0, .int .u32 0, .int .u64 0, .int .u32 0, .int .u32 0, .int .u64 0, .int .i64 0, .int .i64 0, .bool false, .int .i64 0, .slice none 0 0, .slice none 0 0, .bool false, .slice none 0 0, .slice none 0 0, .slice none 0 0] 52 (0, 0)) := by
    have := heap_alloc_last (w.alloc (.cells #[.slice none 0 0, .slice none 0 0, .slice none 0 0, .slice none 0 0, .slice none 0 0, .slice none 0 0, .slice none 0 0, .int .i64 0, .slice none 0 0] 30)) (.cells #[.int .i64 64258, .int .u32 0, .int .u32 0, .int .u64 0, .int .u32 0, .int .u32 0, .int .u64 0, .int .i64 0, .int .i64 0, .bool false, .int .i64 0, .slice none 0 0, .slice none 0 0, .bool false, .slice none 0 0, .slice none 0 0, .slice none 0 0] 52)
    rw [alloc_size] at this
    exact this
  have N0 : ((w.alloc (.cells #[.slice none 0 0, .slice none 0 0, .slice none 0 0, .slice none 0 0, .slice none 0 0, .slice none 0 0, .slice none 0 0, .int .i64 0, .slice none 0 0] 30)).alloc (.cells #[.int .i64 64258, .int .u32 0, .int .u32 0, .int .u64 0, .int .u32 0, .int .u32 0, .int .u64 0, .int .i64 0, .int .i64 0, .bool false, .int .i64 0, .slice none 0 0, .slice none 0 0, .bool false, .slice none 0 0, .slice none 0 0, .slice none 0 0] 52)).heap[w.heap.size]? = some (.cells #[.slice none 0 0, .slice none 0 0, .slice none 0 0, .slice none 0 0, .slice none 0 0, .slice none 0 0, .slice none 0 0, .int .i64 0, .slice none 0 0] 30 (0, 0)) := heap_alloc (heap_alloc_last _ _) _
  have HN := Hid.mk' N1
  have HM := Hid.mk' N0
  clear N1 N0
  have CQ : Hid (∀ X, Calls Tryz.prog 75 #[.int .i64 64258] X fun en w' => ∃ k s p, en = .returned (.agg #[.int .i64 k, .bool s, .bool p]) ∧ Grew X w') := acc_64258
  have GP : Hid (Grew w w) := Grew.refl w
  go_enter Tryz.func38, Tryz.ntmps38
  go_wp2_with (first
    | (with_reducible refine stop_load 30 rfl ?_
       unfold Stop
       refine wpList_load_row rfl 30 _ rfl (w.heap.size) (by go_simp) 30 #[.slice none 0 0, .slice none 0 0, .slice none 0 0, .slice none 0 0, .slice none 0 0, .slice none 0 0, .slice none 0 0, .int .i64 0, .slice none 0 0] (0, 0) _ HM.out Tryz.underlying30 rfl (by kernel_rfl) ?_)
    | (with_reducible refine stop_load 52 rfl ?_
       unfold Stop
       refine wpList_load_row rfl 52 _ rfl (w.heap.size + 1) (by go_simp) 52 #[.int .i64 64258, .int .u32 0, .int .u32 0, .int .u64 0, .int .u32 0, .int .u32 0, .int .u64 0, .int .i64 0, .int .i64 0, .bool false, .int .i64 0, .slice none 0 0, .slice none 0 0, .bool false, .slice none 0 0, .slice none 0 0, .slice none 0 0] (0, 0) _ HN.out Tryz.underlying52 rfl (by kernel_rfl) ?_)
    | fail)
  repeat (first
    | (with_reducible refine (CQ.out _).mono ?_
       rintro en wn ⟨kk, ks, kp, rfl, gn⟩
       have gx : Grew w wn := Grew.trans (by repeat (first | with_reducible exact GP.out | with_reducible exact Grew.refl _ | refine Grew.alloc ?_ _ | refine Grew.set ?_ (by simp) _ | refine Grew.drewN ?_ _ | refine Grew.drew ?_)) gn
       clear GP
       have GP := Hid.mk' gx
       clear gn gx
       go_wp2_with (first
    | (with_reducible refine stop_load 30 rfl ?_
       unfold Stop
       refine wpList_load_row rfl 30 _ rfl (w.heap.size) (by go_simp) 30 #[.slice none 0 0, .slice none 0 0, .slice none 0 0, .slice none 0 0, .slice none 0 0, .slice none 0 0, .slice none 0 0, .int .i64 0, .slice none 0 0] (0, 0) _ HM.out Tryz.underlying30 rfl (by kernel_rfl) ?_)
    | (with_reducible refine stop_load 52 rfl ?_
       unfold Stop
       refine wpList_load_row rfl 52 _ rfl (w.heap.size + 1) (by go_simp) 52 #[.int .i64 64258, .int .u32 0, .int .u32 0, .int .u64 0, .int .u32 0, .int .u32 0, .int .u64 0, .int .i64 0, .int .i64 0, .bool false, .int .i64 0, .slice none 0 0, .slice none 0 0, .bool false, .slice none 0 0, .slice none 0 0, .slice none 0 0] (0, 0) _ HN.out Tryz.underlying52 rfl (by kernel_rfl) ?_)
    | fail)))
  go_ret
  exact ⟨_, rfl, ⟨_, _, _, rfl⟩, (by repeat (first | with_reducible exact GP.out | with_reducible exact Grew.refl _ | refine Grew.alloc ?_ _ | refine Grew.set ?_ (by simp) _ | refine Grew.drewN ?_ _ | refine Grew.drew ?_))⟩
set_option maxRecDepth 100000 in
theorem acc_64259 (w : World) : Calls Tryz.prog 75 #[.int .i64 64259] w fun en w' => ∃ k s p, en = .returned (.agg #[.int .i64 k, .bool s, .bool p]) ∧ Grew w w' := by
  go_enter Tryz.func75, Tryz.ntmps75
  go_wp2_with fail
  refine bodyPost_ret (v := .agg #[.int .i64 2, .bool false, .bool true]) (by simp [results, Tryz.results75, go_sem]) rfl ?_
  exact ⟨_, _, _, rfl, by repeat (first | with_reducible exact Grew.refl _ | refine Grew.alloc ?_ _ | refine Grew.set ?_ (by simp) _ | refine Grew.drewN ?_ _ | refine Grew.drew ?_)⟩
set_option maxRecDepth 100000 in
set_option maxHeartbeats 2000000 in
theorem at_64259 (w : World) : Calls Tryz.prog 38 #[.agg #[.slice none 0 0, .slice none 0 0, .slice none 0 0, .slice none 0 0, .slice none 0 0, .slice none 0 0, .slice none 0 0, .int .i64 0, .slice none 0 0], .agg #[.int .i64 64259, .int .u32 0, .int .u32 0, .int .u64 0, .int .u32 0, .int .u32 0, .int .u64 0, .int .i64 0, .int .i64 0, .bool false, .int .i64 0, .slice none 0 0, .slice none 0 0, .bool false, .slice none 0 0, .slice none 0 0, .slice none 0 0]] w fun en w' => ∃ v, en = .returned v ∧ isFn v ∧ Grew w w' := by
  have N1 : ((w.alloc (.cells #[.slice none 0 0, .slice none 0 0, .slice none 0 0, .slice none 0 0, .slice none 0 0, .slice none 0 0, .slice none 0 0, .int .i64 0, .slice none 0 0] 30)).alloc (.cells #[.int .i64 64259, .int .u32 0, .int .u32 0, .int .u64 0, .int .u32 0, .int .u32 0, .int .u64 0, .int .i64 0, .int .i64 0, .bool false, .int .i64 0, .slice none 0 0, .slice none 0 0, .bool false, .slice none 0 0, .slice none 0 0, .slice none 0 0] 52)).heap[w.heap.size + 1]? = some (.cells #[.int .i64 64259, .int .u32 0, .int .u32 0, .int .u64 0, .int .u32 0, .int .u32 0, .int .u64 0, .int .i64 0, .int .i64 0, .bool false, .int .i64 0, .slice none 0 0, .slice none 0 0, .bool false, .slice none 0 0, .slice none 0 0, .slice none 0 0] 52 (0, 0)) := by
    have := heap_alloc_last (w.alloc (.cells #[.slice none 0 0, .slice none 0 0, .slice none 0 0, .slice none 0 0, .slice none 0 0, .slice none 0 0, .slice none 0 0, .int .i64 0, .slice none 0 0] 30)) (.cells #[.int .i64 64259, .int .u32 0, .int .u32 0, .int .u64 0, .int .u32 0, .int .u32 0, .int .u64 0, .int .i64 0, .int .i64 0, .bool false, .int .i64 0, .slice none 0 0, .slice none 0 0, .bool false, .slice none 0 0, .slice none 0 0, .slice none 0 0] 52)
    rw [alloc_size] at this
    exact this
  have N0 : ((w.alloc (.cells #[.slice none 0 0, .slice none 0 0, .slice none 0 0, .slice none 0 0, .slice none 0 0, .slice none 0 0, .slice none 0 0, .int .i64 0, .slice none 0 0] 30)).alloc (.cells #[.int .i64 64259, .int .u32 0, .int .u32 0, .int .u64 0, .int .u32 0, .int .u32 0, .int .u64 0, .int .i64 0, .int .i64 0, .bool false, .int .i64 0, .slice none 0 0, .slice none 0 0, .bool false, .slice none 0 0, .slice none 0 0, .slice none 0 0] 52)).heap[w.heap.size]? = some (.cells #[.slice none 0 0, .slice none 0 0, .slice none 0 0, .slice none 0 0, .slice none 0 0, .slice none 0 0, .slice none 0 0, .int .i64 0, .slice none 0 0] 30 (0, 0)) := heap_alloc (heap_alloc_last _ _) _
  have HN := Hid.mk' N1
  have HM := Hid.mk' N0
  clear N1 N0
  have CQ : Hid (∀ X, Calls Tryz.prog 75 #[.int .i64 64259] X fun en w' => ∃ k s p, en = .returned (.agg #[.int .i64 k, .bool s, .bool p]) ∧ Grew X w') := acc_64259
  have GP : Hid (Grew w w) := Grew.refl w
  go_enter Tryz.func38, Tryz.ntmps38
  go_wp2_with (first
    | (with_reducible refine stop_load 30 rfl ?_
       unfold Stop
       refine wpList_load_row rfl 30 _ rfl (w.heap.size) (by go_simp) 30 #[.slice none 0 0, .slice none 0 0, .slice none 0 0, .slice none 0 0, .slice none 0 0, .slice none 0 0, .slice none 0 0, .int .i64 0, .slice none 0 0] (0, 0) _ HM.out Tryz.underlying30 rfl (by kernel_rfl) ?_)
    | (with_reducible refine stop_load 52 rfl ?_
       unfold Stop
       refine wpList_load_row rfl 52 _ rfl (w.heap.size + 1) (by go_simp) 52 #[.int .i64 64259, .int .u32 0, .int .u32 0, .int .u64 0, .int .u32 0, .int .u32 0, .int .u64 0, .int .i64 0, .int .i64 0, .bool false, .int .i64 0, .slice none 0 0, .slice none 0 0, .bool false, .slice none 0 0, .slice none 0 0, .slice none 0 0] (0, 0) _ HN.out Tryz.underlying52 rfl (by kernel_rfl) ?_)
    | fail)
  repeat (first
    | (with_reducible refine (CQ.out _).mono ?_
       rintro en wn ⟨kk, ks, kp, rfl, gn⟩
       have gx : Grew w wn := Grew.trans (by repeat (first | with_reducible exact GP.out | with_reducible exact Grew.refl _ | refine Grew.alloc ?_ _ | refine Grew.set ?_ (by simp) _ | refine Grew.drewN ?_ _ | refine Grew.drew ?_)) gn
       clear GP
       have GP := Hid.mk' gx
       clear gn gx
       go_wp2_with (first
    | (with_reducible refine stop_load 30 rfl ?_
       unfold Stop
       refine wpList_load_row rfl 30 _ rfl (w.heap.size) (by go_simp) 30 #[.slice none 0 0, .slice none 0 0, .slice none 0 0, .slice none 0 0, .slice none 0 0, .slice none 0 0, .slice none 0 0, .int .i64 0, .slice none 0 0] (0, 0) _ HM.out Tryz.underlying30 rfl (by kernel_rfl) ?_)
    | (with_reducible refine stop_load 52 rfl ?_
       unfold Stop
       refine wpList_load_row rfl 52 _ rfl (w.heap.size + 1) (by go_simp) 52 #[.int .i64 64259, .int .u32 0, .int .u32 0, .int .u64 0, .int .u32 0, .int .u32 0, .int .u64 0, .int .i64 0, .int .i64 0, .bool false, .int .i64 0, .slice none 0 0, .slice none 0 0, .bool false, .slice none 0 0, .slice none 0 0, .slice none 0 0] (0, 0) _ HN.out Tryz.underlying52 rfl (by kernel_rfl) ?_)
    | fail)))
  go_ret
  exact ⟨_, rfl, ⟨_, _, _, rfl⟩, (by repeat (first | with_reducible exact GP.out | with_reducible exact Grew.refl _ | refine Grew.alloc ?_ _ | refine Grew.set ?_ (by simp) _ | refine Grew.drewN ?_ _ | refine Grew.drew ?_))⟩
set_option maxRecDepth 100000 in
theorem acc_64260 (w : World) : Calls Tryz.prog 75 #[.int .i64 64260] w fun en w' => ∃ k s p, en = .returned (.agg #[.int .i64 k, .bool s, .bool p]) ∧ Grew w w' := by
  go_enter Tryz.func75, Tryz.ntmps75
  go_wp2_with fail
  refine bodyPost_ret (v := .agg #[.int .i64 2, .bool false, .bool true]) (by simp [results, Tryz.results75, go_sem]) rfl ?_
  exact ⟨_, _, _, rfl, by repeat (first | with_reducible exact Grew.refl _ | refine Grew.alloc ?_ _ | refine Grew.set ?_ (by simp) _ | refine Grew.drewN ?_ _ | refine Grew.drew ?_)⟩
set_option maxRecDepth 100000 in
set_option maxHeartbeats 2000000 in
theorem at_64260 (w : World) : Calls Tryz.prog 38 #[.agg #[.slice none 0 0, .slice none 0 0, .slice none 0 0, .slice none 0 0, .slice none 0 0, .slice none 0 0, .slice none 0 0, .int .i64 0, .slice none 0 0], .agg #[.int .i64 64260, .int .u32 0, .int .u32 0, .int .u64 0, .int .u32 0, .int .u32 0, .int .u64 0, .int .i64 0, .int .i64 0, .bool false, .int .i64 0, .slice none 0 0, .slice none 0 0, .bool false, .slice none 0 0, .slice none 0 0, .slice none 0 0]] w fun en w' => ∃ v, en = .returned v ∧ isFn v ∧ Grew w w' := by
  have N1 : ((w.alloc (.cells #[.slice none 0 0, .slice none 0 0, .slice none 0 0, .slice none 0 0, .slice none 0 0, .slice none 0 0, .slice none 0 0, .int .i64 0, .slice none 0 0] 30)).alloc (.cells #[.int .i64 64260, .int .u32 0, .int .u32 0, .int .u64 0, .int .u32 0, .int .u32 0, .int .u64 0, .int .i64 0, .int .i64 0, .bool false, .int .i64 0, .slice none 0 0, .slice none 0 0, .bool false, .slice none 0 0, .slice none 0 0, .slice none 0 0] 52)).heap[w.heap.size + 1]? = some (.cells #[.int .i64 64260, .int .u32 0, .int .u32 0, .int .u64 0, .int .u32 0, .int .u32 0, .int .u64 0, .int .i64 0, .int .i64 0, .bool false, .int .i64 0, .slice none 0 0, .slice none 0 0, .bool false, .slice none 0 0, .slice none 0 0, .slice none 0 0] 52 (0, 0)) := by
    have := heap_alloc_last (w.alloc (.cells #[.slice none 0 0, .slice none 0 0, .slice none 0 0, .slice none 0 0, .slice none 0 0, .slice none 0 0, .slice none 0 0, .int .i64 0, .slice none 0 0] 30)) (.cells #[.int .i64 64260, .int .u32 0, .int .u32 0, .int .u64 0, .int .u32 0, .int .u32 0, .int .u64 0, .int .i64 0, .int .i64 0, .bool false, .int .i64 0, .slice none 0 0, .slice none 0 0, .bool false, .slice none 0 0, .slice none 0 0, .slice none 0 0] 52)
    rw [alloc_size] at this
    exact this
  have N0 : ((w.alloc (.cells #[.slice none 0 0, .slice none 0 0, .slice none 0 0, .slice none 0 0, .slice none 0 0, .slice none 0 0, .slice none 0 0, .int .i64 0, .slice none 0 0] 30)).alloc (.cells #[.int .i64 64260, .int .u32 0, .int .u32 0, .int .u64 0, .int .u32 0, .int .u32 0, .int .u64 0, .int .i64 0, .int .i64 0, .bool false, .int .i64 0, .slice none 0 0, .slice none 0 0, .bool false, .slice none 0 0, .slice none 0 0, .slice none 0 0] 52)).heap[w.heap.size]? = some (.cells #[.slice none 0 0, .slice none 0 0, .slice none 0 0, .slice none 0 0, .slice none 0 0, .slice none 0 0, .slice none 0 0, .int .i64 0, .slice none 0 0] 30 (0, 0)) := heap_alloc (heap_alloc_last _ _) _
  have HN := Hid.mk' N1
  have HM := Hid.mk' N0
  clear N1 N0
  have CQ : Hid (∀ X, Calls Tryz.prog 75 #[.int .i64 64260] X fun en w' => ∃ k s p, en = .returned (.agg #[.int .i64 k, .bool s, .bool p]) ∧ Grew X w') := acc_64260
  have GP : Hid (Grew w w) := Grew.refl w
  go_enter Tryz.func38, Tryz.ntmps38
  go_wp2_with (first
    | (with_reducible refine stop_load 30 rfl ?_
       unfold Stop
       refine wpList_load_row rfl 30 _ rfl (w.heap.size) (by go_simp) 30 #[.slice none 0 0, .slice none 0 0, .slice none 0 0, .slice none 0 0, .slice none 0 0, .slice none 0 0, .slice none 0 0, .int .i64 0, .slice none 0 0] (0, 0) _ HM.out Tryz.underlying30 rfl (by kernel_rfl) ?_)
    | (with_reducible refine stop_load 52 rfl ?_
       unfold Stop
       refine wpList_load_row rfl 52 _ rfl (w.heap.size + 1) (by go_simp) 52 #[.int .i64 64260, .int .u32 0, .int .u32 0, .int .u64 0, .int .u32 0, .int .u32 0, .int .u64 0, .int .i64 0, .int .i64 0, .bool false, .int .i64 0, .slice none 0 0, .slice none 0 0, .bool false, .slice none 0 0, .slice none 0 0, .slice none 0 0] (0, 0) _ HN.out Tryz.underlying52 rfl (by kernel_rfl) ?_)
    | fail)
  repeat (first
    | (with_reducible refine (CQ.out _).mono ?_
       rintro en wn ⟨kk, ks, kp, rfl, gn⟩
       have gx : Grew w wn := Grew.trans (by repeat (first | with_reducible exact GP.out | with_reducible exact Grew.refl _ | refine Grew.alloc ?_ _ | refine Grew.set ?_ (by simp) _ | refine Grew.drewN ?_ _ | refine Grew.drew ?_)) gn
       clear GP
       have GP := Hid.mk' gx
       clear gn gx
       go_wp2_with (first
    | (with_reducible refine stop_load 30 rfl ?_
       unfold Stop
       refine wpList_load_row rfl 30 _ rfl (w.heap.size) (by go_simp) 30 #[.slice none 0 0, .slice none 0 0, .slice none 0 0, .slice none 0 0, .slice none 0 0, .slice none 0 0, .slice none 0 0, .int .i64 0, .slice none 0 0] (0, 0) _ HM.out Tryz.underlying30 rfl (by kernel_rfl) ?_)
    | (with_reducible refine stop_load 52 rfl ?_
       unfold Stop
       refine wpList_load_row rfl 52 _ rfl (w.heap.size + 1) (by go_simp) 52 #[.int .i64 64260, .int .u32 0, .int .u32 0, .int .u64 0, .int .u32 0, .int .u32 0, .int .u64 0, .int .i64 0, .int .i64 0, .bool false, .int .i64 0, .slice none 0 0, .slice none 0 0, .bool false, .slice none 0 0, .slice none 0 0, .slice none 0 0] (0, 0) _ HN.out Tryz.underlying52 rfl (by kernel_rfl) ?_)
    | fail)))
  go_ret
  exact ⟨_, rfl, ⟨_, _, _, rfl⟩, (by repeat (first | with_reducible exact GP.out | with_reducible exact Grew.refl _ | refine Grew.alloc ?_ _ | refine Grew.set ?_ (by simp) _ | refine Grew.drewN ?_ _ | refine Grew.drew ?_))⟩
set_option maxRecDepth 100000 in
theorem acc_64261 (w : World) : Calls Tryz.prog 75 #[.int .i64 64261] w fun en w' => ∃ k s p, en = .returned (.agg #[.int .i64 k, .bool s, .bool p]) ∧ Grew w w' := by
  go_enter Tryz.func75, Tryz.ntmps75
  go_wp2_with fail
  refine bodyPost_ret (v := .agg #[.int .i64 2, .bool true, .bool false]) (by simp [results, Tryz.results75, go_sem]) rfl ?_
  exact ⟨_, _, _, rfl, by repeat (first | with_reducible exact Grew.refl _ | refine Grew.alloc ?_ _ | refine Grew.set ?_ (by simp) _ | refine Grew.drewN ?_ _ | refine Grew.drew ?_)⟩
set_option maxRecDepth 100000 in
set_option maxHeartbeats 2000000 in
theorem at_64261 (w : World) : Calls Tryz.prog 38 #[.agg #[.slice none 0 0, .slice none 0 0, .slice none 0 0, .slice none 0 0, .slice none 0 0, .slice none 0 0, .slice none 0 0, .int .i64 0, .slice none 0 0], .agg #[.int .i64 64261, .int .u32 0, .int .u32 0, .int .u64 0, .int .u32 0, .int .u32 0, .int .u64 0, .int .i64 0, .int .i64 0, .bool false, .int .i64 0, .slice none 0 0, .slice none 0 0, .bool false, .slice none 0 0, .slice none 0 0, .slice none 0 0]] w fun en w' => ∃ v, en = .returned v ∧ isFn v ∧ Grew w w' := by
  have N1 : ((w.alloc (.cells #[.slice none 0 0, .slice none 0 0, .slice none 0 0, .slice none 0 0, .slice none 0 0, .slice none 0 0, .slice none 0 0, .int .i64 0, .slice none 0 0] 30)).alloc (.cells #[.int .i64 64261, .int .u32 0, .int .u32 0, .int .u64 0, .int .u32 0, .int .u32 0, .int .u64 0, .int .i64 0, .int .i64 0, .bool false, .int .i64 0, .slice none 0 0, .slice none 0 0, .bool false, .slice none 0 0, .slice none 0 0, .slice none 0 0] 52)).heap[w.heap.size + 1]? = some (.cells #[.int .i64 64261, .int .u32 0, .int .u32 0, .int .u64 0, .int .u32 0, .int .u32 0, .int .u64 0, .int .i64 0, .int .i64 0, .bool false, .int .i64 0, .slice none 0 0, .slice none 0 0, .bool false, .slice none 0 0, .slice none 0 0, .slice none 0 0] 52 (0, 0)) := by
    have := heap_alloc_last (w.alloc (.cells #[.slice none 0 0, .slice none 0 0, .slice none 0 0, .slice none 0 0, .slice none 0 0, .slice none 0 0, .slice none 0 0, .int .i64 0, .slice none 0 0] 30)) (.cells #[.int .i64 64261, .int .u32 0, .int .u32 0, .int .u64 0, .int .u32 0, .int .u32 0, .int .u64 0, .int .i64 0, .int .i64 0, .bool false, .int .i64 0, .slice none 0 0, .slice none 0 0, .bool false, .slice none 0 0, .slice none 0 0, .slice none 0 0] 52)
    rw [alloc_size] at this
    exact this
  have N0 : ((w.alloc (.cells #[.slice none 0 0, .slice none 0 0, .slice none 0 0, .slice none 0 0, .slice none 0 0, .slice none 0 0, .slice none 0 0, .int .i64 0, .slice none 0 0] 30)).alloc (.cells #[.int .i64 64261, .int .u32 0, .int .u32 0, .int .u64 0, .int .u32 0, .int .u32 0, .int .u64 0, .int .i64 0, .int .i64 0, .bool false, .int .i64 0, .slice none 0 0, .slice none 0 0, .bool false, .slice none 0 0, .slice none 0 0, .slice none 0 0] 52)).heap[w.heap.size]? = some (.cells #[.slice none 0 0, .slice none 0 0, .slice none 0 0, .slice none 0 0, .slice none 0 0, .slice none 0 0, .slice none 0 0, .int .i64 0, .slice none 0 0] 30 (0, 0)) := heap_alloc (heap_alloc_last _ _) _
  have HN := Hid.mk' N1
  have HM := Hid.mk' N0
  clear N1 N0
  have CQ : Hid (∀ X, Calls Tryz.prog 75 #[.int .i64 64261] X fun en w' => ∃ k s p, en = .returned (.agg #[.int .i64 k, .bool s, .bool p]) ∧ Grew X w') := acc_64261
  have GP : Hid (Grew w w) := Grew.refl w
  go_enter Tryz.func38, Tryz.ntmps38
  go_wp2_with (first
    | (with_reducible refine stop_load 30 rfl ?_
       unfold Stop
       refine wpList_load_row rfl 30 _ rfl (w.heap.size) (by go_simp) 30 #[.slice none 0 0, .slice none 0 0, .slice none 0 0, .slice none 0 0, .slice none 0 0, .slice none 0 0, .slice none 0 0, .int .i64 0, .slice none 0 0] (0, 0) _ HM.out Tryz.underlying30 rfl (by kernel_rfl) ?_)
    | (with_reducible refine stop_load 52 rfl ?_
       unfold Stop
       refine wpList_load_row rfl 52 _ rfl (w.heap.size + 1) (by go_simp) 52 #[.int .i64 64261, .int .u32 0, .int .u32 0, .int .u64 0, .int .u32 0, .int .u32 0, .int .u64 0, .int .i64 0, .int .i64 0, .bool false, .int .i64 0, .slice none 0 0, .slice none 0 0, .bool false, .slice none 0 0, .slice none 0 0, .slice none 0 0] (0, 0) _ HN.out Tryz.underlying52 rfl (by kernel_rfl) ?_)
    | fail)
  repeat (first
    | (with_reducible refine (CQ.out _).mono ?_
       rintro en wn ⟨kk, ks, kp, rfl, gn⟩
       have gx : Grew w wn := Grew.trans (by repeat (first | with_reducible exact GP.out | with_reducible exact Grew.refl _ | refine Grew.alloc ?_ _ | refine Grew.set ?_ (by simp) _ | refine Grew.drewN ?_ _ | refine Grew.drew ?_)) gn
       clear GP
       have GP := Hid.mk' gx
       clear gn gx
       go_wp2_with (first
    | (with_reducible refine stop_load 30 rfl ?_
       unfold Stop
       refine wpList_load_row rfl 30 _ rfl (w.heap.size) (by go_simp) 30 #[.slice none 0 0, .slice none 0 0, .slice none 0 0, .slice none 0 0, .slice none 0 0, .slice none 0 0, .slice none 0 0, .int .i64 0, .slice none 0 0] (0, 0) _ HM.out Tryz.underlying30 rfl (by kernel_rfl) ?_)
    | (with_reducible refine stop_load 52 rfl ?_
       unfold Stop
       refine wpList_load_row rfl 52 _ rfl (w.heap.size + 1) (by go_simp) 52 #[.int .i64 64261, .int .u32 0, .int .u32 0, .int .u64 0, .int .u32 0, .int .u32 0, .int .u64 0, .int .i64 0, .int .i64 0, .bool false, .int .i64 0, .slice none 0 0, .slice none 0 0, .bool false, .slice none 0 0, .slice none 0 0, .slice none 0 0] (0, 0) _ HN.out Tryz.underlying52 rfl (by kernel_rfl) ?_)
    | fail)))
  go_ret
  exact ⟨_, rfl, ⟨_, _, _, rfl⟩, (by repeat (first | with_reducible exact GP.out | with_reducible exact Grew.refl _ | refine Grew.alloc ?_ _ | refine Grew.set ?_ (by simp) _ | refine Grew.drewN ?_ _ | refine Grew.drew ?_))⟩
set_option maxRecDepth 100000 in
theorem acc_64267 (w : World) : Calls Tryz.prog 75 #[.int .i64 64267] w fun en w' => ∃ k s p, en = .returned (.agg #[.int .i64 k, .bool s, .bool p]) ∧ Grew w w' := by
  go_enter Tryz.func75, Tryz.ntmps75
  go_wp2_with fail
  refine bodyPost_ret (v := .agg #[.int .i64 3, .bool false, .bool false]) (by simp [results, Tryz.results75, go_sem]) rfl ?_
  exact ⟨_, _, _, rfl, by repeat (first | with_reducible exact Grew.refl _ | refine Grew.alloc ?_ _ | refine Grew.set ?_ (by simp) _ | refine Grew.drewN ?_ _ | refine Grew.drew ?_)⟩
set_option maxRecDepth 100000 in
set_option maxHeartbeats 2000000 in
theorem at_64267 (w : World) : Calls Tryz.prog 38 #[.agg #[.slice none 0 0, .slice none 0 0, .slice none 0 0, .slice none 0 0, .slice none 0 0, .slice none 0 0, .slice none 0 0, .int .i64 0, .slice none 0 0], .agg #[.int .i64 64267, .int .u32 0, .int .u32 0, .int .u64 0, .int .u32 0, .int .u32 0, .int .u64 0, .int .i64 0, .int .i64 0, .bool false, .int .i64 0, .slice none 0 0, .slice none 0 0, .bool false, .slice none 0 0, .slice none 0 0, .slice none 0 0]] w fun en w' => ∃ v, en = .returned v ∧ isFn v ∧ Grew w w' := by
  have N1 : ((w.alloc (.cells #[.slice none 0 0, .slice none 0 0, .slice none 0 0, .slice none 0 0, .slice none 0 0, .slice none 0 0, .slice none 0 0, .int .i64 0, .slice none 0 0] 30)).alloc (.cells #[.int .i64 64267, .int .u32 0, .int .u32 0, .int .u64 0, .int .u32 0, .int .u32 0, .int .u64 0, .int .i64 0, .int .i64 0, .bool false, .int .i64 0, .slice none 0 0, .slice none 0 0, .bool false, .slice none 0 0, .slice none 0 0, .slice none 0 0] 52)).heap[w.heap.size + 1]? = some (.cells #[.int .i64 64267, .int .u32 0, .int .u32 0, .int .u64 0, .int .u32 0, .int .u32 0, .int .u64 0, .int .i64 0, .int .i64 0, .bool false, .int .i64 0, .slice none 0 0, .slice none 0 0, .bool false, .slice none 0 0, .slice none 0 0, .slice none 0 0] 52 (0, 0)) := by
    have := heap_alloc_last (w.alloc (.cells #[.slice none 0 0, .slice none 0 0, .slice none 0 0, .slice none 0 0, .slice none 0 0, .slice none 0 0, .slice none 0 0, .int .i64 0, .slice none 0 0] 30)) (.cells #[.int .i64 64267, .int .u32 0, .int .u32 0, .int .u64 0, .int .u32 0, .int .u32 0, .int .u64 0, .int .i64 0, .int .i64 0, .bool false, .int .i64 0, .slice none 0 0, .slice none 0 0, .bool false, .slice none 0 0, .slice none 0 0, .slice none 0 0] 52)
    rw [alloc_size] at this
    exact this
  have N0 : ((w.alloc (.cells #[.slice none 0 0, .slice none 0 0, .slice none 0 0, .slice none 0 0, .slice none 0 0, .slice none 0 0, .slice none 0 0, .int .i64 0, .slice none 0 0] 30)).alloc (.cells #[.int .i64 64267, .int .u32 0, .int .u32 0, .int .u64 0, .int .u32 0, .int .u32 0, .int .u64 0, .int .i64 0, .int .i64 0, .bool false, .int .i64 0, .slice none 0 0, .slice none 0 0, .bool false, .slice none 0 0, .slice none 0 0, .slice none 0 0] 52)).heap[w.heap.size]? = some (.cells #[.slice none 0 0, .slice none 0 0, .slice none 0 0, .slice none 0 0, .slice none 0 0, .slice none 0 0, .slice none 0 0, .int .i64 0, .slice none 0 0] 30 (0, 0)) := heap_alloc (heap_alloc_last _ _) _
  have HN := Hid.mk' N1
  have HM := Hid.mk' N0
  clear N1 N0
  have CQ : Hid (∀ X, Calls Tryz.prog 75 #[.int .i64 64267] X fun en w' => ∃ k s p, en = .returned (.agg #[.int .i64 k, .bool s, .bool p]) ∧ Grew X w') := acc_64267
  have GP : Hid (Grew w w) := Grew.refl w
  go_enter Tryz.func38, Tryz.ntmps38
  go_wp2_with (first
    | (with_reducible refine stop_load 30 rfl ?_
       unfold Stop
       refine wpList_load_row rfl 30 _ rfl (w.heap.size) (by go_simp) 30 #[.slice none 0 0, .slice none 0 0, .slice none 0 0, .slice none 0 0, .slice none 0 0, .slice none 0 0, .slice none 0 0, .int .i64 0, .slice none 0 0] (0, 0) _ HM.out Tryz.underlying30 rfl (by kernel_rfl) ?_)
    | (with_reducible refine stop_load 52 rfl ?_
       unfold Stop
       refine wpList_load_row rfl 52 _ rfl (w.heap.size + 1) (by go_simp) 52 #[.int .i64 64267, .int .u32 0, .int .u32 0, .int .u64 0, .int .u32 0, .int .u32 0, .int .u64 0, .int .i64 0, .int .i64 0, .bool false, .int .i64 0, .slice none 0 0, .slice none 0 0, .bool false, .slice none 0 0, .slice none 0 0, .slice none 0 0] (0, 0) _ HN.out Tryz.underlying52 rfl (by kernel_rfl) ?_)
    | fail)
  repeat (first
    | (with_reducible refine (CQ.out _).mono ?_
       rintro en wn ⟨kk, ks, kp, rfl, gn⟩
       have gx : Grew w wn := Grew.trans (by repeat (first | with_reducible exact GP.out | with_reducible exact Grew.refl _ | refine Grew.alloc ?_ _ | refine Grew.set ?_ (by simp) _ | refine Grew.drewN ?_ _ | refine Grew.drew ?_)) gn
       clear GP
       have GP := Hid.mk' gx
       clear gn gx
       go_wp2_with (first
    | (with_reducible refine stop_load 30 rfl ?_
       unfold Stop
       refine wpList_load_row rfl 30 _ rfl (w.heap.size) (by go_simp) 30 #[.slice none 0 0, .slice none 0 0, .slice none 0 0, .slice none 0 0, .slice none 0 0, .slice none 0 0, .slice none 0 0, .int .i64 0, .slice none 0 0] (0, 0) _ HM.out Tryz.underlying30 rfl (by kernel_rfl) ?_)
    | (with_reducible refine stop_load 52 rfl ?_
       unfold Stop
       refine wpList_load_row rfl 52 _ rfl (w.heap.size + 1) (by go_simp) 52 #[.int .i64 64267, .int .u32 0, .int .u32 0, .int .u64 0, .int .u32 0, .int .u32 0, .int .u64 0, .int .i64 0, .int .i64 0, .bool false, .int .i64 0, .slice none 0 0, .slice none 0 0, .bool false, .slice none 0 0, .slice none 0 0, .slice none 0 0] (0, 0) _ HN.out Tryz.underlying52 rfl (by kernel_rfl) ?_)
    | fail)))
  go_ret
  exact ⟨_, rfl, ⟨_, _, _, rfl⟩, (by repeat (first | with_reducible exact GP.out | with_reducible exact Grew.refl _ | refine Grew.alloc ?_ _ | refine Grew.set ?_ (by simp) _ | refine Grew.drewN ?_ _ | refine Grew.drew ?_))⟩
set_option maxRecDepth 100000 in
theorem acc_64268 (w : World) : Calls Tryz.prog 75 #[.int .i64 64268] w fun en w' => ∃ k s p, en = .returned (.agg #[.int .i64 k, .bool s, .bool p]) ∧ Grew w w' := by
  go_enter Tryz.func75, Tryz.ntmps75
  go_wp2_with fail
  refine bodyPost_ret (v := .agg #[.int .i64 3, .bool false, .bool true]) (by simp [results, Tryz.results75, go_sem]) rfl ?_
  exact ⟨_, _, _, rfl, by repeat (first | with_reducible exact Grew.refl _ | refine Grew.alloc ?_ _ | refine Grew.set ?_ (by simp) _ | refine Grew.drewN ?_ _ | refine Grew.drew ?_)⟩
set_option maxRecDepth 100000 in
set_option maxHeartbeats 2000000 in
theorem at_64268 (w : World) : Calls Tryz.prog 38 #[.agg #[.slice none 0 0, .slice none 0 0, .slice none 0 0, .slice none 0 0, .slice none 0 0, .slice none 0 0, .slice none 0 0, .int .i64 0, .slice none 0 0], .agg #[.int .i64 64268, .int .u32 0, .int .u32 0, .int .u64 0, .int .u32 0, .int .u32 0, .int .u64 0, .int .i64 0, .int .i64 0, .bool false, .int .i64 0, .slice none 0 0, .slice none 0 0, .bool false, .slice none 0 0, .slice none 0 0, .slice none 0 0]] w fun en w' => ∃ v, en = .returned v ∧ isFn v ∧ Grew w w' := by
  have N1 : ((w.alloc (.cells #[.slice none 0 0, .slice none 0 0, .slice none 0 0, .slice none 0 0, .slice none 0 0, .slice none 0 0, .slice none 0 0, .int .i64 0, .slice none 0 0] 30)).alloc (.cells #[.int .i64 64268, .int .u32 0, .int .u32 0, .int .u64 0, .int .u32 0, .int .u32 0, .int .u64 0, .int .i64 0, .int .i64 0, .bool false, .int .i64 0, .slice none 0 0, .slice none 0 0, .bool false, .slice none 0 0, .slice none 0 0, .slice none 0 0] 52)).heap[w.heap.size + 1]? = some (.cells #[.int .i64 64268, .int .u32 0, .int .u32 0, .int .u64 0, .int .u32 0, .int .u32 0, .int .u64 0, .int .i64 0, .int .i64 0, .bool false, .int .i64 0, .slice none 0 0, .slice none 0 0, .bool false, .slice none 0 0, .slice none 0 0, .slice none 0 0] 52 (0, 0)) := by
    have := heap_alloc_last (w.alloc (.cells #[.slice none 0 0, .slice none 0 0, .slice none 0 0, .slice none 0 0, .slice none 0 0, .slice none 0 0, .slice none 0 0, .int .i64 0, .slice none 0 0] 30)) (.cells #[.int .i64 64268, .int .u32 0, .int .u32 0, .int .u64 0, .int .u32 0, .int .u32 0, .int .u64 0, .int .i64 0, .int .i64 0, .bool false, .int .i64 0, .slice none 0 0, .slice none 0 0, .bool false, .slice none 0 0, .slice none 0 0, .slice none 0 0] 52)
    rw [alloc_size] at this
    exact this
  have N0 : ((w.alloc (.cells #[.slice none 0 0, .slice none 0 0, .slice none 0 0, .slice none 0 0, .slice none 0 0, .slice none 0 0, .slice none 0 0, .int .i64 0, .slice none 0 0] 30)).alloc (.cells #[.int .i64 64268, .int .u32 0, .int .u32 0, .int .u64 0, .int .u32 0, .int .u32 0, .int .u64 0, .int .i64 0, .int .i64 0, .bool false, .int .i64 0, .slice none 0 0, .slice none 0 0, .bool false, .slice none 0 0, .slice none 0 0, .slice none 0 0] 52)).heap[w.heap.size]? = some (.cells #[.slice none 0 0, .slice none 0 0, .slice none 0 0, .slice none 0 0, .slice none 0 0, .slice none 0 0, .slice none 0 0, .int .i64 0, .slice none 0 0] 30 (0, 0)) := heap_alloc (heap_alloc_last _ _) _
  have HN := Hid.mk' N1
  have HM := Hid.mk' N0
  clear N1 N0
  have CQ : Hid (∀ X, Calls Tryz.prog 75 #[.int .i64 64268] X fun en w' => ∃ k s p, en = .returned (.agg #[.int .i64 k, .bool s, .bool p]) ∧ Grew X w') := acc_64268
  have GP : Hid (Grew w w) := Grew.refl w
  go_enter Tryz.func38, Tryz.ntmps38
  go_wp2_with (first
    | (with_reducible refine stop_load 30 rfl ?_
       unfold Stop
       refine wpList_load_row rfl 30 _ rfl (w.heap.size) (by go_simp) 30 #[.slice none 0 0, .slice none 0 0, .slice none 0 0, .slice none 0 0, .slice none 0 0, .slice none 0 0, .slice none 0 0, .int .i64 0, .slice none 0 0] (0, 0) _ HM.out Tryz.underlying30 rfl (by kernel_rfl) ?_)
    | (with_reducible refine stop_load 52 rfl ?_
       unfold Stop
       refine wpList_load_row rfl 52 _ rfl (w.heap.size + 1) (by go_simp) 52 #[.int .i64 64268, .int .u32 0, .int .u32 0, .int .u64 0, .int .u32 0, .int .u32 0, .int .u64 0, .int .i64 0, .int .i64 0, .bool false, .int .i64 0, .slice none 0 0, .slice none 0 0, .bool false, .slice none 0 0, .slice none 0 0, .slice none 0 0] (0, 0) _ HN.out Tryz.underlying52 rfl (by kernel_rfl) ?_)
    | fail)
  repeat (first
    | (with_reducible refine (CQ.out _).mono ?_
       rintro en wn ⟨kk, ks, kp, rfl, gn⟩
       have gx : Grew w wn := Grew.trans (by repeat (first | with_reducible exact GP.out | with_reducible exact Grew.refl _ | refine Grew.alloc ?_ _ | refine Grew.set ?_ (by simp) _ | refine Grew.drewN ?_ _ | refine Grew.drew ?_)) gn
       clear GP
       have GP := Hid.mk' gx
       clear gn gx
       go_wp2_with (first
    | (with_reducible refine stop_load 30 rfl ?_
       unfold Stop
       refine wpList_load_row rfl 30 _ rfl (w.heap.size) (by go_simp) 30 #[.slice none 0 0, .slice none 0 0, .slice none 0 0, .slice none 0 0, .slice none 0 0, .slice none 0 0, .slice none 0 0, .int .i64 0, .slice none 0 0] (0, 0) _ HM.out Tryz.underlying30 rfl (by kernel_rfl) ?_)
    | (with_reducible refine stop_load 52 rfl ?_
       unfold Stop
       refine wpList_load_row rfl 52 _ rfl (w.heap.size + 1) (by go_simp) 52 #[.int .i64 64268, .int .u32 0, .int .u32 0, .int .u64 0, .int .u32 0, .int .u32 0, .int .u64 0, .int .i64 0, .int .i64 0, .bool false, .int .i64 0, .slice none 0 0, .slice none 0 0, .bool false, .slice none 0 0, .slice none 0 0, .slice none 0 0] (0, 0) _ HN.out Tryz.underlying52 rfl (by kernel_rfl) ?_)
    | fail)))
  go_ret
  exact ⟨_, rfl, ⟨_, _, _, rfl⟩, (by repeat (first | with_reducible exact GP.out | with_reducible exact Grew.refl _ | refine Grew.alloc ?_ _ | refine Grew.set ?_ (by simp) _ | refine Grew.drewN ?_ _ | refine Grew.drew ?_))⟩
set_option maxRecDepth 100000 in
theorem acc_64269 (w : World) : Calls Tryz.prog 75 #[.int .i64 64269] w fun en w' => ∃ k s p, en = .returned (.agg #[.int .i64 k, .bool s, .bool p]) ∧ Grew w w' := by
  go_enter Tryz.func75, Tryz.ntmps75
  go_wp2_with fail
  refine bodyPost_ret (v := .agg #[.int .i64 3, .bool false, .bool true]) (by simp [results, Tryz.results75, go_sem]) rfl ?_
  exact ⟨_, _, _, rfl, by repeat (first | with_reducible exact Grew.refl _ | refine Grew.alloc ?_ _ | refine Grew.set ?_ (by simp) _ | refine Grew.drewN ?_ _ | refine Grew.drew ?_)⟩
set_option maxRecDepth 100000 in
set_option maxHeartbeats 2000000 in
theorem at_64269 (w : World) : Calls Tryz.prog 38 #[.agg #[.slice none 0 0, .slice none 0 0, .slice none 0 0, .slice none 0 0, .slice none 0 0, .slice none 0 0, .slice none 0 0, .int .i64 0, .slice none 0 0], .agg #[.int .i64 64269, .int .u32 0, .int .u32 0, .int .u64 0, .int .u32 0, .int .u32 0, .int .u64 0, .int .i64 0, .int .i64 0, .bool false, .int .i64 0, .slice none 0 0, .slice none 0 0, .bool false, .slice none 0 0, .slice none 0 0, .slice none 0 0]] w fun en w' => ∃ v, en = .returned v ∧ isFn v ∧ Grew w w' := by
  have N1 : ((w.alloc (.cells #[.slice none 0 0, .slice none 0 0, .slice none 0 0, .slice none 0 0, .slice none 0 0, .slice none 0 0, .slice none 0 0, .int .i64 0, .slice none 0 0] 30)).alloc (.cells #[.int .i64 64269, .int .u32 0, .int .u32 0, .int .u64 0, .int .u32 0, .int .u32 0, .int .u64 0, .int .i64 0, .int .i64 0, .bool false, .int .i64 0, .slice none 0 0, .slice none 0 0, .bool false, .slice none 0 0, .slice none 0 0, .slice none 0 0] 52)).heap[w.heap.size + 1]? = some (.cells #[.int .i64 64269, .int .u32 0, .int .u32 0, .int .u64 0, .int .u32 0, .int .u32 0, .int .u64 0, .int .i64 0, .int .i64 0, .bool false, .int .i64 0, .slice none 0 0, .slice none 0 0, .bool false, .slice none 0 0, .slice none 0 0, .slice none 0 0] 52 (0, 0)) := by
    have := heap_alloc_last (w.alloc (.cells #[.slice none 0 0, .slice none 0 0, .slice none 0 0, .slice none 0 0, .slice none 0 0, .slice none 0 0, .slice none 0 0, .int .i64 0, .slice none 0 0] 30)) (.cells #[.int .i64 64269, .int .u32 0, .int .u32 0, .int .u64 0, .int .u32 0, .int .u32 0, .int .u64 0, .int .i64 0, .int .i64 0, .bool false, .int .i64 0, .slice none 0 0, .slice none 0 0, .bool false, .slice none 0 0, .slice none 0 0, .slice none 0 0] 52)
    rw [alloc_size] at this
    exact this
  have N0 : ((w.alloc (.cells #[.slice none 0 0, .slice none 0 0, .slice none 0 0, .slice none 0 0, .slice none 0 0, .slice none 0 0, .slice none 0 0, .int .i64 0, .slice none 0 0] 30)).alloc (.cells #[.int .i64 64269, .int .u32 0, .int .u32 0, .int .u64 0, .int .u32 0, .int .u32 0, .int .u64 0, .int .i64 0, .int .i64 0, .bool false, .int .i64 0, .slice none 0 0, .slice none 0 0, .bool false, .slice none 0 0, .slice none 0 0, .slice none 0 0] 52)).heap[w.heap.size]? = some (.cells #[.slice none 0 0, .slice none 0 0, .slice none 0 0, .slice none 0 0, .slice none 0 0, .slice none 0 0, .slice none 0 0, .int .i64 0, .slice none 0 0] 30 (0, 0)) := heap_alloc (heap_alloc_last _ _) _
  have HN := Hid.mk' N1
  have HM := Hid.mk' N0
  clear N1 N0
  have CQ : Hid (∀ X, Calls Tryz.prog 75 #[.int .i64 64269] X fun en w' => ∃ k s p, en = .returned (.agg #[.int .i64 k, .bool s, .bool p]) ∧ Grew X w') := acc_64269
  have GP : Hid (Grew w w) := Grew.refl w
  go_enter Tryz.func38, Tryz.ntmps38
  go_wp2_with (first
    | (with_reducible refine stop_load 30 rfl ?_
       unfold Stop
       refine wpList_load_row rfl 30 _ rfl (w.heap.size) (by go_simp) 30 #[.slice none 0 0, .slice none 0 0, .slice none 0 0, .slice none 0 0, .slice none 0 0, .slice none 0 0, .slice none 0 0, .int .i64 0, .slice none 0 0] (0, 0) _ HM.out Tryz.underlying30 rfl (by kernel_rfl) ?_)
    | (with_reducible refine stop_load 52 rfl ?_
       unfold Stop
       refine wpList_load_row rfl 52 _ rfl (w.heap.size + 1) (by go_simp) 52 #[.int .i64 64269, .int .u32 0, .int .u32 0, .int .u64 0, .int .u32 0, .int .u32 0, .int .u64 0, .int .i64 0, .int .i64 0, .bool false, .int .i64 0, .slice none 0 0, .slice none 0 0, .bool false, .slice none 0 0, .slice none 0 0, .slice none 0 0] (0, 0) _ HN.out Tryz.underlying52 rfl (by kernel_rfl) ?_)
    | fail)
  repeat (first
    | (with_reducible refine (CQ.out _).mono ?_
       rintro en wn ⟨kk, ks, kp, rfl, gn⟩
       have gx : Grew w wn := Grew.trans (by repeat (first | with_reducible exact GP.out | with_reducible exact Grew.refl _ | refine Grew.alloc ?_ _ | refine Grew.set ?_ (by simp) _ | refine Grew.drewN ?_ _ | refine Grew.drew ?_)) gn
       clear GP
       have GP := Hid.mk' gx
       clear gn gx
       go_wp2_with (first
    | (with_reducible refine stop_load 30 rfl ?_
       unfold Stop
       refine wpList_load_row rfl 30 _ rfl (w.heap.size) (by go_simp) 30 #[.slice none 0 0, .slice none 0 0, .slice none 0 0, .slice none 0 0, .slice none 0 0, .slice none 0 0, .slice none 0 0, .int .i64 0, .slice none 0 0] (0, 0) _ HM.out Tryz.underlying30 rfl (by kernel_rfl) ?_)
    | (with_reducible refine stop_load 52 rfl ?_
       unfold Stop
       refine wpList_load_row rfl 52 _ rfl (w.heap.size + 1) (by go_simp) 52 #[.int .i64 64269, .int .u32 0, .int .u32 0, .int .u64 0, .int .u32 0, .int .u32 0, .int .u64 0, .int .i64 0, .int .i64 0, .bool false, .int .i64 0, .slice none 0 0, .slice none 0 0, .bool false, .slice none 0 0, .slice none 0 0, .slice none 0 0] (0, 0) _ HN.out Tryz.underlying52 rfl (by kernel_rfl) ?_)
    | fail)))
  go_ret
  exact ⟨_, rfl, ⟨_, _, _, rfl⟩, (by repeat (first | with_reducible exact GP.out | with_reducible exact Grew.refl _ | refine Grew.alloc ?_ _ | refine Grew.set ?_ (by simp) _ | refine Grew.drewN ?_ _ | refine Grew.drew ?_))⟩
set_option maxRecDepth 100000 in
theorem acc_64270 (w : World) : Calls Tryz.prog 75 #[.int .i64 64270] w fun en w' => ∃ k s p, en = .returned (.agg #[.int .i64 k, .bool s, .bool p]) ∧ Grew w w' := by
  go_enter Tryz.func75, Tryz.ntmps75
  go_wp2_with fail
  refine bodyPost_ret (v := .agg #[.int .i64 3, .bool true, .bool false]) (by simp [results, Tryz.results75, go_sem]) rfl ?_
  exact ⟨_, _, _, rfl, by repeat (first | with_reducible exact Grew.refl _ | refine Grew.alloc ?_ _ | refine Grew.set ?_ (by simp) _ | refine Grew.drewN ?_ _ | refine Grew.drew ?_)⟩
set_option maxRecDepth 100000 in
set_option maxHeartbeats 2000000 in
theorem at_64270 (w : World) : Calls Tryz.prog 38 #[.agg #[.slice none 0 0, .slice none 0 0, .slice none 0 0, .slice none 0 0, .slice none 0 0, .slice none 0 0, .slice none 0 0, .int .i64 0, .slice none 0 0], .agg #[.int .i64 64270, .int .u32 0, .int .u32 0, .int .u64 0, .int .u32 0, .int .u32 0, .int .u64 0, .int .i64 0, .int .i64 0, .bool false, .int .i64 0, .slice none 0 0, .slice none 0 0, .bool false, .slice none 0 0, .slice none 0 0, .slice none 0 0]] w fun en w' => ∃ v, en = .returned v ∧ isFn v ∧ Grew w w' := by
  have N1 : ((w.alloc (.cells #[.slice none 0 0, .slice none 0 0, .slice none 0 0, .slice none 0 0, .slice none 0 0, .slice none 0 0, .slice none 0 0, .int .i64 0, .slice none 0 0] 30)).alloc (.cells #[.int .i64 64270, .int .u32 0, .int .u32 0, .int .u64 0, .int .u32 0, .int .u32 0, .int .u64 0, .int .i64 0, .int .i64 0, .bool false, .int .i64 0, .slice none 0 0, .slice none 0 0, .bool false, .slice none 0 0, .slice none 0 0, .slice none 0 0] 52)).heap[w.heap.size + 1]? = some (.cells #[.int .i64 64270, .int .u32 0, .int .u32 0, .int .u64 0, .int .u32 0, .int .u32 0, .int .u64 0, .int .i64 0, .int .i64 0, .bool false, .int .i64 0, .slice none 0 0, .slice none 0 0, .bool false, .slice none 0 0, .slice none 0 0, .slice none 0 0] 52 (0, 0)) := by
    have := heap_alloc_last (w.alloc (.cells #[.slice none 0 0, .slice none 0 0, .slice none 0 0, .slice none 0 0, .slice none 0 0, .slice none 0 0, .slice none 0 0, .int .i64 0, .slice none 0 0] 30)) (.cells #[.int .i64 64270, .int .u32 0, .int .u32 0, .int .u64 0, .int .u32 0, .int .u32 0, .int .u64 0, .int .i64 0, .int .i64 0, .bool false, .int .i64 0, .slice none 0 0, .slice none 0 0, .bool false, .slice none 0 0, .slice none 0 0, .slice none 0 0] 52)
    rw [alloc_size] at this
    exact this
  have N0 : ((w.alloc (.cells #[.slice none 0 0, .slice none 0 0, .slice none 0 0, .slice none 0 0, .slice none 0 0, .slice none 0 0, .slice none 0 0, .int .i64 0, .slice none 0 0] 30)).alloc (.cells #[.int .i64 64270, .int .u32 0, .int .u32 0, .int .u64 0, .int .u32 0, .int .u32 0, .int .u64 0, .int .i64 0, .int .i64 0, .bool false, .int .i64 0, .slice none 0 0, .slice none 0 0, .bool false, .slice none 0 0, .slice none 0 0, .slice none 0 0] 52)).heap[w.heap.size]? = some (.cells #[.slice none 0 0, .slice none 0 0, .slice none 0 0, .slice none 0 0, .slice none 0 0, .slice none 0 0, .slice none 0 0, .int .i64 0, .slice none 0 0] 30 (0, 0)) := heap_alloc (heap_alloc_last _ _) _
  have HN := Hid.mk' N1
  have HM := Hid.mk' N0
  clear N1 N0
  have CQ : Hid (∀ X, Calls Tryz.prog 75 #[.int .i64 64270] X fun en w' => ∃ k s p, en = .returned (.agg #[.int .i64 k, .bool s, .bool p]) ∧ Grew X w') := acc_64270
  have GP : Hid (Grew w w) := Grew.refl w
  go_enter Tryz.func38, Tryz.ntmps38
  go_wp2_with (first
    | (with_reducible refine stop_load 30 rfl ?_
       unfold Stop
       refine wpList_load_row rfl 30 _ rfl (w.heap.size) (by go_simp) 30 #[.slice none 0 0, .slice none 0 0, .slice none 0 0, .slice none 0 0, .slice none 0 0, .slice none 0 0, .slice none 0 0, .int .i64 0, .slice none 0 0] (0, 0) _ HM.out Tryz.underlying30 rfl (by kernel_rfl) ?_)
    | (with_reducible refine stop_load 52 rfl ?_
       unfold Stop
       refine wpList_load_row rfl 52 _ rfl (w.heap.size + 1) (by go_simp) 52 #[.int .i64 64270, .int .u32 0, .int .u32 0, .int .u64 0, .int .u32 0, .int .u32 0, .int .u64 0, .int .i64 0, .int .i64 0, .bool false, .int .i64 0, .slice none 0 0, .slice none 0 0, .bool false, .slice none 0 0, .slice none 0 0, .slice none 0 0] (0, 0) _ HN.out Tryz.underlying52 rfl (by kernel_rfl) ?_)
    | fail)
  repeat (first
    | (with_reducible refine (CQ.out _).mono ?_
       rintro en wn ⟨kk, ks, kp, rfl, gn⟩
       have gx : Grew w wn := Grew.trans (by repeat (first | with_reducible exact GP.out | with_reducible exact Grew.refl _ | refine Grew.alloc ?_ _ | refine Grew.set ?_ (by simp) _ | refine Grew.drewN ?_ _ | refine Grew.drew ?_)) gn
       clear GP
       have GP := Hid.mk' gx
       clear gn gx
       go_wp2_with (first
    | (with_reducible refine stop_load 30 rfl ?_
       unfold Stop
       refine wpList_load_row rfl 30 _ rfl (w.heap.size) (by go_simp) 30 #[.slice none 0 0, .slice none 0 0, .slice none 0 0, .slice none 0 0, .slice none 0 0, .slice none 0 0, .slice none 0 0, .int .i64 0, .slice none 0 0] (0, 0) _ HM.out Tryz.underlying30 rfl (by kernel_rfl) ?_)
    | (with_reducible refine stop_load 52 rfl ?_
       unfold Stop
       refine wpList_load_row rfl 52 _ rfl (w.heap.size + 1) (by go_simp) 52 #[.int .i64 64270, .int .u32 0, .int .u32 0, .int .u64 0, .int .u32 0, .int .u32 0, .int .u64 0, .int .i64 0, .int .i64 0, .bool false, .int .i64 0, .slice none 0 0, .slice none 0 0, .bool false, .slice none 0 0, .slice none 0 0, .slice none 0 0] (0, 0) _ HN.out Tryz.underlying52 rfl (by kernel_rfl) ?_)
    | fail)))
  go_ret
  exact ⟨_, rfl, ⟨_, _, _, rfl⟩, (by repeat (first | with_reducible exact GP.out | with_reducible exact Grew.refl _ | refine Grew.alloc ?_ _ | refine Grew.set ?_ (by simp) _ | refine Grew.drewN ?_ _ | refine Grew.drew ?_))⟩
set_option maxRecDepth 100000 in
set_option maxHeartbeats 2000000 in
theorem so_208 (w : World) : Calls Tryz.prog 16 #[.agg #[.slice none 0 0, .slice none 0 0, .slice none 0 0, .slice none 0 0, .slice none 0 0, .slice none 0 0, .slice none 0 0, .int .i64 0, .slice none 0 0], .agg #[.int .i64 208, .int .u32 0, .int .u32 0, .int .u64 0, .int .u32 0, .int .u32 0, .int .u64 0, .int .i64 0, .int .i64 0, .bool false, .int .i64 0, .slice none 0 0, .slice none 0 0, .bool false, .slice none 0 0, .slice none 0 0, .slice none 0 0]] w fun en w' => ∃ v, en = .returned v ∧ isFn v ∧ Grew w w' := by
  have N1 : ((w.alloc (.cells #[.slice none 0 0, .slice none 0 0, .slice none 0 0, .slice none 0 0, .slice none 0 0, .slice none 0 0, .slice none 0 0, .int .i64 0, .slice none 0 0] 30)).alloc (.cells #[.int .i64 208, .int .u32 0, .int .u32 0, .int .u64 0, .int .u32 0, .int .u32 0, .int .u64 0, .int .i64 0, .int .i64 0, .bool false, .int .i64 0, .slice none 0 0, .slice none 0 0, .bool false, .slice none 0 0, .slice none 0 0, .slice none 0 0] 52)).heap[w.heap.size + 1]? = some (.cells #[.int .i64 208, .int .u32 0, .int .u32 0, .int .u64 0, .int .u32 0, .int .u32 0, .int .u64 0, .int .i64 0, .int .i64 0, .bool false, .int .i64 0, .slice none 0 0, .slice none 0 0, .bool false, .slice none 0 0, .slice none 0 0, .slice none 0 0] 52 (0, 0)) := by
    have := heap_alloc_last (w.alloc (.cells #[.slice none 0 0, .slice none 0 0, .slice none 0 0, .slice none 0 0, .slice none 0 0, .slice none 0 0, .slice none 0 0, .int .i64 0, .slice none 0 0] 30)) (.cells #[.int .i64 208, .int .u32 0, .int .u32 0, .int .u64 0, .int .u32 0, .int .u32 0, .int .u64 0, .int .i64 0, .int .i64 0, .bool false, .int .i64 0, .slice none 0 0, .slice none 0 0, .bool false, .slice none 0 0, .slice none 0 0, .slice none 0 0] 52)
    rw [alloc_size] at this
    exact this
  have N0 : ((w.alloc (.cells #[.slice none 0 0, .slice none 0 0, .slice none 0 0, .slice none 0 0, .slice none 0 0, .slice none 0 0, .slice none 0 0, .int .i64 0, .slice none 0 0] 30)).alloc (.cells #[.int .i64 208, .int .u32 0, .int .u32 0, .int .u64 0, .int .u32 0, .int .u32 0, .int .u64 0, .int .i64 0, .int .i64 0, .bool false, .int .i64 0, .slice none 0 0, .slice none 0 0, .bool false, .slice none 0 0, .slice none 0 0, .slice none 0 0] 52)).heap[w.heap.size]? = some (.cells #[.slice none 0 0, .slice none 0 0, .slice none 0 0, .slice none 0 0, .slice none 0 0, .slice none 0 0, .slice none 0 0, .int .i64 0, .slice none 0 0] 30 (0, 0)) := heap_alloc (heap_alloc_last _ _) _
  have HN := Hid.mk' N1
  have HM := Hid.mk' N0
  clear N1 N0
  have CQ : Hid (∀ X, Calls Tryz.prog 26 #[.agg #[.slice none 0 0, .slice none 0 0, .slice none 0 0, .slice none 0 0, .slice none 0 0, .slice none 0 0, .slice none 0 0, .int .i64 0, .slice none 0 0], .agg #[.int .i64 208, .int .u32 0, .int .u32 0, .int .u64 0, .int .u32 0, .int .u32 0, .int .u64 0, .int .i64 0, .int .i64 0, .bool false, .int .i64 0, .slice none 0 0, .slice none 0 0, .bool false, .slice none 0 0, .slice none 0 0, .slice none 0 0]] X fun en w' => ∃ v, en = .returned v ∧ isFn v ∧ Grew X w') := fun X => qnull_fn none none none none none none none none 0 0 0 0 0 0 0 0 0 0 0 0 0 0 0 0 0 (208) 0 0 0 0 0 0 0 0 0 false false none none none none none 0 0 0 0 0 0 0 0 0 0 X
  have GP : Hid (Grew w w) := Grew.refl w
  go_enter Tryz.func16, Tryz.ntmps16
  go_wp2_with (first
    | (with_reducible refine stop_load 30 rfl ?_
       unfold Stop
       refine wpList_load_row rfl 30 _ rfl (w.heap.size) (by go_simp) 30 #[.slice none 0 0, .slice none 0 0, .slice none 0 0, .slice none 0 0, .slice none 0 0, .slice none 0 0, .slice none 0 0, .int .i64 0, .slice none 0 0] (0, 0) _ HM.out Tryz.underlying30 rfl (by kernel_rfl) ?_)
    | (with_reducible refine stop_load 52 rfl ?_
       unfold Stop
       refine wpList_load_row rfl 52 _ rfl (w.heap.size + 1) (by go_simp) 52 #[.int .i64 208, .int .u32 0, .int .u32 0, .int .u64 0, .int .u32 0, .int .u32 0, .int .u64 0, .int .i64 0, .int .i64 0, .bool false, .int .i64 0, .slice none 0 0, .slice none 0 0, .bool false, .slice none 0 0, .slice none 0 0, .slice none 0 0] (0, 0) _ HN.out Tryz.underlying52 rfl (by kernel_rfl) ?_)
    | fail)
  repeat (first
    | (with_reducible refine (CQ.out _).mono ?_
       rintro en wn ⟨v, rfl, hv, gn⟩
       have gx : Grew w wn := Grew.trans (by repeat (first | with_reducible exact GP.out | with_reducible exact Grew.refl _ | refine Grew.alloc ?_ _ | refine Grew.set ?_ (by simp) _ | refine Grew.drewN ?_ _ | refine Grew.drew ?_)) gn
       clear GP
       have GP := Hid.mk' gx
       clear gn gx
       obtain ⟨fn, fA, fB, rfl⟩ := hv
       go_wp2_with (first
    | (with_reducible refine stop_load 30 rfl ?_
       unfold Stop
       refine wpList_load_row rfl 30 _ rfl (w.heap.size) (by go_simp) 30 #[.slice none 0 0, .slice none 0 0, .slice none 0 0, .slice none 0 0, .slice none 0 0, .slice none 0 0, .slice none 0 0, .int .i64 0, .slice none 0 0] (0, 0) _ HM.out Tryz.underlying30 rfl (by kernel_rfl) ?_)
    | (with_reducible refine stop_load 52 rfl ?_
       unfold Stop
       refine wpList_load_row rfl 52 _ rfl (w.heap.size + 1) (by go_simp) 52 #[.int .i64 208, .int .u32 0, .int .u32 0, .int .u64 0, .int .u32 0, .int .u32 0, .int .u64 0, .int .i64 0, .int .i64 0, .bool false, .int .i64 0, .slice none 0 0, .slice none 0 0, .bool false, .slice none 0 0, .slice none 0 0, .slice none 0 0] (0, 0) _ HN.out Tryz.underlying52 rfl (by kernel_rfl) ?_)
    | fail)))
  go_ret
  exact ⟨_, rfl, ⟨_, _, _, rfl⟩, (by repeat (first | with_reducible exact GP.out | with_reducible exact Grew.refl _ | refine Grew.alloc ?_ _ | refine Grew.set ?_ (by simp) _ | refine Grew.drewN ?_ _ | refine Grew.drew ?_))⟩
set_option maxRecDepth 100000 in
set_option maxHeartbeats 2000000 in
theorem so_209 (w : World) : Calls Tryz.prog 16 #[.agg #[.slice none 0 0, .slice none 0 0, .slice none 0 0, .slice none 0 0, .slice none 0 0, .slice none 0 0, .slice none 0 0, .int .i64 0, .slice none 0 0], .agg #[.int .i64 209, .int .u32 0, .int .u32 0, .int .u64 0, .int .u32 0, .int .u32 0, .int .u64 0, .int .i64 0, .int .i64 0, .bool false, .int .i64 0, .slice none 0 0, .slice none 0 0, .bool false, .slice none 0 0, .slice none 0 0, .slice none 0 0]] w fun en w' => ∃ v, en = .returned v ∧ isFn v ∧ Grew w w' := by
  have N1 : ((w.alloc (.cells #[.slice none 0 0, .slice none 0 0, .slice none 0 0, .slice none 0 0, .slice none 0 0, .slice none 0 0, .slice none 0 0, .int .i64 0, .slice none 0 0] 30)).alloc (.cells #[.int .i64 209, .int .u32 0, .int .u32 0, .int .u64 0, .int .u32 0, .int .u32 0, .int .u64 0, .int .i64 0, .int .i64 0, .bool false, .int .i64 0, .slice none 0 0, .slice none 0 0, .bool false, .slice none 0 0, .slice none 0 0, .slice none 0 0] 52)).heap[w.heap.size + 1]? = some (.cells #[.int .i64 209, .int .u32 0, .int .u32 0, .int .u64 0, .int .u32 0, .int .u32 0, .int .u64 0, .int .i64 0, .int .i64 0, .bool false, .int .i64 0, .slice none 0 0, .slice none 0 0, .bool false, .slice none 0 0, .slice none 0 0, .slice none 0 0] 52 (0, 0)) := by
    have := heap_alloc_last (w.alloc (.cells #[.slice none 0 0, .slice none 0 0, .slice none 0 0, .slice none 0 0, .slice none 0 0, .slice none 0 0, .slice none 0 0, .int .i64 0, .slice none 0 0] 30)) (.cells #[.int .i64 209, .int .u32 0, .int .u32 0, .int .u64 0, .int .u32 0, .int .u32 0, .int .u64 0, .int .i64 0, .int .i64 0, .bool false, .int .i64 0, .slice none 0 0, .slice none 0 0, .bool false, .slice none 0 0, .slice none 0 0, .slice none 0 0] 52)
    rw [alloc_size] at this
    exact this
  have N0 : ((w.alloc (.cells #[.slice none 0 0, .slice none 0 0, .slice none 0 0, .slice none 0 0, .slice none 0 0, .slice none 0 0, .slice none 0 0, .int .i64 0, .slice none 0 0] 30)).alloc (.cells #[.int .i64 209, .int .u32 0, .int .u32 0, .int .u64 0, .int .u32 0, .int .u32 0, .int .u64 0, .int .i64 0, .int .i64 0, .bool false, .int .i64 0, .slice none 0 0, .slice none 0 0, .bool false, .slice none 0 0, .slice none 0 0, .slice none 0 0] 52)).heap[w.heap.size]? = some (.cells #[.slice none 0 0, .slice none 0 0, .slice none 0 0, .slice none 0 0, .slice none 0 0, .slice none 0 0, .slice none 0 0, .int .i64 0, .slice none 0 0] 30 (0, 0)) := heap_alloc (heap_alloc_last _ _) _
  have HN := Hid.mk' N1
  have HM := Hid.mk' N0
  clear N1 N0
  have CT : Hid (∀ f1 f2 A1 A2 B1 B2 X, Calls Tryz.prog 27 #[.func (.func f1) A1 B1, .func (.func f2) A2 B2] X fun en w' => ∃ v, en = .returned v ∧ isFn v ∧ Grew X w') := turns_fn
  have GP : Hid (Grew w w) := Grew.refl w
  go_enter Tryz.func16, Tryz.ntmps16
  go_wp2_with (first
    | (with_reducible refine stop_load 30 rfl ?_
       unfold Stop
       refine wpList_load_row rfl 30 _ rfl (w.heap.size) (by go_simp) 30 #[.slice none 0 0, .slice none 0 0, .slice none 0 0, .slice none 0 0, .slice none 0 0, .slice none 0 0, .slice none 0 0, .int .i64 0, .slice none 0 0] (0, 0) _ HM.out Tryz.underlying30 rfl (by kernel_rfl) ?_)
    | (with_reducible refine stop_load 52 rfl ?_
       unfold Stop
       refine wpList_load_row rfl 52 _ rfl (w.heap.size + 1) (by go_simp) 52 #[.int .i64 209, .int .u32 0, .int .u32 0, .int .u64 0, .int .u32 0, .int .u32 0, .int .u64 0, .int .i64 0, .int .i64 0, .bool false, .int .i64 0, .slice none 0 0, .slice none 0 0, .bool false, .slice none 0 0, .slice none 0 0, .slice none 0 0] (0, 0) _ HN.out Tryz.underlying52 rfl (by kernel_rfl) ?_)
    | fail)
  repeat (first
    | (with_reducible refine (CT.out _ _ _ _ _ _ _).mono ?_
       rintro en wn ⟨v, rfl, hv, gn⟩
       have gx : Grew w wn := Grew.trans (by repeat (first | with_reducible exact GP.out | with_reducible exact Grew.refl _ | refine Grew.alloc ?_ _ | refine Grew.set ?_ (by simp) _ | refine Grew.drewN ?_ _ | refine Grew.drew ?_)) gn
       clear GP
       have GP := Hid.mk' gx
       clear gn gx
       obtain ⟨fn, fA, fB, rfl⟩ := hv
       go_wp2_with (first
    | (with_reducible refine stop_load 30 rfl ?_
       unfold Stop
       refine wpList_load_row rfl 30 _ rfl (w.heap.size) (by go_simp) 30 #[.slice none 0 0, .slice none 0 0, .slice none 0 0, .slice none 0 0, .slice none 0 0, .slice none 0 0, .slice none 0 0, .int .i64 0, .slice none 0 0] (0, 0) _ HM.out Tryz.underlying30 rfl (by kernel_rfl) ?_)
    | (with_reducible refine stop_load 52 rfl ?_
       unfold Stop
       refine wpList_load_row rfl 52 _ rfl (w.heap.size + 1) (by go_simp) 52 #[.int .i64 209, .int .u32 0, .int .u32 0, .int .u64 0, .int .u32 0, .int .u32 0, .int .u64 0, .int .i64 0, .int .i64 0, .bool false, .int .i64 0, .slice none 0 0, .slice none 0 0, .bool false, .slice none 0 0, .slice none 0 0, .slice none 0 0] (0, 0) _ HN.out Tryz.underlying52 rfl (by kernel_rfl) ?_)
    | fail)))
  go_ret
  exact ⟨_, rfl, ⟨_, _, _, rfl⟩, (by repeat (first | with_reducible exact GP.out | with_reducible exact Grew.refl _ | refine Grew.alloc ?_ _ | refine Grew.set ?_ (by simp) _ | refine Grew.drewN ?_ _ | refine Grew.drew ?_))⟩
set_option maxRecDepth 100000 in
set_option maxHeartbeats 2000000 in
theorem so_210 (w : World) : Calls Tryz.prog 16 #[.agg #[.slice none 0 0, .slice none 0 0, .slice none 0 0, .slice none 0 0, .slice none 0 0, .slice none 0 0, .slice none 0 0, .int .i64 0, .slice none 0 0], .agg #[.int .i64 210, .int .u32 0, .int .u32 0, .int .u64 0, .int .u32 0, .int .u32 0, .int .u64 0, .int .i64 0, .int .i64 0, .bool false, .int .i64 0, .slice none 0 0, .slice none 0 0, .bool false, .slice none 0 0, .slice none 0 0, .slice none 0 0]] w fun en w' => ∃ v, en = .returned v ∧ isFn v ∧ Grew w w' := by
  have N1 : ((w.alloc (.cells #[.slice none 0 0, .slice none 0 0, .slice none 0 0, .slice none 0 0, .slice none 0 0, .slice none 0 0, .slice none 0 0, .int .i64 0, .slice none 0 0] 30)).alloc (.cells #[.int .i64 210, .int .u32 0, .int .u32 0, .int .u64 0, .int .u32 0, .int .u32 0, .int .u64 0, .int .i64 0, .int .i64 0, .bool false, .int .i64 0, .slice none 0 0, .slice none 0 0, .bool false, .slice none 0 0, .slice none 0 0, .slice none 0 0] 52)).heap[w.heap.size + 1]? = some (.cells #[.int .i64 210, .int .u32 0, .int .u32 0, .int .u64 0, .int .u32 0, .int .u32 0, .int .u64 0, .int .i64 0, .int .i64 0, .bool false, .int .i64 0, .slice none 0 0, .slice none 0 0, .bool false, .slice none 0 0, .slice none 0 0, .slice none 0 0] 52 (0, 0)) := by
    have := heap_alloc_last (w.alloc (.cells #[.slice none 0 0, .slice none 0 0, .slice none 0 0, .slice none 0 0, .slice none 0 0, .slice none 0 0, .slice none 0 0, .int .i64 0, .slice none 0 0] 30)) (.cells #[.int .i64 210, .int .u32 0, .int .u32 0, .int .u64 0, .int .u32 0, .int .u32 0, .int .u64 0, .int .i64 0, .int .i64 0, .bool false, .int .i64 0, .slice none 0 0, .slice none 0 0, .bool false, .slice none 0 0, .slice none 0 0, .slice none 0 0] 52)
    rw [alloc_size] at this
    exact this
  have N0 : ((w.alloc (.cells #[.slice none 0 0, .slice none 0 0, .slice none 0 0, .slice none 0 0, .slice none 0 0, .slice none 0 0, .slice none 0 0, .int .i64 0, .slice none 0 0] 30)).alloc (.cells #[.int .i64 210, .int .u32 0, .int .u32 0, .int .u64 0, .int .u32 0, .int .u32 0, .int .u64 0, .int .i64 0, .int .i64 0, .bool false, .int .i64 0, .slice none 0 0, .slice none 0 0, .bool false, .slice none 0 0, .slice none 0 0, .slice none 0 0] 52)).heap[w.heap.size]? = some (.cells #[.slice none 0 0, .slice none 0 0, .slice none 0 0, .slice none 0 0, .slice none 0 0, .slice none 0 0, .slice none 0 0, .int .i64 0, .slice none 0 0] 30 (0, 0)) := heap_alloc (heap_alloc_last _ _) _
  have HN := Hid.mk' N1
  have HM := Hid.mk' N0
  clear N1 N0
  have CQ : Hid (∀ X, Calls Tryz.prog 30 #[.agg #[.slice none 0 0, .slice none 0 0, .slice none 0 0, .slice none 0 0, .slice none 0 0, .slice none 0 0, .slice none 0 0, .int .i64 0, .slice none 0 0], .agg #[.int .i64 210, .int .u32 0, .int .u32 0, .int .u64 0, .int .u32 0, .int .u32 0, .int .u64 0, .int .i64 0, .int .i64 0, .bool false, .int .i64 0, .slice none 0 0, .slice none 0 0, .bool false, .slice none 0 0, .slice none 0 0, .slice none 0 0]] X fun en w' => ∃ v, en = .returned v ∧ isFn v ∧ Grew X w') := fun X => qfunction_fn none none none none none none none none 0 0 0 0 0 0 0 0 0 0 0 0 0 0 0 0 0 (210) 0 0 0 0 0 0 0 0 0 false false none none none none none 0 0 0 0 0 0 0 0 0 0 X
  have GP : Hid (Grew w w) := Grew.refl w
  go_enter Tryz.func16, Tryz.ntmps16
  go_wp2_with (first
    | (with_reducible refine stop_load 30 rfl ?_
       unfold Stop
       refine wpList_load_row rfl 30 _ rfl (w.heap.size) (by go_simp) 30 #[.slice none 0 0, .slice none 0 0, .slice none 0 0, .slice none 0 0, .slice none 0 0, .slice none 0 0, .slice none 0 0, .int .i64 0, .slice none 0 0] (0, 0) _ HM.out Tryz.underlying30 rfl (by kernel_rfl) ?_)
    | (with_reducible refine stop_load 52 rfl ?_
       unfold Stop
       refine wpList_load_row rfl 52 _ rfl (w.heap.size + 1) (by go_simp) 52 #[.int .i64 210, .int .u32 0, .int .u32 0, .int .u64 0, .int .u32 0, .int .u32 0, .int .u64 0, .int .i64 0, .int .i64 0, .bool false, .int .i64 0, .slice none 0 0, .slice none 0 0, .bool false, .slice none 0 0, .slice none 0 0, .slice none 0 0] (0, 0) _ HN.out Tryz.underlying52 rfl (by kernel_rfl) ?_)
    | fail)
  repeat (first
    | (with_reducible refine (CQ.out _).mono ?_
       rintro en wn ⟨v, rfl, hv, gn⟩
       have gx : Grew w wn := Grew.trans (by repeat (first | with_reducible exact GP.out | with_reducible exact Grew.refl _ | refine Grew.alloc ?_ _ | refine Grew.set ?_ (by simp) _ | refine Grew.drewN ?_ _ | refine Grew.drew ?_)) gn
       clear GP
       have GP := Hid.mk' gx
       clear gn gx
       obtain ⟨fn, fA, fB, rfl⟩ := hv
       go_wp2_with (first
    | (with_reducible refine stop_load 30 rfl ?_
       unfold Stop
       refine wpList_load_row rfl 30 _ rfl (w.heap.size) (by go_simp) 30 #[.slice none 0 0, .slice none 0 0, .slice none 0 0, .slice none 0 0, .slice none 0 0, .slice none 0 0, .slice none 0 0, .int .i64 0, .slice none 0 0] (0, 0) _ HM.out Tryz.underlying30 rfl (by kernel_rfl) ?_)
    | (with_reducible refine stop_load 52 rfl ?_
       unfold Stop
       refine wpList_load_row rfl 52 _ rfl (w.heap.size + 1) (by go_simp) 52 #[.int .i64 210, .int .u32 0, .int .u32 0, .int .u64 0, .int .u32 0, .int .u32 0, .int .u64 0, .int .i64 0, .int .i64 0, .bool false, .int .i64 0, .slice none 0 0, .slice none 0 0, .bool false, .slice none 0 0, .slice none 0 0, .slice none 0 0] (0, 0) _ HN.out Tryz.underlying52 rfl (by kernel_rfl) ?_)
    | fail)))
  go_ret
  exact ⟨_, rfl, ⟨_, _, _, rfl⟩, (by repeat (first | with_reducible exact GP.out | with_reducible exact Grew.refl _ | refine Grew.alloc ?_ _ | refine Grew.set ?_ (by simp) _ | refine Grew.drewN ?_ _ | refine Grew.drew ?_))⟩
set_option maxRecDepth 100000 in
set_option maxHeartbeats 2000000 in
theorem so_211 (w : World) : Calls Tryz.prog 16 #[.agg #[.slice none 0 0, .slice none 0 0, .slice none 0 0, .slice none 0 0, .slice none 0 0, .slice none 0 0, .slice none 0 0, .int .i64 0, .slice none 0 0], .agg #[.int .i64 211, .int .u32 0, .int .u32 0, .int .u64 0, .int .u32 0, .int .u32 0, .int .u64 0, .int .i64 0, .int .i64 0, .bool false, .int .i64 0, .slice none 0 0, .slice none 0 0, .bool false, .slice none 0 0, .slice none 0 0, .slice none 0 0]] w fun en w' => ∃ v, en = .returned v ∧ isFn v ∧ Grew w w' := by
  have N1 : ((w.alloc (.cells #[.slice none 0 0, .slice none 0 0, .slice none 0 0, .slice none 0 0, .slice none 0 0, .slice none 0 0, .slice none 0 0, .int .i64 0, .slice none 0 0] 30)).alloc (.cells #[.int .i64 211, .int .u32 0, .int .u32 0, .int .u64 0, .int .u32 0, .int .u32 0, .int .u64 0, .int .i64 0, .int .i64 0, .bool false, .int .i64 0, .slice none 0 0, .slice none 0 0, .bool false, .slice none 0 0, .slice none 0 0, .slice none 0 0] 52)).heap[w.heap.size + 1]? = some (.cells #[.int .i64 211, .int .u32 0, .int .u32 0, .int .u64 0, .int .u32 0, .int .u32 0, .int .u64 0, .int .i64 0, .int .i64 0, .bool false, .int .i64 0, .slice none 0 0, .slice none 0 0, .bool false, .slice none 0 0, .slice none 0 0, .slice none 0 0] 52 (0, 0)) := by
    have := heap_alloc_last (w.alloc (.cells #[.slice none 0 0, .slice none 0 0, .slice none 0 0, .slice none 0 0, .slice none 0 0, .slice none 0 0, .slice none 0 0, .int .i64 0, .slice none 0 0] 30)) (.cells #[.int .i64 211, .int .u32 0, .int .u32 0, .int .u64 0, .int .u32 0, .int .u32 0, .int .u64 0, .int .i64 0, .int .i64 0, .bool false, .int .i64 0, .slice none 0 0, .slice none 0 0, .bool false, .slice none 0 0, .slice none 0 0, .slice none 0 0] 52)
    rw [alloc_size] at this
    exact this
  have N0 : ((w.alloc (.cells #[.slice none 0 0, .slice none 0 0, .slice none 0 0, .slice none 0 0, .slice none 0 0, .slice none 0 0, .slice none 0 0, .int .i64 0, .slice none 0 0] 30)).alloc (.cells #[.int .i64 211, .int .u32 0, .int .u32 0, .int .u64 0, .int .u32 0, .int .u32 0, .int .u64 0, .int .i64 0, .int .i64 0, .bool false, .int .i64 0, .slice none 0 0, .slice none 0 0, .bool false, .slice none 0 0, .slice none 0 0, .slice none 0 0] 52)).heap[w.heap.size]? = some (.cells #[.slice none 0 0, .slice none 0 0, .slice none 0 0, .slice none 0 0, .slice none 0 0, .slice none 0 0, .slice none 0 0, .int .i64 0, .slice none 0 0] 30 (0, 0)) := heap_alloc (heap_alloc_last _ _) _
  have HN := Hid.mk' N1
  have HM := Hid.mk' N0
  clear N1 N0
  have CA : Hid (∀ b h X, Calls Tryz.prog 33 #[.bool b, .int .i64 h] X fun en w' => en = .returned (.agg #[.int .i64 5, .bool b, .int .i64 h]) ∧ Grew X w') := abs_any
  have CL : Hid (∀ v X, Calls Tryz.prog 32 #[v] X fun en w' => en = .returned v ∧ Grew X w') := ql_any
  have C3 : Hid (∀ X, Calls Tryz.prog 34 #[] X fun en w' => en = .returned (.agg #[.int .i64 1, .bool false, .int .i64 0]) ∧ Grew X w') := q32_any
  have CS : Hid (∀ a1 a2 l1 l2 c1 c2 X, Calls Tryz.prog 31 #[.slice a1 l1 c1, .slice a2 l2 c2] X fun en w' => ∃ v, en = .returned v ∧ isFn v ∧ Grew X w') := swaps_fn
  have GP : Hid (Grew w w) := Grew.refl w
  go_enter Tryz.func16, Tryz.ntmps16
  go_wp2_with (first
    | (with_reducible refine stop_load 30 rfl ?_
       unfold Stop
       refine wpList_load_row rfl 30 _ rfl (w.heap.size) (by go_simp) 30 #[.slice none 0 0, .slice none 0 0, .slice none 0 0, .slice none 0 0, .slice none 0 0, .slice none 0 0, .slice none 0 0, .int .i64 0, .slice none 0 0] (0, 0) _ HM.out Tryz.underlying30 rfl (by kernel_rfl) ?_)
    | (with_reducible refine stop_load 52 rfl ?_
       unfold Stop
       refine wpList_load_row rfl 52 _ rfl (w.heap.size + 1) (by go_simp) 52 #[.int .i64 211, .int .u32 0, .int .u32 0, .int .u64 0, .int .u32 0, .int .u32 0, .int .u64 0, .int .i64 0, .int .i64 0, .bool false, .int .i64 0, .slice none 0 0, .slice none 0 0, .bool false, .slice none 0 0, .slice none 0 0, .slice none 0 0] (0, 0) _ HN.out Tryz.underlying52 rfl (by kernel_rfl) ?_)
    | fail)
  repeat (first
    | (with_reducible refine (CA.out _ _ _).mono ?_
       rintro en wn ⟨rfl, gn⟩
       have gx : Grew w wn := Grew.trans (by repeat (first | with_reducible exact GP.out | with_reducible exact Grew.refl _ | refine Grew.alloc ?_ _ | refine Grew.set ?_ (by simp) _ | refine Grew.drewN ?_ _ | refine Grew.drew ?_)) gn
       clear GP
       have GP := Hid.mk' gx
       clear gn gx
       go_wp2_with (first
    | (with_reducible refine stop_load 30 rfl ?_
       unfold Stop
       refine wpList_load_row rfl 30 _ rfl (w.heap.size) (by go_simp) 30 #[.slice none 0 0, .slice none 0 0, .slice none 0 0, .slice none 0 0, .slice none 0 0, .slice none 0 0, .slice none 0 0, .int .i64 0, .slice none 0 0] (0, 0) _ HM.out Tryz.underlying30 rfl (by kernel_rfl) ?_)
    | (with_reducible refine stop_load 52 rfl ?_
       unfold Stop
       refine wpList_load_row rfl 52 _ rfl (w.heap.size + 1) (by go_simp) 52 #[.int .i64 211, .int .u32 0, .int .u32 0, .int .u64 0, .int .u32 0, .int .u32 0, .int .u64 0, .int .i64 0, .int .i64 0, .bool false, .int .i64 0, .slice none 0 0, .slice none 0 0, .bool false, .slice none 0 0, .slice none 0 0, .slice none 0 0] (0, 0) _ HN.out Tryz.underlying52 rfl (by kernel_rfl) ?_)
    | fail))
    | (with_reducible refine (CL.out _ _).mono ?_
       rintro en wn ⟨rfl, gn⟩
       have gx : Grew w wn := Grew.trans (by repeat (first | with_reducible exact GP.out | with_reducible exact Grew.refl _ | refine Grew.alloc ?_ _ | refine Grew.set ?_ (by simp) _ | refine Grew.drewN ?_ _ | refine Grew.drew ?_)) gn
       clear GP
       have GP := Hid.mk' gx
       clear gn gx
       go_wp2_with (first
    | (with_reducible refine stop_load 30 rfl ?_
       unfold Stop
       refine wpList_load_row rfl 30 _ rfl (w.heap.size) (by go_simp) 30 #[.slice none 0 0, .slice none 0 0, .slice none 0 0, .slice none 0 0, .slice none 0 0, .slice none 0 0, .slice none 0 0, .int .i64 0, .slice none 0 0] (0, 0) _ HM.out Tryz.underlying30 rfl (by kernel_rfl) ?_)
    | (with_reducible refine stop_load 52 rfl ?_
       unfold Stop
       refine wpList_load_row rfl 52 _ rfl (w.heap.size + 1) (by go_simp) 52 #[.int .i64 211, .int .u32 0, .int .u32 0, .int .u64 0, .int .u32 0, .int .u32 0, .int .u64 0, .int .i64 0, .int .i64 0, .bool false, .int .i64 0, .slice none 0 0, .slice none 0 0, .bool false, .slice none 0 0, .slice none 0 0, .slice none 0 0] (0, 0) _ HN.out Tryz.underlying52 rfl (by kernel_rfl) ?_)
    | fail))
    | (with_reducible refine (C3.out _).mono ?_
       rintro en wn ⟨rfl, gn⟩
       have gx : Grew w wn := Grew.trans (by repeat (first | with_reducible exact GP.out | with_reducible exact Grew.refl _ | refine Grew.alloc ?_ _ | refine Grew.set ?_ (by simp) _ | refine Grew.drewN ?_ _ | refine Grew.drew ?_)) gn
       clear GP
       have GP := Hid.mk' gx
       clear gn gx
       go_wp2_with (first
    | (with_reducible refine stop_load 30 rfl ?_
       unfold Stop
       refine wpList_load_row rfl 30 _ rfl (w.heap.size) (by go_simp) 30 #[.slice none 0 0, .slice none 0 0, .slice none 0 0, .slice none 0 0, .slice none 0 0, .slice none 0 0, .slice none 0 0, .int .i64 0, .slice none 0 0] (0, 0) _ HM.out Tryz.underlying30 rfl (by kernel_rfl) ?_)
    | (with_reducible refine stop_load 52 rfl ?_
       unfold Stop
       refine wpList_load_row rfl 52 _ rfl (w.heap.size + 1) (by go_simp) 52 #[.int .i64 211, .int .u32 0, .int .u32 0, .int .u64 0, .int .u32 0, .int .u32 0, .int .u64 0, .int .i64 0, .int .i64 0, .bool false, .int .i64 0, .slice none 0 0, .slice none 0 0, .bool false, .slice none 0 0, .slice none 0 0, .slice none 0 0] (0, 0) _ HN.out Tryz.underlying52 rfl (by kernel_rfl) ?_)
    | fail))
    | (with_reducible refine (CS.out _ _ _ _ _ _ _).mono ?_
       rintro en wn ⟨v, rfl, hv, gn⟩
       have gx : Grew w wn := Grew.trans (by repeat (first | with_reducible exact GP.out | with_reducible exact Grew.refl _ | refine Grew.alloc ?_ _ | refine Grew.set ?_ (by simp) _ | refine Grew.drewN ?_ _ | refine Grew.drew ?_)) gn
       clear GP
       have GP := Hid.mk' gx
       clear gn gx
       obtain ⟨fn, fA, fB, rfl⟩ := hv
       go_wp2_with (first
    | (with_reducible refine stop_load 30 rfl ?_
       unfold Stop
       refine wpList_load_row rfl 30 _ rfl (w.heap.size) (by go_simp) 30 #[.slice none 0 0, .slice none 0 0, .slice none 0 0, .slice none 0 0, .slice none 0 0, .slice none 0 0, .slice none 0 0, .int .i64 0, .slice none 0 0] (0, 0) _ HM.out Tryz.underlying30 rfl (by kernel_rfl) ?_)
    | (with_reducible refine stop_load 52 rfl ?_
       unfold Stop
       refine wpList_load_row rfl 52 _ rfl (w.heap.size + 1) (by go_simp) 52 #[.int .i64 211, .int .u32 0, .int .u32 0, .int .u64 0, .int .u32 0, .int .u32 0, .int .u64 0, .int .i64 0, .int .i64 0, .bool false, .int .i64 0, .slice none 0 0, .slice none 0 0, .bool false, .slice none 0 0, .slice none 0 0, .slice none 0 0] (0, 0) _ HN.out Tryz.underlying52 rfl (by kernel_rfl) ?_)
    | fail)))
  go_ret
  exact ⟨_, rfl, ⟨_, _, _, rfl⟩, (by repeat (first | with_reducible exact GP.out | with_reducible exact Grew.refl _ | refine Grew.alloc ?_ _ | refine Grew.set ?_ (by simp) _ | refine Grew.drewN ?_ _ | refine Grew.drew ?_))⟩
set_option maxRecDepth 100000 in
set_option maxHeartbeats 2000000 in
theorem so_212 (w : World) : Calls Tryz.prog 16 #[.agg #[.slice none 0 0, .slice none 0 0, .slice none 0 0, .slice none 0 0, .slice none 0 0, .slice none 0 0, .slice none 0 0, .int .i64 0, .slice none 0 0], .agg #[.int .i64 212, .int .u32 0, .int .u32 0, .int .u64 0, .int .u32 0, .int .u32 0, .int .u64 0, .int .i64 0, .int .i64 0, .bool false, .int .i64 0, .slice none 0 0, .slice none 0 0, .bool false, .slice none 0 0, .slice none 0 0, .slice none 0 0]] w fun en w' => ∃ v, en = .returned v ∧ isFn v ∧ Grew w w' := by
  have N1 : ((w.alloc (.cells #[.slice none 0 0, .slice none 0 0, .slice none 0 0, .slice none 0 0, .slice none 0 0, .slice none 0 0, .slice none 0 0, .int .i64 0, .slice none 0 0] 30)).alloc (.cells #[.int .i64 212, .int .u32 0, .int .u32 0, .int .u64 0, .int .u32 0, .int .u32 0, .int .u64 0, .int .i64 0, .int .i64 0, .bool false, .int .i64 0, .slice none 0 0, .slice none 0 0, .bool false, .slice none 0 0, .slice none 0 0, .slice none 0 0] 52)).heap[w.heap.size + 1]? = some (.cells #[.int .i64 212, .int .u32 0, .int .u32 0, .int .u64 0, .int .u32 0, .int .u32 0, .int .u64 0, .int .i64 0, .int .i64 0, .bool false, .int .i64 0, .slice none 0 0, .slice none 0 0, .bool false, .slice none 0 0, .slice none 0 0, .slice none 0 0] 52 (0, 0)) := by
    have := heap_alloc_last (w.alloc (.cells #[.slice none 0 0, .slice none 0 0, .slice none 0 0, .slice none 0 0, .slice none 0 0, .slice none 0 0, .slice none 0 0, .int .i64 0, .slice none 0 0] 30)) (.cells #[.int .i64 212, .int .u32 0, .int .u32 0, .int .u64 0, .int .u32 0, .int .u32 0, .int .u64 0, .int .i64 0, .int .i64 0, .bool false, .int .i64 0, .slice none 0 0, .slice none 0 0, .bool false, .slice none 0 0, .slice none 0 0, .slice none 0 0] 52)
    rw [alloc_size] at this
    exact this
  have N0 : ((w.alloc (.cells #[.slice none 0 0, .slice none 0 0, .slice none 0 0, .slice none 0 0, .slice none 0 0, .slice none 0 0, .slice none 0 0, .int .i64 0, .slice none 0 0] 30)).alloc (.cells #[.int .i64 212, .int .u32 0, .int .u32 0, .int .u64 0, .int .u32 0, .int .u32 0, .int .u64 0, .int .i64 0, .int .i64 0, .bool false, .int .i64 0, .slice none 0 0, .slice none 0 0, .bool false, .slice none 0 0, .slice none 0 0, .slice none 0 0] 52)).heap[w.heap.size]? = some (.cells #[.slice none 0 0, .slice none 0 0, .slice none 0 0, .slice none 0 0, .slice none 0 0, .slice none 0 0, .slice none 0 0, .int .i64 0, .slice none 0 0] 30 (0, 0)) := heap_alloc (heap_alloc_last _ _) _
  have HN := Hid.mk' N1
  have HM := Hid.mk' N0
  clear N1 N0
  have CT : Hid (∀ f1 f2 A1 A2 B1 B2 X, Calls Tryz.prog 27 #[.func (.func f1) A1 B1, .func (.func f2) A2 B2] X fun en w' => ∃ v, en = .returned v ∧ isFn v ∧ Grew X w') := turns_fn
  have GP : Hid (Grew w w) := Grew.refl w
  go_enter Tryz.func16, Tryz.ntmps16
  go_wp2_with (first
    | (with_reducible refine stop_load 30 rfl ?_
       unfold Stop
       refine wpList_load_row rfl 30 _ rfl (w.heap.size) (by go_simp) 30 #[.slice none 0 0, .slice none 0 0, .slice none 0 0, .slice none 0 0, .slice none 0 0, .slice none 0 0, .slice none 0 0, .int .i64 0, .slice none 0 0] (0, 0) _ HM.out Tryz.underlying30 rfl (by kernel_rfl) ?_)
    | (with_reducible refine stop_load 52 rfl ?_
       unfold Stop
       refine wpList_load_row rfl 52 _ rfl (w.heap.size + 1) (by go_simp) 52 #[.int .i64 212, .int .u32 0, .int .u32 0, .int .u64 0, .int .u32 0, .int .u32 0, .int .u64 0, .int .i64 0, .int .i64 0, .bool false, .int .i64 0, .slice none 0 0, .slice none 0 0, .bool false, .slice none 0 0, .slice none 0 0, .slice none 0 0] (0, 0) _ HN.out Tryz.underlying52 rfl (by kernel_rfl) ?_)
    | fail)
  repeat (first
    | (with_reducible refine (CT.out _ _ _ _ _ _ _).mono ?_
       rintro en wn ⟨v, rfl, hv, gn⟩
       have gx : Grew w wn := Grew.trans (by repeat (first | with_reducible exact GP.out | with_reducible exact Grew.refl _ | refine Grew.alloc ?_ _ | refine Grew.set ?_ (by simp) _ | refine Grew.drewN ?_ _ | refine Grew.drew ?_)) gn
       clear GP
       have GP := Hid.mk' gx
       clear gn gx
       obtain ⟨fn, fA, fB, rfl⟩ := hv
       go_wp2_with (first
    | (with_reducible refine stop_load 30 rfl ?_
       unfold Stop
       refine wpList_load_row rfl 30 _ rfl (w.heap.size) (by go_simp) 30 #[.slice none 0 0, .slice none 0 0, .slice none 0 0, .slice none 0 0, .slice none 0 0, .slice none 0 0, .slice none 0 0, .int .i64 0, .slice none 0 0] (0, 0) _ HM.out Tryz.underlying30 rfl (by kernel_rfl) ?_)
    | (with_reducible refine stop_load 52 rfl ?_
       unfold Stop
       refine wpList_load_row rfl 52 _ rfl (w.heap.size + 1) (by go_simp) 52 #[.int .i64 212, .int .u32 0, .int .u32 0, .int .u64 0, .int .u32 0, .int .u32 0, .int .u64 0, .int .i64 0, .int .i64 0, .bool false, .int .i64 0, .slice none 0 0, .slice none 0 0, .bool false, .slice none 0 0, .slice none 0 0, .slice none 0 0] (0, 0) _ HN.out Tryz.underlying52 rfl (by kernel_rfl) ?_)
    | fail)))
  go_ret
  exact ⟨_, rfl, ⟨_, _, _, rfl⟩, (by repeat (first | with_reducible exact GP.out | with_reducible exact Grew.refl _ | refine Grew.alloc ?_ _ | refine Grew.set ?_ (by simp) _ | refine Grew.drewN ?_ _ | refine Grew.drew ?_))⟩
set_option maxRecDepth 100000 in
set_option maxHeartbeats 2000000 in
theorem so_64256 (w : World) : Calls Tryz.prog 16 #[.agg #[.slice none 0 0, .slice none 0 0, .slice none 0 0, .slice none 0 0, .slice none 0 0, .slice none 0 0, .slice none 0 0, .int .i64 0, .slice none 0 0], .agg #[.int .i64 64256, .int .u32 0, .int .u32 0, .int .u64 0, .int .u32 0, .int .u32 0, .int .u64 0, .int .i64 0, .int .i64 0, .bool false, .int .i64 0, .slice none 0 0, .slice none 0 0, .bool false, .slice none 0 0, .slice none 0 0, .slice none 0 0]] w fun en w' => ∃ v, en = .returned v ∧ isFn v ∧ Grew w w' := by
  have N1 : ((w.alloc (.cells #[.slice none 0 0, .slice none 0 0, .slice none 0 0, .slice none 0 0, .slice none 0 0, .slice none 0 0, .slice none 0 0, .int .i64 0, .slice none 0 0] 30)).alloc (.cells #[.int .i64 64256, .int .u32 0, .int .u32 0, .int .u64 0, .int .u32 0, .int .u32 0, .int .u64 0, .int .i64 0, .int .i64 0, .bool false, .int .i64 0, .slice none 0 0, .slice none 0 0, .bool false, .slice none 0 0, .slice none 0 0, .slice none 0 0] 52)).heap[w.heap.size + 1]? = some (.cells #[.int .i64 64256, .int .u32 0, .int .u32 0, .int .u64 0, .int .u32 0, .int .u32 0, .int .u64 0, .int .i64 0, .int .i64 0, .bool false, .int .i64 0, .slice none 0 0, .slice none 0 0, .bool false, .slice none 0 0, .slice none 0 0, .slice none 0 0] 52 (0, 0)) := by
    have := heap_alloc_last (w.alloc (.cells #[.slice none 0 0, .slice none 0 0, .slice none 0 0, .slice none 0 0, .slice none 0 0, .slice none 0 0, .slice none 0 0, .int .i64 0, .slice none 0 0] 30)) (.cells #[.int .i64 64256, .int .u32 0, .int .u32 0, .int .u64 0, .int .u32 0, .int .u32 0, .int .u64 0, .int .i64 0, .int .i64 0, .bool false, .int .i64 0, .slice none 0 0, .slice none 0 0, .bool false, .slice none 0 0, .slice none 0 0, .slice none 0 0] 52)
    rw [alloc_size] at this
    exact this
  have N0 : ((w.alloc (.cells #[.slice none 0 0, .slice none 0 0, .slice none 0 0, .slice none 0 0, .slice none 0 0, .slice none 0 0, .slice none 0 0, .int .i64 0, .slice none 0 0] 30)).alloc (.cells #[.int .i64 64256, .int .u32 0, .int .u32 0, .int .u64 0, .int .u32 0, .int .u32 0, .int .u64 0, .int .i64 0, .int .i64 0, .bool false, .int .i64 0, .slice none 0 0, .slice none 0 0, .bool false, .slice none 0 0, .slice none 0 0, .slice none 0 0] 52)).heap[w.heap.size]? = some (.cells #[.slice none 0 0, .slice none 0 0, .slice none 0 0, .slice none 0 0, .slice none 0 0, .slice none 0 0, .slice none 0 0, .int .i64 0, .slice none 0 0] 30 (0, 0)) := heap_alloc (heap_alloc_last _ _) _
  have HN := Hid.mk' N1
  have HM := Hid.mk' N0
  clear N1 N0
  have CQ : Hid (∀ X, Calls Tryz.prog 36 #[.agg #[.slice none 0 0, .slice none 0 0, .slice none 0 0, .slice none 0 0, .slice none 0 0, .slice none 0 0, .slice none 0 0, .int .i64 0, .slice none 0 0], .agg #[.int .i64 64256, .int .u32 0, .int .u32 0, .int .u64 0, .int .u32 0, .int .u32 0, .int .u64 0, .int .i64 0, .int .i64 0, .bool false, .int .i64 0, .slice none 0 0, .slice none 0 0, .bool false, .slice none 0 0, .slice none 0 0, .slice none 0 0]] X fun en w' => ∃ v, en = .returned v ∧ isFn v ∧ Grew X w') := fun X => qstructNew_fn none none none none none none none none 0 0 0 0 0 0 0 0 0 0 0 0 0 0 0 0 0 (64256) 0 0 0 0 0 0 0 0 0 false false none none none none none 0 0 0 0 0 0 0 0 0 0 X
  have GP : Hid (Grew w w) := Grew.refl w
  go_enter Tryz.func16, Tryz.ntmps16
  go_wp2_with (first
    | (with_reducible refine stop_load 30 rfl ?_
       unfold Stop
       refine wpList_load_row rfl 30 _ rfl (w.heap.size) (by go_simp) 30 #[.slice none 0 0, .slice none 0 0, .slice none 0 0, .slice none 0 0, .slice none 0 0, .slice none 0 0, .slice none 0 0, .int .i64 0, .slice none 0 0] (0, 0) _ HM.out Tryz.underlying30 rfl (by kernel_rfl) ?_)
    | (with_reducible refine stop_load 52 rfl ?_
       unfold Stop
       refine wpList_load_row rfl 52 _ rfl (w.heap.size + 1) (by go_simp) 52 #[.int .i64 64256, .int .u32 0, .int .u32 0, .int .u64 0, .int .u32 0, .int .u32 0, .int .u64 0, .int .i64 0, .int .i64 0, .bool false, .int .i64 0, .slice none 0 0, .slice none 0 0, .bool false, .slice none 0 0, .slice none 0 0, .slice none 0 0] (0, 0) _ HN.out Tryz.underlying52 rfl (by kernel_rfl) ?_)
    | fail)
  repeat (first
    | (with_reducible refine (CQ.out _).mono ?_
       rintro en wn ⟨v, rfl, hv, gn⟩
       have gx : Grew w wn := Grew.trans (by repeat (first | with_reducible exact GP.out | with_reducible exact Grew.refl _ | refine Grew.alloc ?_ _ | refine Grew.set ?_ (by simp) _ | refine Grew.drewN ?_ _ | refine Grew.drew ?_)) gn
       clear GP
       have GP := Hid.mk' gx
       clear gn gx
       obtain ⟨fn, fA, fB, rfl⟩ := hv
       go_wp2_with (first
    | (with_reducible refine stop_load 30 rfl ?_
       unfold Stop
       refine wpList_load_row rfl 30 _ rfl (w.heap.size) (by go_simp) 30 #[.slice none 0 0, .slice none 0 0, .slice none 0 0, .slice none 0 0, .slice none 0 0, .slice none 0 0, .slice none 0 0, .int .i64 0, .slice none 0 0] (0, 0) _ HM.out Tryz.underlying30 rfl (by kernel_rfl) ?_)
    | (with_reducible refine stop_load 52 rfl ?_
       unfold Stop
       refine wpList_load_row rfl 52 _ rfl (w.heap.size + 1) (by go_simp) 52 #[.int .i64 64256, .int .u32 0, .int .u32 0, .int .u64 0, .int .u32 0, .int .u32 0, .int .u64 0, .int .i64 0, .int .i64 0, .bool false, .int .i64 0, .slice none 0 0, .slice none 0 0, .bool false, .slice none 0 0, .slice none 0 0, .slice none 0 0] (0, 0) _ HN.out Tryz.underlying52 rfl (by kernel_rfl) ?_)
    | fail)))
  go_ret
  exact ⟨_, rfl, ⟨_, _, _, rfl⟩, (by repeat (first | with_reducible exact GP.out | with_reducible exact Grew.refl _ | refine Grew.alloc ?_ _ | refine Grew.set ?_ (by simp) _ | refine Grew.drewN ?_ _ | refine Grew.drew ?_))⟩
set_option maxRecDepth 100000 in
set_option maxHeartbeats 2000000 in
theorem so_64257 (w : World) : Calls Tryz.prog 16 #[.agg #[.slice none 0 0, .slice none 0 0, .slice none 0 0, .slice none 0 0, .slice none 0 0, .slice none 0 0, .slice none 0 0, .int .i64 0, .slice none 0 0], .agg #[.int .i64 64257, .int .u32 0, .int .u32 0, .int .u64 0, .int .u32 0, .int .u32 0, .int .u64 0, .int .i64 0, .int .i64 0, .bool false, .int .i64 0, .slice none 0 0, .slice none 0 0, .bool false, .slice none 0 0, .slice none 0 0, .slice none 0 0]] w fun en w' => ∃ v, en = .returned v ∧ isFn v ∧ Grew w w' := by
  have N1 : ((w.alloc (.cells #[.slice none 0 0, .slice none 0 0, .slice none 0 0, .slice none 0 0, .slice none 0 0, .slice none 0 0, .slice none 0 0, .int .i64 0, .slice none 0 0] 30)).alloc (.cells #[.int .i64 64257, .int .u32 0, .int .u32 0, .int .u64 0, .int .u32 0, .int .u32 0, .int .u64 0, .int .i64 0, .int .i64 0, .bool false, .int .i64 0, .slice none 0 0, .slice none 0 0, .bool false, .slice none 0 0, .slice none 0 0, .slice none 0 0] 52)).heap[w.heap.size + 1]? = some (.cells #[.int .i64 64257, .int .u32 0, .int .u32 0, .int .u64 0, .int .u32 0, .int .u32 0, .int .u64 0, .int .i64 0, .int .i64 0, .bool false, .int .i64 0, .slice none 0 0, .slice none 0 0, .bool false, .slice none 0 0, .slice none 0 0, .slice none 0 0] 52 (0, 0)) := by
    have := heap_alloc_last (w.alloc (.cells #[.slice none 0 0, .slice none 0 0, .slice none 0 0, .slice none 0 0, .slice none 0 0, .slice none 0 0, .slice none 0 0, .int .i64 0, .slice none 0 0] 30)) (.cells #[.int .i64 64257, .int .u32 0, .int .u32 0, .int .u64 0, .int .u32 0, .int .u32 0, .int .u64 0, .int .i64 0, .int .i64 0, .bool false, .int .i64 0, .slice none 0 0, .slice none 0 0, .bool false, .slice none 0 0, .slice none 0 0, .slice none 0 0] 52)
    rw [alloc_size] at this
    exact this
  have N0 : ((w.alloc (.cells #[.slice none 0 0, .slice none 0 0, .slice none 0 0, .slice none 0 0, .slice none 0 0, .slice none 0 0, .slice none 0 0, .int .i64 0, .slice none 0 0] 30)).alloc (.cells #[.int .i64 64257, .int .u32 0, .int .u32 0, .int .u64 0, .int .u32 0, .int .u32 0, .int .u64 0, .int .i64 0, .int .i64 0, .bool false, .int .i64 0, .slice none 0 0, .slice none 0 0, .bool false, .slice none 0 0, .slice none 0 0, .slice none 0 0] 52)).heap[w.heap.size]? = some (.cells #[.slice none 0 0, .slice none 0 0, .slice none 0 0, .slice none 0 0, .slice none 0 0, .slice none 0 0, .slice none 0 0, .int .i64 0, .slice none 0 0] 30 (0, 0)) := heap_alloc (heap_alloc_last _ _) _
  have HN := Hid.mk' N1
  have HM := Hid.mk' N0
  clear N1 N0
  have CQ : Hid (∀ X, Calls Tryz.prog 37 #[.agg #[.slice none 0 0, .slice none 0 0, .slice none 0 0, .slice none 0 0, .slice none 0 0, .slice none 0 0, .slice none 0 0, .int .i64 0, .slice none 0 0], .agg #[.int .i64 64257, .int .u32 0, .int .u32 0, .int .u64 0, .int .u32 0, .int .u32 0, .int .u64 0, .int .i64 0, .int .i64 0, .bool false, .int .i64 0, .slice none 0 0, .slice none 0 0, .bool false, .slice none 0 0, .slice none 0 0, .slice none 0 0]] X fun en w' => ∃ v, en = .returned v ∧ isFn v ∧ Grew X w') := fun X => qstructNewDefault_fn none none none none none none none none 0 0 0 0 0 0 0 0 0 0 0 0 0 0 0 0 0 (64257) 0 0 0 0 0 0 0 0 0 false false none none none none none 0 0 0 0 0 0 0 0 0 0 X
  have GP : Hid (Grew w w) := Grew.refl w
  go_enter Tryz.func16, Tryz.ntmps16
  go_wp2_with (first
    | (with_reducible refine stop_load 30 rfl ?_
       unfold Stop
       refine wpList_load_row rfl 30 _ rfl (w.heap.size) (by go_simp) 30 #[.slice none 0 0, .slice none 0 0, .slice none 0 0, .slice none 0 0, .slice none 0 0, .slice none 0 0, .slice none 0 0, .int .i64 0, .slice none 0 0] (0, 0) _ HM.out Tryz.underlying30 rfl (by kernel_rfl) ?_)
    | (with_reducible refine stop_load 52 rfl ?_
       unfold Stop
       refine wpList_load_row rfl 52 _ rfl (w.heap.size + 1) (by go_simp) 52 #[.int .i64 64257, .int .u32 0, .int .u32 0, .int .u64 0, .int .u32 0, .int .u32 0, .int .u64 0, .int .i64 0, .int .i64 0, .bool false, .int .i64 0, .slice none 0 0, .slice none 0 0, .bool false, .slice none 0 0, .slice none 0 0, .slice none 0 0] (0, 0) _ HN.out Tryz.underlying52 rfl (by kernel_rfl) ?_)
    | fail)
  repeat (first
    | (with_reducible refine (CQ.out _).mono ?_
       rintro en wn ⟨v, rfl, hv, gn⟩
       have gx : Grew w wn := Grew.trans (by repeat (first | with_reducible exact GP.out | with_reducible exact Grew.refl _ | refine Grew.alloc ?_ _ | refine Grew.set ?_ (by simp) _ | refine Grew.drewN ?_ _ | refine Grew.drew ?_)) gn
       clear GP
       have GP := Hid.mk' gx
       clear gn gx
       obtain ⟨fn, fA, fB, rfl⟩ := hv
       go_wp2_with (first
    | (with_reducible refine stop_load 30 rfl ?_
       unfold Stop
       refine wpList_load_row rfl 30 _ rfl (w.heap.size) (by go_simp) 30 #[.slice none 0 0, .slice none 0 0, .slice none 0 0, .slice none 0 0, .slice none 0 0, .slice none 0 0, .slice none 0 0, .int .i64 0, .slice none 0 0] (0, 0) _ HM.out Tryz.underlying30 rfl (by kernel_rfl) ?_)
    | (with_reducible refine stop_load 52 rfl ?_
       unfold Stop
       refine wpList_load_row rfl 52 _ rfl (w.heap.size + 1) (by go_simp) 52 #[.int .i64 64257, .int .u32 0, .int .u32 0, .int .u64 0, .int .u32 0, .int .u32 0, .int .u64 0, .int .i64 0, .int .i64 0, .bool false, .int .i64 0, .slice none 0 0, .slice none 0 0, .bool false, .slice none 0 0, .slice none 0 0, .slice none 0 0] (0, 0) _ HN.out Tryz.underlying52 rfl (by kernel_rfl) ?_)
    | fail)))
  go_ret
  exact ⟨_, rfl, ⟨_, _, _, rfl⟩, (by repeat (first | with_reducible exact GP.out | with_reducible exact Grew.refl _ | refine Grew.alloc ?_ _ | refine Grew.set ?_ (by simp) _ | refine Grew.drewN ?_ _ | refine Grew.drew ?_))⟩
set_option maxRecDepth 100000 in
set_option maxHeartbeats 2000000 in
theorem so_64258 (w : World) : Calls Tryz.prog 16 #[.agg #[.slice none 0 0, .slice none 0 0, .slice none 0 0, .slice none 0 0, .slice none 0 0, .slice none 0 0, .slice none 0 0, .int .i64 0, .slice none 0 0], .agg #[.int .i64 64258, .int .u32 0, .int .u32 0, .int .u64 0, .int .u32 0, .int .u32 0, .int .u64 0, .int .i64 0, .int .i64 0, .bool false, .int .i64 0, .slice none 0 0, .slice none 0 0, .bool false, .slice none 0 0, .slice none 0 0, .slice none 0 0]] w fun en w' => ∃ v, en = .returned v ∧ isFn v ∧ Grew w w' := by
  have N1 : ((w.alloc (.cells #[.slice none 0 0, .slice none 0 0, .slice none 0 0, .slice none 0 0, .slice none 0 0, .slice none 0 0, .slice none 0 0, .int .i64 0, .slice none 0 0] 30)).alloc (.cells #[.int .i64 64258, .int .u32 0, .int .u32 0, .int .u64 0, .int .u32 0, .int .u32 0, .int .u64 0, .int .i64 0, .int .i64 0, .bool false, .int .i64 0, .slice none 0 0, .slice none 0 0, .bool false, .slice none 0 0, .slice none 0 0, .slice none 0 0] 52)).heap[w.heap.size + 1]? = some (.cells #[.int .i64 64258, .int .u32 0, .int .u32 0, .int .u64 0, .int .u32 0, .int .u32 0, .int .u64 0, .int .i64 0, .int .i64 0, .bool false, .int .i64 0, .slice none 0 0, .slice none 0 0, .bool false, .slice none 0 0, .slice none 0 0, .slice none 0 0] 52 (0, 0)) := by
    have := heap_alloc_last (w.alloc (.cells #[.slice none 0 0, .slice none 0 0, .slice none 0 0, .slice none 0 0, .slice none 0 0, .slice none 0 0, .slice none 0 0, .int .i64 0, .slice none 0 0] 30)) (.cells #[.int .i64 64258, .int .u32 0, .int .u32 0, .int .u64 0, .int .u32 0, .int .u32 0, .int .u64 0, .int .i64 0, .int .i64 0, .bool false, .int .i64 0, .slice none 0 0, .slice none 0 0, .bool false, .slice none 0 0, .slice none 0 0, .slice none 0 0] 52)
    rw [alloc_size] at this
    exact this
  have N0 : ((w.alloc (.cells #[.slice none 0 0, .slice none 0 0, .slice none 0 0, .slice none 0 0, .slice none 0 0, .slice none 0 0, .slice none 0 0, .int .i64 0, .slice none 0 0] 30)).alloc (.cells #[.int .i64 64258, .int .u32 0, .int .u32 0, .int .u64 0, .int .u32 0, .int .u32 0, .int .u64 0, .int .i64 0, .int .i64 0, .bool false, .int .i64 0, .slice none 0 0, .slice none 0 0, .bool false, .slice none 0 0, .slice none 0 0, .slice none 0 0] 52)).heap[w.heap.size]? = some (.cells #[.slice none 0 0, .slice none 0 0, .slice none 0 0, .slice none 0 0, .slice none 0 0, .slice none 0 0, .slice none 0 0, .int .i64 0, .slice none 0 0] 30 (0, 0)) := heap_alloc (heap_alloc_last _ _) _
  have HN := Hid.mk' N1
  have HM := Hid.mk' N0
  clear N1 N0
  have CQ : Hid (∀ X, Calls Tryz.prog 38 #[.agg #[.slice none 0 0, .slice none 0 0, .slice none 0 0, .slice none 0 0, .slice none 0 0, .slice none 0 0, .slice none 0 0, .int .i64 0, .slice none 0 0], .agg #[.int .i64 64258, .int .u32 0, .int .u32 0, .int .u64 0, .int .u32 0, .int .u32 0, .int .u64 0, .int .i64 0, .int .i64 0, .bool false, .int .i64 0, .slice none 0 0, .slice none 0 0, .bool false, .slice none 0 0, .slice none 0 0, .slice none 0 0]] X fun en w' => ∃ v, en = .returned v ∧ isFn v ∧ Grew X w') := at_64258
  have GP : Hid (Grew w w) := Grew.refl w
  go_enter Tryz.func16, Tryz.ntmps16
  go_wp2_with (first
    | (with_reducible refine stop_load 30 rfl ?_
       unfold Stop
       refine wpList_load_row rfl 30 _ rfl (w.heap.size) (by go_simp) 30 #[.slice none 0 0, .slice none 0 0, .slice none 0 0, .slice none 0 0, .slice none 0 0, .slice none 0 0, .slice none 0 0, .int .i64 0, .slice none 0 0] (0, 0) _ HM.out Tryz.underlying30 rfl (by kernel_rfl) ?_)
    | (with_reducible refine stop_load 52 rfl ?_
       unfold Stop
       refine wpList_load_row rfl 52 _ rfl (w.heap.size + 1) (by go_simp) 52 #[.int .i64 64258, .int .u32 0, .int .u32 0, .int .u64 0, .int .u32 0, .int .u32 0, .int .u64 0, .int .i64 0, .int .i64 0, .bool false, .int .i64 0, .slice none 0 0, .slice none 0 0, .bool false, .slice none 0 0, .slice none 0 0, .slice none 0 0] (0, 0) _ HN.out Tryz.underlying52 rfl (by kernel_rfl) ?_)
    | fail)
  repeat (first
    | (with_reducible refine (CQ.out _).mono ?_
       rintro en wn ⟨v, rfl, hv, gn⟩
       have gx : Grew w wn := Grew.trans (by repeat (first | with_reducible exact GP.out | with_reducible exact Grew.refl _ | refine Grew.alloc ?_ _ | refine Grew.set ?_ (by simp) _ | refine Grew.drewN ?_ _ | refine Grew.drew ?_)) gn
       clear GP
       have GP := Hid.mk' gx
       clear gn gx
       obtain ⟨fn, fA, fB, rfl⟩ := hv
       go_wp2_with (first
    | (with_reducible refine stop_load 30 rfl ?_
       unfold Stop
       refine wpList_load_row rfl 30 _ rfl (w.heap.size) (by go_simp) 30 #[.slice none 0 0, .slice none 0 0, .slice none 0 0, .slice none 0 0, .slice none 0 0, .slice none 0 0, .slice none 0 0, .int .i64 0, .slice none 0 0] (0, 0) _ HM.out Tryz.underlying30 rfl (by kernel_rfl) ?_)
    | (with_reducible refine stop_load 52 rfl ?_
       unfold Stop
       refine wpList_load_row rfl 52 _ rfl (w.heap.size + 1) (by go_simp) 52 #[.int .i64 64258, .int .u32 0, .int .u32 0, .int .u64 0, .int .u32 0, .int .u32 0, .int .u64 0, .int .i64 0, .int .i64 0, .bool false, .int .i64 0, .slice none 0 0, .slice none 0 0, .bool false, .slice none 0 0, .slice none 0 0, .slice none 0 0] (0, 0) _ HN.out Tryz.underlying52 rfl (by kernel_rfl) ?_)
    | fail)))
  go_ret
  exact ⟨_, rfl, ⟨_, _, _, rfl⟩, (by repeat (first | with_reducible exact GP.out | with_reducible exact Grew.refl _ | refine Grew.alloc ?_ _ | refine Grew.set ?_ (by simp) _ | refine Grew.drewN ?_ _ | refine Grew.drew ?_))⟩
set_option maxRecDepth 100000 in
set_option maxHeartbeats 2000000 in
theorem so_64259 (w : World) : Calls Tryz.prog 16 #[.agg #[.slice none 0 0, .slice none 0 0, .slice none 0 0, .slice none 0 0, .slice none 0 0, .slice none 0 0, .slice none 0 0, .int .i64 0, .slice none 0 0], .agg #[.int .i64 64259, .int .u32 0, .int .u32 0, .int .u64 0, .int .u32 0, .int .u32 0, .int .u64 0, .int .i64 0, .int .i64 0, .bool false, .int .i64 0, .slice none 0 0, .slice none 0 0, .bool false, .slice none 0 0, .slice none 0 0, .slice none 0 0]] w fun en w' => ∃ v, en = .returned v ∧ isFn v ∧ Grew w w' := by
  have N1 : ((w.alloc (.cells #[.slice none 0 0, .slice none 0 0, .slice none 0 0, .slice none 0 0, .slice none 0 0, .slice none 0 0, .slice none 0 0, .int .i64 0, .slice none 0 0] 30)).alloc (.cells #[.int .i64 64259, .int .u32 0, .int .u32 0, .int .u64 0, .int .u32 0, .int .u32 0, .int .u64 0, .int .i64 0, .int .i64 0, .bool false, .int .i64 0, .slice none 0 0, .slice none 0 0, .bool false, .slice none 0 0, .slice none 0 0, .slice none 0 0] 52)).heap[w.heap.size + 1]? = some (.cells #[.int .i64 64259, .int .u32 0, .int .u32 0, .int .u64 0, .int .u32 0, .int .u32 0, .int .u64 0, .int .i64 0, .int .i64 0, .bool false, .int .i64 0, .slice none 0 0, .slice none 0 0, .bool false, .slice none 0 0, .slice none 0 0, .slice none 0 0] 52 (0, 0)) := by
    have := heap_alloc_last (w.alloc (.cells #[.slice none 0 0, .slice none 0 0, .slice none 0 0, .slice none 0 0, .slice none 0 0, .slice none 0 0, .slice none 0 0, .int .i64 0, .slice none 0 0] 30)) (.cells #[.int .i64 64259, .int .u32 0, .int .u32 0, .int .u64 0, .int .u32 0, .int .u32 0, .int .u64 0, .int .i64 0, .int .i64 0, .bool false, .int .i64 0, .slice none 0 0, .slice none 0 0, .bool false, .slice none 0 0, .slice none 0 0, .slice none 0 0] 52)
    rw [alloc_size] at this
    exact this
  have N0 : ((w.alloc (.cells #[.slice none 0 0, .slice none 0 0, .slice none 0 0, .slice none 0 0, .slice none 0 0, .slice none 0 0, .slice none 0 0, .int .i64 0, .slice none 0 0] 30)).alloc (.cells #[.int .i64 64259, .int .u32 0, .int .u32 0, .int .u64 0, .int .u32 0, .int .u32 0, .int .u64 0, .int .i64 0, .int .i64 0, .bool false, .int .i64 0, .slice none 0 0, .slice none 0 0, .bool false, .slice none 0 0, .slice none 0 0, .slice none 0 0] 52)).heap[w.heap.size]? = some (.cells #[.slice none 0 0, .slice none 0 0, .slice none 0 0, .slice none 0 0, .slice none 0 0, .slice none 0 0, .slice none 0 0, .int .i64 0, .slice none 0 0] 30 (0, 0)) := heap_alloc (heap_alloc_last _ _) _
  have HN := Hid.mk' N1
  have HM := Hid.mk' N0
  clear N1 N0
  have CQ : Hid (∀ X, Calls Tryz.prog 38 #[.agg #[.slice none 0 0, .slice none 0 0, .slice none 0 0, .slice none 0 0, .slice none 0 0, .slice none 0 0, .slice none 0 0, .int .i64 0, .slice none 0 0], .agg #[.int .i64 64259, .int .u32 0, .int .u32 0, .int .u64 0, .int .u32 0, .int .u32 0, .int .u64 0, .int .i64 0, .int .i64 0, .bool false, .int .i64 0, .slice none 0 0, .slice none 0 0, .bool false, .slice none 0 0, .slice none 0 0, .slice none 0 0]] X fun en w' => ∃ v, en = .returned v ∧ isFn v ∧ Grew X w') := at_64259
  have GP : Hid (Grew w w) := Grew.refl w
  go_enter Tryz.func16, Tryz.ntmps16
  go_wp2_with (first
    | (with_reducible refine stop_load 30 rfl ?_
       unfold Stop
       refine wpList_load_row rfl 30 _ rfl (w.heap.size) (by go_simp) 30 #[.slice none 0 0, .slice none 0 0, .slice none 0 0, .slice none 0 0, .slice none 0 0, .slice none 0 0, .slice none 0 0, .int .i64 0, .slice none 0 0] (0, 0) _ HM.out Tryz.underlying30 rfl (by kernel_rfl) ?_)
    | (with_reducible refine stop_load 52 rfl ?_
       unfold Stop
       refine wpList_load_row rfl 52 _ rfl (w.heap.size + 1) (by go_simp) 52 #[.int .i64 64259, .int .u32 0, .int .u32 0, .int .u64 0, .int .u32 0, .int .u32 0, .int .u64 0, .int .i64 0, .int .i64 0, .bool false, .int .i64 0, .slice none 0 0, .slice none 0 0, .bool false, .slice none 0 0, .slice none 0 0, .slice none 0 0] (0, 0) _ HN.out Tryz.underlying52 rfl (by kernel_rfl) ?_)
    | fail)
  repeat (first
    | (with_reducible refine (CQ.out _).mono ?_
       rintro en wn ⟨v, rfl, hv, gn⟩
       have gx : Grew w wn := Grew.trans (by repeat (first | with_reducible exact GP.out | with_reducible exact Grew.refl _ | refine Grew.alloc ?_ _ | refine Grew.set ?_ (by simp) _ | refine Grew.drewN ?_ _ | refine Grew.drew ?_)) gn
       clear GP
       have GP := Hid.mk' gx
       clear gn gx
       obtain ⟨fn, fA, fB, rfl⟩ := hv
       go_wp2_with (first
    | (with_reducible refine stop_load 30 rfl ?_
       unfold Stop
       refine wpList_load_row rfl 30 _ rfl (w.heap.size) (by go_simp) 30 #[.slice none 0 0, .slice none 0 0, .slice none 0 0, .slice none 0 0, .slice none 0 0, .slice none 0 0, .slice none 0 0, .int .i64 0, .slice none 0 0] (0, 0) _ HM.out Tryz.underlying30 rfl (by kernel_rfl) ?_)
    | (with_reducible refine stop_load 52 rfl ?_
       unfold Stop
       refine wpList_load_row rfl 52 _ rfl (w.heap.size + 1) (by go_simp) 52 #[.int .i64 64259, .int .u32 0, .int .u32 0, .int .u64 0, .int .u32 0, .int .u32 0, .int .u64 0, .int .i64 0, .int .i64 0, .bool false, .int .i64 0, .slice none 0 0, .slice none 0 0, .bool false, .slice none 0 0, .slice none 0 0, .slice none 0 0] (0, 0) _ HN.out Tryz.underlying52 rfl (by kernel_rfl) ?_)
    | fail)))
  go_ret
  exact ⟨_, rfl, ⟨_, _, _, rfl⟩, (by repeat (first | with_reducible exact GP.out | with_reducible exact Grew.refl _ | refine Grew.alloc ?_ _ | refine Grew.set ?_ (by simp) _ | refine Grew.drewN ?_ _ | refine Grew.drew ?_))⟩
set_option maxRecDepth 100000 in
set_option maxHeartbeats 2000000 in
theorem so_64260 (w : World) : Calls Tryz.prog 16 #[.agg #[.slice none 0 0, .slice none 0 0, .slice none 0 0, .slice none 0 0, .slice none 0 0, .slice none 0 0, .slice none 0 0, .int .i64 0, .slice none 0 0], .agg #[.int .i64 64260, .int .u32 0, .int .u32 0, .int .u64 0, .int .u32 0, .int .u32 0, .int .u64 0, .int .i64 0, .int .i64 0, .bool false, .int .i64 0, .slice none 0 0, .slice none 0 0, .bool false, .slice none 0 0, .slice none 0 0, .slice none 0 0]] w fun en w' => ∃ v, en = .returned v ∧ isFn v ∧ Grew w w' := by
  have N1 : ((w.alloc (.cells #[.slice none 0 0, .slice none 0 0, .slice none 0 0, .slice none 0 0, .slice none 0 0, .slice none 0 0, .slice none 0 0, .int .i64 0, .slice none 0 0] 30)).alloc (.cells #[.int .i64 64260, .int .u32 0, .int .u32 0, .int .u64 0, .int .u32 0, .int .u32 0, .int .u64 0, .int .i64 0, .int .i64 0, .bool false, .int .i64 0, .slice none 0 0, .slice none 0 0, .bool false, .slice none 0 0, .slice none 0 0, .slice none 0 0] 52)).heap[w.heap.size + 1]? = some (.cells #[.int .i64 64260, .int .u32 0, .int .u32 0, .int .u64 0, .int .u32 0, .int .u32 0, .int .u64 0, .int .i64 0, .int .i64 0, .bool false, .int .i64 0, .slice none 0 0, .slice none 0 0, .bool false, .slice none 0 0, .slice none 0 0, .slice none 0 0] 52 (0, 0)) := by
    have := heap_alloc_last (w.alloc (.cells #[.slice none 0 0, .slice none 0 0, .slice none 0 0, .slice none 0 0, .slice none 0 0, .slice none 0 0, .slice none 0 0, .int .i64 0, .slice none 0 0] 30)) (.cells #[.int .i64 64260, .int .u32 0, .int .u32 0, .int .u64 0, .int .u32 0, .int .u32 0, .int .u64 0, .int .i64 0, .int .i64 0, .bool false, .int .i64 0, .slice none 0 0, .slice none 0 0, .bool false, .slice none 0 0, .slice none 0 0, .slice none 0 0] 52)
    rw [alloc_size] at this
    exact this
  have N0 : ((w.alloc (.cells #[.slice none 0 0, .slice none 0 0, .slice none 0 0, .slice none 0 0, .slice none 0 0, .slice none 0 0, .slice none 0 0, .int .i64 0, .slice none 0 0] 30)).alloc (.cells #[.int .i64 64260, .int .u32 0, .int .u32 0, .int .u64 0, .int .u32 0, .int .u32 0, .int .u64 0, .int .i64 0, .int .i64 0, .bool false, .int .i64 0, .slice none 0 0, .slice none 0 0, .bool false, .slice none 0 0, .slice none 0 0, .slice none 0 0] 52)).heap[w.heap.size]? = some (.cells #[.slice none 0 0, .slice none 0 0, .slice none 0 0, .slice none 0 0, .slice none 0 0, .slice none 0 0, .slice none 0 0, .int .i64 0, .slice none 0 0] 30 (0, 0)) := heap_alloc (heap_alloc_last _ _) _
  have HN := Hid.mk' N1
  have HM := Hid.mk' N0
  clear N1 N0
  have CQ : Hid (∀ X, Calls Tryz.prog 38 #[.agg #[.slice none 0 0, .slice none 0 0, .slice none 0 0, .slice none 0 0, .slice none 0 0, .slice none 0 0, .slice none 0 0, .int .i64 0, .slice none 0 0], .agg #[.int .i64 64260, .int .u32 0, .int .u32 0, .int .u64 0, .int .u32 0, .int .u32 0, .int .u64 0, .int .i64 0, .int .i64 0, .bool false, .int .i64 0, .slice none 0 0, .slice none 0 0, .bool false, .slice none 0 0, .slice none 0 0, .slice none 0 0]] X fun en w' => ∃ v, en = .returned v ∧ isFn v ∧ Grew X w') := at_64260
  have GP : Hid (Grew w w) := Grew.refl w
  go_enter Tryz.func16, Tryz.ntmps16
  go_wp2_with (first
    | (with_reducible refine stop_load 30 rfl ?_
       unfold Stop
       refine wpList_load_row rfl 30 _ rfl (w.heap.size) (by go_simp) 30 #[.slice none 0 0, .slice none 0 0, .slice none 0 0, .slice none 0 0, .slice none 0 0, .slice none 0 0, .slice none 0 0, .int .i64 0, .slice none 0 0] (0, 0) _ HM.out Tryz.underlying30 rfl (by kernel_rfl) ?_)
    | (with_reducible refine stop_load 52 rfl ?_
       unfold Stop
       refine wpList_load_row rfl 52 _ rfl (w.heap.size + 1) (by go_simp) 52 #[.int .i64 64260, .int .u32 0, .int .u32 0, .int .u64 0, .int .u32 0, .int .u32 0, .int .u64 0, .int .i64 0, .int .i64 0, .bool false, .int .i64 0, .slice none 0 0, .slice none 0 0, .bool false, .slice none 0 0, .slice none 0 0, .slice none 0 0] (0, 0) _ HN.out Tryz.underlying52 rfl (by kernel_rfl) ?_)
    | fail)
  repeat (first
    | (with_reducible refine (CQ.out _).mono ?_
       rintro en wn ⟨v, rfl, hv, gn⟩
       have gx : Grew w wn := Grew.trans (by repeat (first | with_reducible exact GP.out | with_reducible exact Grew.refl _ | refine Grew.alloc ?_ _ | refine Grew.set ?_ (by simp) _ | refine Grew.drewN ?_ _ | refine Grew.drew ?_)) gn
       clear GP
       have GP := Hid.mk' gx
       clear gn gx
       obtain ⟨fn, fA, fB, rfl⟩ := hv
       go_wp2_with (first
    | (with_reducible refine stop_load 30 rfl ?_
       unfold Stop
       refine wpList_load_row rfl 30 _ rfl (w.heap.size) (by go_simp) 30 #[.slice none 0 0, .slice none 0 0, .slice none 0 0, .slice none 0 0, .slice none 0 0, .slice none 0 0, .slice none 0 0, .int .i64 0, .slice none 0 0] (0, 0) _ HM.out Tryz.underlying30 rfl (by kernel_rfl) ?_)
    | (with_reducible refine stop_load 52 rfl ?_
       unfold Stop
       refine wpList_load_row rfl 52 _ rfl (w.heap.size + 1) (by go_simp) 52 #[.int .i64 64260, .int .u32 0, .int .u32 0, .int .u64 0, .int .u32 0, .int .u32 0, .int .u64 0, .int .i64 0, .int .i64 0, .bool false, .int .i64 0, .slice none 0 0, .slice none 0 0, .bool false, .slice none 0 0, .slice none 0 0, .slice none 0 0] (0, 0) _ HN.out Tryz.underlying52 rfl (by kernel_rfl) ?_)
    | fail)))
  go_ret
  exact ⟨_, rfl, ⟨_, _, _, rfl⟩, (by repeat (first | with_reducible exact GP.out | with_reducible exact Grew.refl _ | refine Grew.alloc ?_ _ | refine Grew.set ?_ (by simp) _ | refine Grew.drewN ?_ _ | refine Grew.drew ?_))⟩
set_option maxRecDepth 100000 in
set_option maxHeartbeats 2000000 in
theorem so_64261 (w : World) : Calls Tryz.prog 16 #[.agg #[.slice none 0 0, .slice none 0 0, .slice none 0 0, .slice none 0 0, .slice none 0 0, .slice none 0 0, .slice none 0 0, .int .i64 0, .slice none 0 0], .agg #[.int .i64 64261, .int .u32 0, .int .u32 0, .int .u64 0, .int .u32 0, .int .u32 0, .int .u64 0, .int .i64 0, .int .i64 0, .bool false, .int .i64 0, .slice none 0 0, .slice none 0 0, .bool false, .slice none 0 0, .slice none 0 0, .slice none 0 0]] w fun en w' => ∃ v, en = .returned v ∧ isFn v ∧ Grew w w' := by
  have N1 : ((w.alloc (.cells #[.slice none 0 0, .slice none 0 0, .slice none 0 0, .slice none 0 0, .slice none 0 0, .slice none 0 0, .slice none 0 0, .int .i64 0, .slice none 0 0] 30)).alloc (.cells #[.int .i64 64261, .int .u32 0, .int .u32 0, .int .u64 0, .int .u32 0, .int .u32 0, .int .u64 0, .int .i64 0, .int .i64 0, .bool false, .int .i64 0, .slice none 0 0, .slice none 0 0, .bool false, .slice none 0 0, .slice none 0 0, .slice none 0 0] 52)).heap[w.heap.size + 1]? = some (.cells #[.int .i64 64261, .int .u32 0, .int .u32 0, .int .u64 0, .int .u32 0, .int .u32 0, .int .u64 0, .int .i64 0, .int .i64 0, .bool false, .int .i64 0, .slice none 0 0, .slice none 0 0, .bool false, .slice none 0 0, .slice none 0 0, .slice none 0 0] 52 (0, 0)) := by
    have := heap_alloc_last (w.alloc (.cells #[.slice none 0 0, .slice none 0 0, .slice none 0 0, .slice none 0 0, .slice none 0 0, .slice none 0 0, .slice none 0 0, .int .i64 0, .slice none 0 0] 30)) (.cells #[.int .i64 64261, .int .u32 0, .int .u32 0, .int .u64 0, .int .u32 0, .int .u32 0, .int .u64 0, .int .i64 0, .int .i64 0, .bool false, .int .i64 0, .slice none 0 0, .slice none 0 0, .bool false, .slice none 0 0, .slice none 0 0, .slice none 0 0] 52)
    rw [alloc_size] at this
    exact this
  have N0 : ((w.alloc (.cells #[.slice none 0 0, .slice none 0 0, .slice none 0 0, .slice none 0 0, .slice none 0 0, .slice none 0 0, .slice none 0 0, .int .i64 0, .slice none 0 0] 30)).alloc (.cells #[.int .i64 64261, .int .u32 0, .int .u32 0, .int .u64 0, .int .u32 0, .int .u32 0, .int .u64 0, .int .i64 0, .int .i64 0, .bool false, .int .i64 0, .slice none 0 0, .slice none 0 0, .bool false, .slice none 0 0, .slice none 0 0, .slice none 0 0] 52)).heap[w.heap.size]? = some (.cells #[.slice none 0 0, .slice none 0 0, .slice none 0 0, .slice none 0 0, .slice none 0 0, .slice none 0 0, .slice none 0 0, .int .i64 0, .slice none 0 0] 30 (0, 0)) := heap_alloc (heap_alloc_last _ _) _
  have HN := Hid.mk' N1
  have HM := Hid.mk' N0
  clear N1 N0
  have CQ : Hid (∀ X, Calls Tryz.prog 38 #[.agg #[.slice none 0 0, .slice none 0 0, .slice none 0 0, .slice none 0 0, .slice none 0 0, .slice none 0 0, .slice none 0 0, .int .i64 0, .slice none 0 0], .agg #[.int .i64 64261, .int .u32 0, .int .u32 0, .int .u64 0, .int .u32 0, .int .u32 0, .int .u64 0, .int .i64 0, .int .i64 0, .bool false, .int .i64 0, .slice none 0 0, .slice none 0 0, .bool false, .slice none 0 0, .slice none 0 0, .slice none 0 0]] X fun en w' => ∃ v, en = .returned v ∧ isFn v ∧ Grew X w') := at_64261
  have GP : Hid (Grew w w) := Grew.refl w
  go_enter Tryz.func16, Tryz.ntmps16
  go_wp2_with (first
    | (with_reducible refine stop_load 30 rfl ?_
       unfold Stop
       refine wpList_load_row rfl 30 _ rfl (w.heap.size) (by go_simp) 30 #[.slice none 0 0, .slice none 0 0, .slice none 0 0, .slice none 0 0, .slice none 0 0, .slice none 0 0, .slice none 0 0, .int .i64 0, .slice none 0 0] (0, 0) _ HM.out Tryz.underlying30 rfl (by kernel_rfl) ?_)
    | (with_reducible refine stop_load 52 rfl ?_
       unfold Stop
       refine wpList_load_row rfl 52 _ rfl (w.heap.size + 1) (by go_simp) 52 #[.int .i64 64261, .int .u32 0, .int .u32 0, .int .u64 0, .int .u32 0, .int .u32 0, .int .u64 0, .int .i64 0, .int .i64 0, .bool false, .int .i64 0, .slice none 0 0, .slice none 0 0, .bool false, .slice none 0 0, .slice none 0 0, .slice none 0 0] (0, 0) _ HN.out Tryz.underlying52 rfl (by kernel_rfl) ?_)
    | fail)
  repeat (first
    | (with_reducible refine (CQ.out _).mono ?_
       rintro en wn ⟨v, rfl, hv, gn⟩
       have gx : Grew w wn := Grew.trans (by repeat (first | with_reducible exact GP.out | with_reducible exact Grew.refl _ | refine Grew.alloc ?_ _ | refine Grew.set ?_ (by simp) _ | refine Grew.drewN ?_ _ | refine Grew.drew ?_)) gn
       clear GP
       have GP := Hid.mk' gx
       clear gn gx
       obtain ⟨fn, fA, fB, rfl⟩ := hv
       go_wp2_with (first
    | (with_reducible refine stop_load 30 rfl ?_
       unfold Stop
       refine wpList_load_row rfl 30 _ rfl (w.heap.size) (by go_simp) 30 #[.slice none 0 0, .slice none 0 0, .slice none 0 0, .slice none 0 0, .slice none 0 0, .slice none 0 0, .slice none 0 0, .int .i64 0, .slice none 0 0] (0, 0) _ HM.out Tryz.underlying30 rfl (by kernel_rfl) ?_)
    | (with_reducible refine stop_load 52 rfl ?_
       unfold Stop
       refine wpList_load_row rfl 52 _ rfl (w.heap.size + 1) (by go_simp) 52 #[.int .i64 64261, .int .u32 0, .int .u32 0, .int .u64 0, .int .u32 0, .int .u32 0, .int .u64 0, .int .i64 0, .int .i64 0, .bool false, .int .i64 0, .slice none 0 0, .slice none 0 0, .bool false, .slice none 0 0, .slice none 0 0, .slice none 0 0] (0, 0) _ HN.out Tryz.underlying52 rfl (by kernel_rfl) ?_)
    | fail)))
  go_ret
  exact ⟨_, rfl, ⟨_, _, _, rfl⟩, (by repeat (first | with_reducible exact GP.out | with_reducible exact Grew.refl _ | refine Grew.alloc ?_ _ | refine Grew.set ?_ (by simp) _ | refine Grew.drewN ?_ _ | refine Grew.drew ?_))⟩
set_option maxRecDepth 100000 in
set_option maxHeartbeats 2000000 in
theorem so_64262 (w : World) : Calls Tryz.prog 16 #[.agg #[.slice none 0 0, .slice none 0 0, .slice none 0 0, .slice none 0 0, .slice none 0 0, .slice none 0 0, .slice none 0 0, .int .i64 0, .slice none 0 0], .agg #[.int .i64 64262, .int .u32 0, .int .u32 0, .int .u64 0, .int .u32 0, .int .u32 0, .int .u64 0, .int .i64 0, .int .i64 0, .bool false, .int .i64 0, .slice none 0 0, .slice none 0 0, .bool false, .slice none 0 0, .slice none 0 0, .slice none 0 0]] w fun en w' => ∃ v, en = .returned v ∧ isFn v ∧ Grew w w' := by
  have N1 : ((w.alloc (.cells #[.slice none 0 0, .slice none 0 0, .slice none 0 0, .slice none 0 0, .slice none 0 0, .slice none 0 0, .slice none 0 0, .int .i64 0, .slice none 0 0] 30)).alloc (.cells #[.int .i64 64262, .int .u32 0, .int .u32 0, .int .u64 0, .int .u32 0, .int .u32 0, .int .u64 0, .int .i64 0, .int .i64 0, .bool false, .int .i64 0, .slice none 0 0, .slice none 0 0, .bool false, .slice none 0 0, .slice none 0 0, .slice none 0 0] 52)).heap[w.heap.size + 1]? = some (.cells #[.int .i64 64262, .int .u32 0, .int .u32 0, .int .u64 0, .int .u32 0, .int .u32 0, .int .u64 0, .int .i64 0, .int .i64 0, .bool false, .int .i64 0, .slice none 0 0, .slice none 0 0, .bool false, .slice none 0 0, .slice none 0 0, .slice none 0 0] 52 (0, 0)) := by
    have := heap_alloc_last (w.alloc (.cells #[.slice none 0 0, .slice none 0 0, .slice none 0 0, .slice none 0 0, .slice none 0 0, .slice none 0 0, .slice none 0 0, .int .i64 0, .slice none 0 0] 30)) (.cells #[.int .i64 64262, .int .u32 0, .int .u32 0, .int .u64 0, .int .u32 0, .int .u32 0, .int .u64 0, .int .i64 0, .int .i64 0, .bool false, .int .i64 0, .slice none 0 0, .slice none 0 0, .bool false, .slice none 0 0, .slice none 0 0, .slice none 0 0] 52)
    rw [alloc_size] at this
    exact this
  have N0 : ((w.alloc (.cells #[.slice none 0 0, .slice none 0 0, .slice none 0 0, .slice none 0 0, .slice none 0 0, .slice none 0 0, .slice none 0 0, .int .i64 0, .slice none 0 0] 30)).alloc (.cells #[.int .i64 64262, .int .u32 0, .int .u32 0, .int .u64 0, .int .u32 0, .int .u32 0, .int .u64 0, .int .i64 0, .int .i64 0, .bool false, .int .i64 0, .slice none 0 0, .slice none 0 0, .bool false, .slice none 0 0, .slice none 0 0, .slice none 0 0] 52)).heap[w.heap.size]? = some (.cells #[.slice none 0 0, .slice none 0 0, .slice none 0 0, .slice none 0 0, .slice none 0 0, .slice none 0 0, .slice none 0 0, .int .i64 0, .slice none 0 0] 30 (0, 0)) := heap_alloc (heap_alloc_last _ _) _
  have HN := Hid.mk' N1
  have HM := Hid.mk' N0
  clear N1 N0
  have CQ : Hid (∀ X, Calls Tryz.prog 39 #[.agg #[.slice none 0 0, .slice none 0 0, .slice none 0 0, .slice none 0 0, .slice none 0 0, .slice none 0 0, .slice none 0 0, .int .i64 0, .slice none 0 0], .agg #[.int .i64 64262, .int .u32 0, .int .u32 0, .int .u64 0, .int .u32 0, .int .u32 0, .int .u64 0, .int .i64 0, .int .i64 0, .bool false, .int .i64 0, .slice none 0 0, .slice none 0 0, .bool false, .slice none 0 0, .slice none 0 0, .slice none 0 0]] X fun en w' => ∃ v, en = .returned v ∧ isFn v ∧ Grew X w') := fun X => qarrayNew_fn none none none none none none none none 0 0 0 0 0 0 0 0 0 0 0 0 0 0 0 0 0 (64262) 0 0 0 0 0 0 0 0 0 false false none none none none none 0 0 0 0 0 0 0 0 0 0 X
  have GP : Hid (Grew w w) := Grew.refl w
  go_enter Tryz.func16, Tryz.ntmps16
  go_wp2_with (first
    | (with_reducible refine stop_load 30 rfl ?_
       unfold Stop
       refine wpList_load_row rfl 30 _ rfl (w.heap.size) (by go_simp) 30 #[.slice none 0 0, .slice none 0 0, .slice none 0 0, .slice none 0 0, .slice none 0 0, .slice none 0 0, .slice none 0 0, .int .i64 0, .slice none 0 0] (0, 0) _ HM.out Tryz.underlying30 rfl (by kernel_rfl) ?_)
    | (with_reducible refine stop_load 52 rfl ?_
       unfold Stop
       refine wpList_load_row rfl 52 _ rfl (w.heap.size + 1) (by go_simp) 52 #[.int .i64 64262, .int .u32 0, .int .u32 0, .int .u64 0, .int .u32 0, .int .u32 0, .int .u64 0, .int .i64 0, .int .i64 0, .bool false, .int .i64 0, .slice none 0 0, .slice none 0 0, .bool false, .slice none 0 0, .slice none 0 0, .slice none 0 0] (0, 0) _ HN.out Tryz.underlying52 rfl (by kernel_rfl) ?_)
    | fail)
  repeat (first
    | (with_reducible refine (CQ.out _).mono ?_
       rintro en wn ⟨v, rfl, hv, gn⟩
       have gx : Grew w wn := Grew.trans (by repeat (first | with_reducible exact GP.out | with_reducible exact Grew.refl _ | refine Grew.alloc ?_ _ | refine Grew.set ?_ (by simp) _ | refine Grew.drewN ?_ _ | refine Grew.drew ?_)) gn
       clear GP
       have GP := Hid.mk' gx
       clear gn gx
       obtain ⟨fn, fA, fB, rfl⟩ := hv
       go_wp2_with (first
    | (with_reducible refine stop_load 30 rfl ?_
       unfold Stop
       refine wpList_load_row rfl 30 _ rfl (w.heap.size) (by go_simp) 30 #[.slice none 0 0, .slice none 0 0, .slice none 0 0, .slice none 0 0, .slice none 0 0, .slice none 0 0, .slice none 0 0, .int .i64 0, .slice none 0 0] (0, 0) _ HM.out Tryz.underlying30 rfl (by kernel_rfl) ?_)
    | (with_reducible refine stop_load 52 rfl ?_
       unfold Stop
       refine wpList_load_row rfl 52 _ rfl (w.heap.size + 1) (by go_simp) 52 #[.int .i64 64262, .int .u32 0, .int .u32 0, .int .u64 0, .int .u32 0, .int .u32 0, .int .u64 0, .int .i64 0, .int .i64 0, .bool false, .int .i64 0, .slice none 0 0, .slice none 0 0, .bool false, .slice none 0 0, .slice none 0 0, .slice none 0 0] (0, 0) _ HN.out Tryz.underlying52 rfl (by kernel_rfl) ?_)
    | fail)))
  go_ret
  exact ⟨_, rfl, ⟨_, _, _, rfl⟩, (by repeat (first | with_reducible exact GP.out | with_reducible exact Grew.refl _ | refine Grew.alloc ?_ _ | refine Grew.set ?_ (by simp) _ | refine Grew.drewN ?_ _ | refine Grew.drew ?_))⟩
set_option maxRecDepth 100000 in
set_option maxHeartbeats 2000000 in
theorem so_64263 (w : World) : Calls Tryz.prog 16 #[.agg #[.slice none 0 0, .slice none 0 0, .slice none 0 0, .slice none 0 0, .slice none 0 0, .slice none 0 0, .slice none 0 0, .int .i64 0, .slice none 0 0], .agg #[.int .i64 64263, .int .u32 0, .int .u32 0, .int .u64 0, .int .u32 0, .int .u32 0, .int .u64 0, .int .i64 0, .int .i64 0, .bool false, .int .i64 0, .slice none 0 0, .slice none 0 0, .bool false, .slice none 0 0, .slice none 0 0, .slice none 0 0]] w fun en w' => ∃ v, en = .returned v ∧ isFn v ∧ Grew w w' := by
  have N1 : ((w.alloc (.cells #[.slice none 0 0, .slice none 0 0, .slice none 0 0, .slice none 0 0, .slice none 0 0, .slice none 0 0, .slice none 0 0, .int .i64 0, .slice none 0 0] 30)).alloc (.cells #[.int .i64 64263, .int .u32 0, .int .u32 0, .int .u64 0, .int .u32 0, .int .u32 0, .int .u64 0, .int .i64 0, .int .i64 0, .bool false, .int .i64 0, .slice none 0 0, .slice none 0 0, .bool false, .slice none 0 0, .slice none 0 0, .slice none 0 0] 52)).heap[w.heap.size + 1]? = some (.cells #[.int .i64 64263, .int .u32 0, .int .u32 0, .int .u64 0, .int .u32 0, .int .u32 0, .int .u64 0, .int .i64 0, .int .i64 0, .bool false, .int .i64 0, .slice none 0 0, .slice none 0 0, .bool false, .slice none 0 0, .slice none 0 0, .slice none 0 0] 52 (0, 0)) := by
    have := heap_alloc_last (w.alloc (.cells #[.slice none 0 0, .slice none 0 0, .slice none 0 0, .slice none 0 0, .slice none 0 0, .slice none 0 0, .slice none 0 0, .int .i64 0, .slice none 0 0] 30)) (.cells #[.int .i64 64263, .int .u32 0, .int .u32 0, .int .u64 0, .int .u32 0, .int .u32 0, .int .u64 0, .int .i64 0, .int .i64 0, .bool false, .int .i64 0, .slice none 0 0, .slice none 0 0, .bool false, .slice none 0 0, .slice none 0 0, .slice none 0 0] 52)
    rw [alloc_size] at this
    exact this
  have N0 : ((w.alloc (.cells #[.slice none 0 0, .slice none 0 0, .slice none 0 0, .slice none 0 0, .slice none 0 0, .slice none 0 0, .slice none 0 0, .int .i64 0, .slice none 0 0] 30)).alloc (.cells #[.int .i64 64263, .int .u32 0, .int .u32 0, .int .u64 0, .int .u32 0, .int .u32 0, .int .u64 0, .int .i64 0, .int .i64 0, .bool false, .int .i64 0, .slice none 0 0, .slice none 0 0, .bool false, .slice none 0 0, .slice none 0 0, .slice none 0 0] 52)).heap[w.heap.size]? = some (.cells #[.slice none 0 0, .slice none 0 0, .slice none 0 0, .slice none 0 0, .slice none 0 0, .slice none 0 0, .slice none 0 0, .int .i64 0, .slice none 0 0] 30 (0, 0)) := heap_alloc (heap_alloc_last _ _) _
  have HN := Hid.mk' N1
  have HM := Hid.mk' N0
  clear N1 N0
  have CQ : Hid (∀ X, Calls Tryz.prog 40 #[.agg #[.slice none 0 0, .slice none 0 0, .slice none 0 0, .slice none 0 0, .slice none 0 0, .slice none 0 0, .slice none 0 0, .int .i64 0, .slice none 0 0], .agg #[.int .i64 64263, .int .u32 0, .int .u32 0, .int .u64 0, .int .u32 0, .int .u32 0, .int .u64 0, .int .i64 0, .int .i64 0, .bool false, .int .i64 0, .slice none 0 0, .slice none 0 0, .bool false, .slice none 0 0, .slice none 0 0, .slice none 0 0]] X fun en w' => ∃ v, en = .returned v ∧ isFn v ∧ Grew X w') := fun X => qarrayNewDefault_fn none none none none none none none none 0 0 0 0 0 0 0 0 0 0 0 0 0 0 0 0 0 (64263) 0 0 0 0 0 0 0 0 0 false false none none none none none 0 0 0 0 0 0 0 0 0 0 X
  have GP : Hid (Grew w w) := Grew.refl w
  go_enter Tryz.func16, Tryz.ntmps16
  go_wp2_with (first
    | (with_reducible refine stop_load 30 rfl ?_
       unfold Stop
       refine wpList_load_row rfl 30 _ rfl (w.heap.size) (by go_simp) 30 #[.slice none 0 0, .slice none 0 0, .slice none 0 0, .slice none 0 0, .slice none 0 0, .slice none 0 0, .slice none 0 0, .int .i64 0, .slice none 0 0] (0, 0) _ HM.out Tryz.underlying30 rfl (by kernel_rfl) ?_)
    | (with_reducible refine stop_load 52 rfl ?_
       unfold Stop
       refine wpList_load_row rfl 52 _ rfl (w.heap.size + 1) (by go_simp) 52 #[.int .i64 64263, .int .u32 0, .int .u32 0, .int .u64 0, .int .u32 0, .int .u32 0, .int .u64 0, .int .i64 0, .int .i64 0, .bool false, .int .i64 0, .slice none 0 0, .slice none 0 0, .bool false, .slice none 0 0, .slice none 0 0, .slice none 0 0] (0, 0) _ HN.out Tryz.underlying52 rfl (by kernel_rfl) ?_)
    | fail)
  repeat (first
    | (with_reducible refine (CQ.out _).mono ?_
       rintro en wn ⟨v, rfl, hv, gn⟩
       have gx : Grew w wn := Grew.trans (by repeat (first | with_reducible exact GP.out | with_reducible exact Grew.refl _ | refine Grew.alloc ?_ _ | refine Grew.set ?_ (by simp) _ | refine Grew.drewN ?_ _ | refine Grew.drew ?_)) gn
       clear GP
       have GP := Hid.mk' gx
       clear gn gx
       obtain ⟨fn, fA, fB, rfl⟩ := hv
       go_wp2_with (first
    | (with_reducible refine stop_load 30 rfl ?_
       unfold Stop
       refine wpList_load_row rfl 30 _ rfl (w.heap.size) (by go_simp) 30 #[.slice none 0 0, .slice none 0 0, .slice none 0 0, .slice none 0 0, .slice none 0 0, .slice none 0 0, .slice none 0 0, .int .i64 0, .slice none 0 0] (0, 0) _ HM.out Tryz.underlying30 rfl (by kernel_rfl) ?_)
    | (with_reducible refine stop_load 52 rfl ?_
       unfold Stop
       refine wpList_load_row rfl 52 _ rfl (w.heap.size + 1) (by go_simp) 52 #[.int .i64 64263, .int .u32 0, .int .u32 0, .int .u64 0, .int .u32 0, .int .u32 0, .int .u64 0, .int .i64 0, .int .i64 0, .bool false, .int .i64 0, .slice none 0 0, .slice none 0 0, .bool false, .slice none 0 0, .slice none 0 0, .slice none 0 0] (0, 0) _ HN.out Tryz.underlying52 rfl (by kernel_rfl) ?_)
    | fail)))
  go_ret
  exact ⟨_, rfl, ⟨_, _, _, rfl⟩, (by repeat (first | with_reducible exact GP.out | with_reducible exact Grew.refl _ | refine Grew.alloc ?_ _ | refine Grew.set ?_ (by simp) _ | refine Grew.drewN ?_ _ | refine Grew.drew ?_))⟩
set_option maxRecDepth 100000 in
set_option maxHeartbeats 2000000 in
theorem so_64264 (w : World) : Calls Tryz.prog 16 #[.agg #[.slice none 0 0, .slice none 0 0, .slice none 0 0, .slice none 0 0, .slice none 0 0, .slice none 0 0, .slice none 0 0, .int .i64 0, .slice none 0 0], .agg #[.int .i64 64264, .int .u32 0, .int .u32 0, .int .u64 0, .int .u32 0, .int .u32 0, .int .u64 0, .int .i64 0, .int .i64 0, .bool false, .int .i64 0, .slice none 0 0, .slice none 0 0, .bool false, .slice none 0 0, .slice none 0 0, .slice none 0 0]] w fun en w' => ∃ v, en = .returned v ∧ isFn v ∧ Grew w w' := by
  have N1 : ((w.alloc (.cells #[.slice none 0 0, .slice none 0 0, .slice none 0 0, .slice none 0 0, .slice none 0 0, .slice none 0 0, .slice none 0 0, .int .i64 0, .slice none 0 0] 30)).alloc (.cells #[.int .i64 64264, .int .u32 0, .int .u32 0, .int .u64 0, .int .u32 0, .int .u32 0, .int .u64 0, .int .i64 0, .int .i64 0, .bool false, .int .i64 0, .slice none 0 0, .slice none 0 0, .bool false, .slice none 0 0, .slice none 0 0, .slice none 0 0] 52)).heap[w.heap.size + 1]? = some (.cells #[.int .i64 64264, .int .u32 0, .int .u32 0, .int .u64 0, .int .u32 0, .int .u32 0, .int .u64 0, .int .i64 0, .int .i64 0, .bool false, .int .i64 0, .slice none 0 0, .slice none 0 0, .bool false, .slice none 0 0, .slice none 0 0, .slice none 0 0] 52 (0, 0)) := by
    have := heap_alloc_last (w.alloc (.cells #[.slice none 0 0, .slice none 0 0, .slice none 0 0, .slice none 0 0, .slice none 0 0, .slice none 0 0, .slice none 0 0, .int .i64 0, .slice none 0 0] 30)) (.cells #[.int .i64 64264, .int .u32 0, .int .u32 0, .int .u64 0, .int .u32 0, .int .u32 0, .int .u64 0, .int .i64 0, .int .i64 0, .bool false, .int .i64 0, .slice none 0 0, .slice none 0 0, .bool false, .slice none 0 0, .slice none 0 0, .slice none 0 0] 52)
    rw [alloc_size] at this
    exact this
  have N0 : ((w.alloc (.cells #[.slice none 0 0, .slice none 0 0, .slice none 0 0, .slice none 0 0, .slice none 0 0, .slice none 0 0, .slice none 0 0, .int .i64 0, .slice none 0 0] 30)).alloc (.cells #[.int .i64 64264, .int .u32 0, .int .u32 0, .int .u64 0, .int .u32 0, .int .u32 0, .int .u64 0, .int .i64 0, .int .i64 0, .bool false, .int .i64 0, .slice none 0 0, .slice none 0 0, .bool false, .slice none 0 0, .slice none 0 0, .slice none 0 0] 52)).heap[w.heap.size]? = some (.cells #[.slice none 0 0, .slice none 0 0, .slice none 0 0, .slice none 0 0, .slice none 0 0, .slice none 0 0, .slice none 0 0, .int .i64 0, .slice none 0 0] 30 (0, 0)) := heap_alloc (heap_alloc_last _ _) _
  have HN := Hid.mk' N1
  have HM := Hid.mk' N0
  clear N1 N0
  have CQ : Hid (∀ X, Calls Tryz.prog 41 #[.agg #[.slice none 0 0, .slice none 0 0, .slice none 0 0, .slice none 0 0, .slice none 0 0, .slice none 0 0, .slice none 0 0, .int .i64 0, .slice none 0 0], .agg #[.int .i64 64264, .int .u32 0, .int .u32 0, .int .u64 0, .int .u32 0, .int .u32 0, .int .u64 0, .int .i64 0, .int .i64 0, .bool false, .int .i64 0, .slice none 0 0, .slice none 0 0, .bool false, .slice none 0 0, .slice none 0 0, .slice none 0 0]] X fun en w' => ∃ v, en = .returned v ∧ isFn v ∧ Grew X w') := fun X => qarrayNewFixed_fn none none none none none none none none 0 0 0 0 0 0 0 0 0 0 0 0 0 0 0 0 0 (64264) 0 0 0 0 0 0 0 0 0 false false none none none none none 0 0 0 0 0 0 0 0 0 0 X
  have GP : Hid (Grew w w) := Grew.refl w
  go_enter Tryz.func16, Tryz.ntmps16
  go_wp2_with (first
    | (with_reducible refine stop_load 30 rfl ?_
       unfold Stop
       refine wpList_load_row rfl 30 _ rfl (w.heap.size) (by go_simp) 30 #[.slice none 0 0, .slice none 0 0, .slice none 0 0, .slice none 0 0, .slice none 0 0, .slice none 0 0, .slice none 0 0, .int .i64 0, .slice none 0 0] (0, 0) _ HM.out Tryz.underlying30 rfl (by kernel_rfl) ?_)
    | (with_reducible refine stop_load 52 rfl ?_
       unfold Stop
       refine wpList_load_row rfl 52 _ rfl (w.heap.size + 1) (by go_simp) 52 #[.int .i64 64264, .int .u32 0, .int .u32 0, .int .u64 0, .int .u32 0, .int .u32 0, .int .u64 0, .int .i64 0, .int .i64 0, .bool false, .int .i64 0, .slice none 0 0, .slice none 0 0, .bool false, .slice none 0 0, .slice none 0 0, .slice none 0 0] (0, 0) _ HN.out Tryz.underlying52 rfl (by kernel_rfl) ?_)
    | fail)
  repeat (first
    | (with_reducible refine (CQ.out _).mono ?_
       rintro en wn ⟨v, rfl, hv, gn⟩
       have gx : Grew w wn := Grew.trans (by repeat (first | with_reducible exact GP.out | with_reducible exact Grew.refl _ | refine Grew.alloc ?_ _ | refine Grew.set ?_ (by simp) _ | refine Grew.drewN ?_ _ | refine Grew.drew ?_)) gn
       clear GP
       have GP := Hid.mk' gx
       clear gn gx
       obtain ⟨fn, fA, fB, rfl⟩ := hv
       go_wp2_with (first
    | (with_reducible refine stop_load 30 rfl ?_
       unfold Stop
       refine wpList_load_row rfl 30 _ rfl (w.heap.size) (by go_simp) 30 #[.slice none 0 0, .slice none 0 0, .slice none 0 0, .slice none 0 0, .slice none 0 0, .slice none 0 0, .slice none 0 0, .int .i64 0, .slice none 0 0] (0, 0) _ HM.out Tryz.underlying30 rfl (by kernel_rfl) ?_)
    | (with_reducible refine stop_load 52 rfl ?_
       unfold Stop
       refine wpList_load_row rfl 52 _ rfl (w.heap.size + 1) (by go_simp) 52 #[.int .i64 64264, .int .u32 0, .int .u32 0, .int .u64 0, .int .u32 0, .int .u32 0, .int .u64 0, .int .i64 0, .int .i64 0, .bool false, .int .i64 0, .slice none 0 0, .slice none 0 0, .bool false, .slice none 0 0, .slice none 0 0, .slice none 0 0] (0, 0) _ HN.out Tryz.underlying52 rfl (by kernel_rfl) ?_)
    | fail)))
  go_ret
  exact ⟨_, rfl, ⟨_, _, _, rfl⟩, (by repeat (first | with_reducible exact GP.out | with_reducible exact Grew.refl _ | refine Grew.alloc ?_ _ | refine Grew.set ?_ (by simp) _ | refine Grew.drewN ?_ _ | refine Grew.drew ?_))⟩
set_option maxRecDepth 100000 in
set_option maxHeartbeats 2000000 in
theorem so_64265 (w : World) : Calls Tryz.prog 16 #[.agg #[.slice none 0 0, .slice none 0 0, .slice none 0 0, .slice none 0 0, .slice none 0 0, .slice none 0 0, .slice none 0 0, .int .i64 0, .slice none 0 0], .agg #[.int .i64 64265, .int .u32 0, .int .u32 0, .int .u64 0, .int .u32 0, .int .u32 0, .int .u64 0, .int .i64 0, .int .i64 0, .bool false, .int .i64 0, .slice none 0 0, .slice none 0 0, .bool false, .slice none 0 0, .slice none 0 0, .slice none 0 0]] w fun en w' => ∃ v, en = .returned v ∧ isFn v ∧ Grew w w' := by
  have N1 : ((w.alloc (.cells #[.slice none 0 0, .slice none 0 0, .slice none 0 0, .slice none 0 0, .slice none 0 0, .slice none 0 0, .slice none 0 0, .int .i64 0, .slice none 0 0] 30)).alloc (.cells #[.int .i64 64265, .int .u32 0, .int .u32 0, .int .u64 0, .int .u32 0, .int .u32 0, .int .u64 0, .int .i64 0, .int .i64 0, .bool false, .int .i64 0, .slice none 0 0, .slice none 0 0, .bool false, .slice none 0 0, .slice none 0 0, .slice none 0 0] 52)).heap[w.heap.size + 1]? = some (.cells #[.int .i64 64265, .int .u32 0, .int .u32 0, .int .u64 0, .int .u32 0, .int .u32 0, .int .u64 0, .int .i64 0, .int .i64 0, .bool false, .int .i64 0, .slice none 0 0, .slice none 0 0, .bool false, .slice none 0 0, .slice none 0 0, .slice none 0 0] 52 (0, 0)) := by
    have := heap_alloc_last (w.alloc (.cells #[.slice none 0 0, .slice none 0 0, .slice none 0 0, .slice none 0 0, .slice none 0 0, .slice none 0 0, .slice none 0 0, .int .i64 0, .slice none 0 0] 30)) (.cells #[.int .i64 64265, .int .u32 0, .int .u32 0, .int .u64 0, .int .u32 0, .int .u32 0, .int .u64 0, .int .i64 0, .int .i64 0, .bool false, .int .i64 0, .slice none 0 0, .slice none 0 0, .bool false, .slice none 0 0, .slice none 0 0, .slice none 0 0] 52)
    rw [alloc_size] at this
    exact this
  have N0 : ((w.alloc (.cells #[.slice none 0 0, .slice none 0 0, .slice none 0 0, .slice none 0 0, .slice none 0 0, .slice none 0 0, .slice none 0 0, .int .i64 0, .slice none 0 0] 30)).alloc (.cells #[.int .i64 64265, .int .u32 0, .int .u32 0, .int .u64 0, .int .u32 0, .int .u32 0, .int .u64 0, .int .i64 0, .int .i64 0, .bool false, .int .i64 0, .slice none 0 0, .slice none 0 0, .bool false, .slice none 0 0, .slice none 0 0, .slice none 0 0] 52)).heap[w.heap.size]? = some (.cells #[.slice none 0 0, .slice none 0 0, .slice none 0 0, .slice none 0 0, .slice none 0 0, .slice none 0 0, .slice none 0 0, .int .i64 0, .slice none 0 0] 30 (0, 0)) := heap_alloc (heap_alloc_last _ _) _
  have HN := Hid.mk' N1
  have HM := Hid.mk' N0
  clear N1 N0
  have CQ : Hid (∀ f A B X, Calls Tryz.prog 42 #[.agg #[.slice none 0 0, .slice none 0 0, .slice none 0 0, .slice none 0 0, .slice none 0 0, .slice none 0 0, .slice none 0 0, .int .i64 0, .slice none 0 0], .agg #[.int .i64 64265, .int .u32 0, .int .u32 0, .int .u64 0, .int .u32 0, .int .u32 0, .int .u64 0, .int .i64 0, .int .i64 0, .bool false, .int .i64 0, .slice none 0 0, .slice none 0 0, .bool false, .slice none 0 0, .slice none 0 0, .slice none 0 0], .func (.func f) A B] X fun en w' => ∃ v, en = .returned v ∧ isFn v ∧ Grew X w') := fun f A B X => qarrayNewFrom_fn none none none none none none none none 0 0 0 0 0 0 0 0 0 0 0 0 0 0 0 0 0 (64265) 0 0 0 0 0 0 0 0 0 false false none none none none none 0 0 0 0 0 0 0 0 0 0 f A B X
  have GP : Hid (Grew w w) := Grew.refl w
  go_enter Tryz.func16, Tryz.ntmps16
  go_wp2_with (first
    | (with_reducible refine stop_load 30 rfl ?_
       unfold Stop
       refine wpList_load_row rfl 30 _ rfl (w.heap.size) (by go_simp) 30 #[.slice none 0 0, .slice none 0 0, .slice none 0 0, .slice none 0 0, .slice none 0 0, .slice none 0 0, .slice none 0 0, .int .i64 0, .slice none 0 0] (0, 0) _ HM.out Tryz.underlying30 rfl (by kernel_rfl) ?_)
    | (with_reducible refine stop_load 52 rfl ?_
       unfold Stop
       refine wpList_load_row rfl 52 _ rfl (w.heap.size + 1) (by go_simp) 52 #[.int .i64 64265, .int .u32 0, .int .u32 0, .int .u64 0, .int .u32 0, .int .u32 0, .int .u64 0, .int .i64 0, .int .i64 0, .bool false, .int .i64 0, .slice none 0 0, .slice none 0 0, .bool false, .slice none 0 0, .slice none 0 0, .slice none 0 0] (0, 0) _ HN.out Tryz.underlying52 rfl (by kernel_rfl) ?_)
    | fail)
  repeat (first
    | (with_reducible refine (CQ.out _ _ _ _).mono ?_
       rintro en wn ⟨v, rfl, hv, gn⟩
       have gx : Grew w wn := Grew.trans (by repeat (first | with_reducible exact GP.out | with_reducible exact Grew.refl _ | refine Grew.alloc ?_ _ | refine Grew.set ?_ (by simp) _ | refine Grew.drewN ?_ _ | refine Grew.drew ?_)) gn
       clear GP
       have GP := Hid.mk' gx
       clear gn gx
       obtain ⟨fn, fA, fB, rfl⟩ := hv
       go_wp2_with (first
    | (with_reducible refine stop_load 30 rfl ?_
       unfold Stop
       refine wpList_load_row rfl 30 _ rfl (w.heap.size) (by go_simp) 30 #[.slice none 0 0, .slice none 0 0, .slice none 0 0, .slice none 0 0, .slice none 0 0, .slice none 0 0, .slice none 0 0, .int .i64 0, .slice none 0 0] (0, 0) _ HM.out Tryz.underlying30 rfl (by kernel_rfl) ?_)
    | (with_reducible refine stop_load 52 rfl ?_
       unfold Stop
       refine wpList_load_row rfl 52 _ rfl (w.heap.size + 1) (by go_simp) 52 #[.int .i64 64265, .int .u32 0, .int .u32 0, .int .u64 0, .int .u32 0, .int .u32 0, .int .u64 0, .int .i64 0, .int .i64 0, .bool false, .int .i64 0, .slice none 0 0, .slice none 0 0, .bool false, .slice none 0 0, .slice none 0 0, .slice none 0 0] (0, 0) _ HN.out Tryz.underlying52 rfl (by kernel_rfl) ?_)
    | fail)))
  go_ret
  exact ⟨_, rfl, ⟨_, _, _, rfl⟩, (by repeat (first | with_reducible exact GP.out | with_reducible exact Grew.refl _ | refine Grew.alloc ?_ _ | refine Grew.set ?_ (by simp) _ | refine Grew.drewN ?_ _ | refine Grew.drew ?_))⟩
set_option maxRecDepth 100000 in
set_option maxHeartbeats 2000000 in
theorem so_64266 (w : World) : Calls Tryz.prog 16 #[.agg #[.slice none 0 0, .slice none 0 0, .slice none 0 0, .slice none 0 0, .slice none 0 0, .slice none 0 0, .slice none 0 0, .int .i64 0, .slice none 0 0], .agg #[.int .i64 64266, .int .u32 0, .int .u32 0, .int .u64 0, .int .u32 0, .int .u32 0, .int .u64 0, .int .i64 0, .int .i64 0, .bool false, .int .i64 0, .slice none 0 0, .slice none 0 0, .bool false, .slice none 0 0, .slice none 0 0, .slice none 0 0]] w fun en w' => ∃ v, en = .returned v ∧ isFn v ∧ Grew w w' := by
  have N1 : ((w.alloc (.cells #[.slice none 0 0, .slice none 0 0, .slice none 0 0, .slice none 0 0, .slice none 0 0, .slice none 0 0, .slice none 0 0, .int .i64 0, .slice none 0 0] 30)).alloc (.cells #[.int .i64 64266, .int .u32 0, .int .u32 0, .int .u64 0, .int .u32 0, .int .u32 0, .int .u64 0, .int .i64 0, .int .i64 0, .bool false, .int .i64 0, .slice none 0 0, .slice none 0 0, .bool false, .slice none 0 0, .slice none 0 0, .slice none 0 0] 52)).heap[w.heap.size + 1]? = some (.cells #[.int .i64 64266, .int .u32 0, .int .u32 0, .int .u64 0, .int .u32 0, .int .u32 0, .int .u64 0, .int .i64 0, .int .i64 0, .bool false, .int .i64 0, .slice none 0 0, .slice none 0 0, .bool false, .slice none 0 0, .slice none 0 0, .slice none 0 0] 52 (0, 0)) := by
    have := heap_alloc_last (w.alloc (.cells #[.slice none 0 0, .slice none 0 0, .slice none 0 0, .slice none 0 0, .slice none 0 0, .slice none 0 0, .slice none 0 0, .int .i64 0, .slice none 0 0] 30)) (.cells #[.int .i64 64266, .int .u32 0, .int .u32 0, .int .u64 0, .int .u32 0, .int .u32 0, .int .u64 0, .int .i64 0, .int .i64 0, .bool false, .int .i64 0, .slice none 0 0, .slice none 0 0, .bool false, .slice none 0 0, .slice none 0 0, .slice none 0 0] 52)
    rw [alloc_size] at this
    exact this
  have N0 : ((w.alloc (.cells #[.slice none 0 0, .slice none 0 0, .slice none 0 0, .slice none 0 0, .slice none 0 0, .slice none 0 0, .slice none 0 0, .int .i64 0, .slice none 0 0] 30)).alloc (.cells #[.int .i64 64266, .int .u32 0, .int .u32 0, .int .u64 0, .int .u32 0, .int .u32 0, .int .u64 0, .int .i64 0, .int .i64 0, .bool false, .int .i64 0, .slice none 0 0, .slice none 0 0, .bool false, .slice none 0 0, .slice none 0 0, .slice none 0 0] 52)).heap[w.heap.size]? = some (.cells #[.slice none 0 0, .slice none 0 0, .slice none 0 0, .slice none 0 0, .slice none 0 0, .slice none 0 0, .slice none 0 0, .int .i64 0, .slice none 0 0] 30 (0, 0)) := heap_alloc (heap_alloc_last _ _) _
  have HN := Hid.mk' N1
  have HM := Hid.mk' N0
  clear N1 N0
  have CQ : Hid (∀ f A B X, Calls Tryz.prog 42 #[.agg #[.slice none 0 0, .slice none 0 0, .slice none 0 0, .slice none 0 0, .slice none 0 0, .slice none 0 0, .slice none 0 0, .int .i64 0, .slice none 0 0], .agg #[.int .i64 64266, .int .u32 0, .int .u32 0, .int .u64 0, .int .u32 0, .int .u32 0, .int .u64 0, .int .i64 0, .int .i64 0, .bool false, .int .i64 0, .slice none 0 0, .slice none 0 0, .bool false, .slice none 0 0, .slice none 0 0, .slice none 0 0], .func (.func f) A B] X fun en w' => ∃ v, en = .returned v ∧ isFn v ∧ Grew X w') := fun f A B X => qarrayNewFrom_fn none none none none none none none none 0 0 0 0 0 0 0 0 0 0 0 0 0 0 0 0 0 (64266) 0 0 0 0 0 0 0 0 0 false false none none none none none 0 0 0 0 0 0 0 0 0 0 f A B X
  have GP : Hid (Grew w w) := Grew.refl w
  go_enter Tryz.func16, Tryz.ntmps16
  go_wp2_with (first
    | (with_reducible refine stop_load 30 rfl ?_
       unfold Stop
       refine wpList_load_row rfl 30 _ rfl (w.heap.size) (by go_simp) 30 #[.slice none 0 0, .slice none 0 0, .slice none 0 0, .slice none 0 0, .slice none 0 0, .slice none 0 0, .slice none 0 0, .int .i64 0, .slice none 0 0] (0, 0) _ HM.out Tryz.underlying30 rfl (by kernel_rfl) ?_)
    | (with_reducible refine stop_load 52 rfl ?_
       unfold Stop
       refine wpList_load_row rfl 52 _ rfl (w.heap.size + 1) (by go_simp) 52 #[.int .i64 64266, .int .u32 0, .int .u32 0, .int .u64 0, .int .u32 0, .int .u32 0, .int .u64 0, .int .i64 0, .int .i64 0, .bool false, .int .i64 0, .slice none 0 0, .slice none 0 0, .bool false, .slice none 0 0, .slice none 0 0, .slice none 0 0] (0, 0) _ HN.out Tryz.underlying52 rfl (by kernel_rfl) ?_)
    | fail)
  repeat (first
    | (with_reducible refine (CQ.out _ _ _ _).mono ?_
       rintro en wn ⟨v, rfl, hv, gn⟩
       have gx : Grew w wn := Grew.trans (by repeat (first | with_reducible exact GP.out | with_reducible exact Grew.refl _ | refine Grew.alloc ?_ _ | refine Grew.set ?_ (by simp) _ | refine Grew.drewN ?_ _ | refine Grew.drew ?_)) gn
       clear GP
       have GP := Hid.mk' gx
       clear gn gx
       obtain ⟨fn, fA, fB, rfl⟩ := hv
       go_wp2_with (first
    | (with_reducible refine stop_load 30 rfl ?_
       unfold Stop
       refine wpList_load_row rfl 30 _ rfl (w.heap.size) (by go_simp) 30 #[.slice none 0 0, .slice none 0 0, .slice none 0 0, .slice none 0 0, .slice none 0 0, .slice none 0 0, .slice none 0 0, .int .i64 0, .slice none 0 0] (0, 0) _ HM.out Tryz.underlying30 rfl (by kernel_rfl) ?_)
    | (with_reducible refine stop_load 52 rfl ?_
       unfold Stop
       refine wpList_load_row rfl 52 _ rfl (w.heap.size + 1) (by go_simp) 52 #[.int .i64 64266, .int .u32 0, .int .u32 0, .int .u64 0, .int .u32 0, .int .u32 0, .int .u64 0, .int .i64 0, .int .i64 0, .bool false, .int .i64 0, .slice none 0 0, .slice none 0 0, .bool false, .slice none 0 0, .slice none 0 0, .slice none 0 0] (0, 0) _ HN.out Tryz.underlying52 rfl (by kernel_rfl) ?_)
    | fail)))
  go_ret
  exact ⟨_, rfl, ⟨_, _, _, rfl⟩, (by repeat (first | with_reducible exact GP.out | with_reducible exact Grew.refl _ | refine Grew.alloc ?_ _ | refine Grew.set ?_ (by simp) _ | refine Grew.drewN ?_ _ | refine Grew.drew ?_))⟩
set_option maxRecDepth 100000 in
set_option maxHeartbeats 2000000 in
theorem so_64267 (w : World) : Calls Tryz.prog 16 #[.agg #[.slice none 0 0, .slice none 0 0, .slice none 0 0, .slice none 0 0, .slice none 0 0, .slice none 0 0, .slice none 0 0, .int .i64 0, .slice none 0 0], .agg #[.int .i64 64267, .int .u32 0, .int .u32 0, .int .u64 0, .int .u32 0, .int .u32 0, .int .u64 0, .int .i64 0, .int .i64 0, .bool false, .int .i64 0, .slice none 0 0, .slice none 0 0, .bool false, .slice none 0 0, .slice none 0 0, .slice none 0 0]] w fun en w' => ∃ v, en = .returned v ∧ isFn v ∧ Grew w w' := by
  have N1 : ((w.alloc (.cells #[.slice none 0 0, .slice none 0 0, .slice none 0 0, .slice none 0 0, .slice none 0 0, .slice none 0 0, .slice none 0 0, .int .i64 0, .slice none 0 0] 30)).alloc (.cells #[.int .i64 64267, .int .u32 0, .int .u32 0, .int .u64 0, .int .u32 0, .int .u32 0, .int .u64 0, .int .i64 0, .int .i64 0, .bool false, .int .i64 0, .slice none 0 0, .slice none 0 0, .bool false, .slice none 0 0, .slice none 0 0, .slice none 0 0] 52)).heap[w.heap.size + 1]? = some (.cells #[.int .i64 64267, .int .u32 0, .int .u32 0, .int .u64 0, .int .u32 0, .int .u32 0, .int .u64 0, .int .i64 0, .int .i64 0, .bool false, .int .i64 0, .slice none 0 0, .slice none 0 0, .bool false, .slice none 0 0, .slice none 0 0, .slice none 0 0] 52 (0, 0)) := by
    have := heap_alloc_last (w.alloc (.cells #[.slice none 0 0, .slice none 0 0, .slice none 0 0, .slice none 0 0, .slice none 0 0, .slice none 0 0, .slice none 0 0, .int .i64 0, .slice none 0 0] 30)) (.cells #[.int .i64 64267, .int .u32 0, .int .u32 0, .int .u64 0, .int .u32 0, .int .u32 0, .int .u64 0, .int .i64 0, .int .i64 0, .bool false, .int .i64 0, .slice none 0 0, .slice none 0 0, .bool false, .slice none 0 0, .slice none 0 0, .slice none 0 0] 52)
    rw [alloc_size] at this
    exact this
  have N0 : ((w.alloc (.cells #[.slice none 0 0, .slice none 0 0, .slice none 0 0, .slice none 0 0, .slice none 0 0, .slice none 0 0, .slice none 0 0, .int .i64 0, .slice none 0 0] 30)).alloc (.cells #[.int .i64 64267, .int .u32 0, .int .u32 0, .int .u64 0, .int .u32 0, .int .u32 0, .int .u64 0, .int .i64 0, .int .i64 0, .bool false, .int .i64 0, .slice none 0 0, .slice none 0 0, .bool false, .slice none 0 0, .slice none 0 0, .slice none 0 0] 52)).heap[w.heap.size]? = some (.cells #[.slice none 0 0, .slice none 0 0, .slice none 0 0, .slice none 0 0, .slice none 0 0, .slice none 0 0, .slice none 0 0, .int .i64 0, .slice none 0 0] 30 (0, 0)) := heap_alloc (heap_alloc_last _ _) _
  have HN := Hid.mk' N1
  have HM := Hid.mk' N0
  clear N1 N0
  have CQ : Hid (∀ X, Calls Tryz.prog 38 #[.agg #[.slice none 0 0, .slice none 0 0, .slice none 0 0, .slice none 0 0, .slice none 0 0, .slice none 0 0, .slice none 0 0, .int .i64 0, .slice none 0 0], .agg #[.int .i64 64267, .int .u32 0, .int .u32 0, .int .u64 0, .int .u32 0, .int .u32 0, .int .u64 0, .int .i64 0, .int .i64 0, .bool false, .int .i64 0, .slice none 0 0, .slice none 0 0, .bool false, .slice none 0 0, .slice none 0 0, .slice none 0 0]] X fun en w' => ∃ v, en = .returned v ∧ isFn v ∧ Grew X w') := at_64267
  have GP : Hid (Grew w w) := Grew.refl w
  go_enter Tryz.func16, Tryz.ntmps16
  go_wp2_with (first
    | (with_reducible refine stop_load 30 rfl ?_
       unfold Stop
       refine wpList_load_row rfl 30 _ rfl (w.heap.size) (by go_simp) 30 #[.slice none 0 0, .slice none 0 0, .slice none 0 0, .slice none 0 0, .slice none 0 0, .slice none 0 0, .slice none 0 0, .int .i64 0, .slice none 0 0] (0, 0) _ HM.out Tryz.underlying30 rfl (by kernel_rfl) ?_)
    | (with_reducible refine stop_load 52 rfl ?_
       unfold Stop
       refine wpList_load_row rfl 52 _ rfl (w.heap.size + 1) (by go_simp) 52 #[.int .i64 64267, .int .u32 0, .int .u32 0, .int .u64 0, .int .u32 0, .int .u32 0, .int .u64 0, .int .i64 0, .int .i64 0, .bool false, .int .i64 0, .slice none 0 0, .slice none 0 0, .bool false, .slice none 0 0, .slice none 0 0, .slice none 0 0] (0, 0) _ HN.out Tryz.underlying52 rfl (by kernel_rfl) ?_)
    | fail)
  repeat (first
    | (with_reducible refine (CQ.out _).mono ?_
       rintro en wn ⟨v, rfl, hv, gn⟩
       have gx : Grew w wn := Grew.trans (by repeat (first | with_reducible exact GP.out | with_reducible exact Grew.refl _ | refine Grew.alloc ?_ _ | refine Grew.set ?_ (by simp) _ | refine Grew.drewN ?_ _ | refine Grew.drew ?_)) gn
       clear GP
       have GP := Hid.mk' gx
       clear gn gx
       obtain ⟨fn, fA, fB, rfl⟩ := hv
       go_wp2_with (first
    | (with_reducible refine stop_load 30 rfl ?_
       unfold Stop
       refine wpList_load_row rfl 30 _ rfl (w.heap.size) (by go_simp) 30 #[.slice none 0 0, .slice none 0 0, .slice none 0 0, .slice none 0 0, .slice none 0 0, .slice none 0 0, .slice none 0 0, .int .i64 0, .slice none 0 0] (0, 0) _ HM.out Tryz.underlying30 rfl (by kernel_rfl) ?_)
    | (with_reducible refine stop_load 52 rfl ?_
       unfold Stop
       refine wpList_load_row rfl 52 _ rfl (w.heap.size + 1) (by go_simp) 52 #[.int .i64 64267, .int .u32 0, .int .u32 0, .int .u64 0, .int .u32 0, .int .u32 0, .int .u64 0, .int .i64 0, .int .i64 0, .bool false, .int .i64 0, .slice none 0 0, .slice none 0 0, .bool false, .slice none 0 0, .slice none 0 0, .slice none 0 0] (0, 0) _ HN.out Tryz.underlying52 rfl (by kernel_rfl) ?_)
    | fail)))
  go_ret
  exact ⟨_, rfl, ⟨_, _, _, rfl⟩, (by repeat (first | with_reducible exact GP.out | with_reducible exact Grew.refl _ | refine Grew.alloc ?_ _ | refine Grew.set ?_ (by simp) _ | refine Grew.drewN ?_ _ | refine Grew.drew ?_))⟩
set_option maxRecDepth 100000 in
set_option maxHeartbeats 2000000 in
theorem so_64268 (w : World) : Calls Tryz.prog 16 #[.agg #[.slice none 0 0, .slice none 0 0, .slice none 0 0, .slice none 0 0, .slice none 0 0, .slice none 0 0, .slice none 0 0, .int .i64 0, .slice none 0 0], .agg #[.int .i64 64268, .int .u32 0, .int .u32 0, .int .u64 0, .int .u32 0, .int .u32 0, .int .u64 0, .int .i64 0, .int .i64 0, .bool false, .int .i64 0, .slice none 0 0, .slice none 0 0, .bool false, .slice none 0 0, .slice none 0 0, .slice none 0 0]] w fun en w' => ∃ v, en = .returned v ∧ isFn v ∧ Grew w w' := by
  have N1 : ((w.alloc (.cells #[.slice none 0 0, .slice none 0 0, .slice none 0 0, .slice none 0 0, .slice none 0 0, .slice none 0 0, .slice none 0 0, .int .i64 0, .slice none 0 0] 30)).alloc (.cells #[.int .i64 64268, .int .u32 0, .int .u32 0, .int .u64 0, .int .u32 0, .int .u32 0, .int .u64 0, .int .i64 0, .int .i64 0, .bool false, .int .i64 0, .slice none 0 0, .slice none 0 0, .bool false, .slice none 0 0, .slice none 0 0, .slice none 0 0] 52)).heap[w.heap.size + 1]? = some (.cells #[.int .i64 64268, .int .u32 0, .int .u32 0, .int .u64 0, .int .u32 0, .int .u32 0, .int .u64 0, .int .i64 0, .int .i64 0, .bool false, .int .i64 0, .slice none 0 0, .slice none 0 0, .bool false, .slice none 0 0, .slice none 0 0, .slice none 0 0] 52 (0, 0)) := by
    have := heap_alloc_last (w.alloc (.cells #[.slice none 0 0, .slice none 0 0, .slice none 0 0, .slice none 0 0, .slice none 0 0, .slice none 0 0, .slice none 0 0, .int .i64 0, .slice none 0 0] 30)) (.cells #[.int .i64 64268, .int .u32 0, .int .u32 0, .int .u64 0, .int .u32 0, .int .u32 0, .int .u64 0, .int .i64 0, .int .i64 0, .bool false, .int .i64 0, .slice none 0 0, .slice none 0 0, .bool false, .slice none 0 0, .slice none 0 0, .slice none 0 0] 52)
    rw [alloc_size] at this
    exact this
  have N0 : ((w.alloc (.cells #[.slice none 0 0, .slice none 0 0, .slice none 0 0, .slice none 0 0, .slice none 0 0, .slice none 0 0, .slice none 0 0, .int .i64 0, .slice none 0 0] 30)).alloc (.cells #[.int .i64 64268, .int .u32 0, .int .u32 0, .int .u64 0, .int .u32 0, .int .u32 0, .int .u64 0, .int .i64 0, .int .i64 0, .bool false, .int .i64 0, .slice none 0 0, .slice none 0 0, .bool false, .slice none 0 0, .slice none 0 0, .slice none 0 0] 52)).heap[w.heap.size]? = some (.cells #[.slice none 0 0, .slice none 0 0, .slice none 0 0, .slice none 0 0, .slice none 0 0, .slice none 0 0, .slice none 0 0, .int .i64 0, .slice none 0 0] 30 (0, 0)) := heap_alloc (heap_alloc_last _ _) _
  have HN := Hid.mk' N1
  have HM := Hid.mk' N0
  clear N1 N0
  have CQ : Hid (∀ X, Calls Tryz.prog 38 #[.agg #[.slice none 0 0, .slice none 0 0, .slice none 0 0, .slice none 0 0, .slice none 0 0, .slice none 0 0, .slice none 0 0, .int .i64 0, .slice none 0 0], .agg #[.int .i64 64268, .int .u32 0, .int .u32 0, .int .u64 0, .int .u32 0, .int .u32 0, .int .u64 0, .int .i64 0, .int .i64 0, .bool false, .int .i64 0, .slice none 0 0, .slice none 0 0, .bool false, .slice none 0 0, .slice none 0 0, .slice none 0 0]] X fun en w' => ∃ v, en = .returned v ∧ isFn v ∧ Grew X w') := at_64268
  have GP : Hid (Grew w w) := Grew.refl w
  go_enter Tryz.func16, Tryz.ntmps16
  go_wp2_with (first
    | (with_reducible refine stop_load 30 rfl ?_
       unfold Stop
       refine wpList_load_row rfl 30 _ rfl (w.heap.size) (by go_simp) 30 #[.slice none 0 0, .slice none 0 0, .slice none 0 0, .slice none 0 0, .slice none 0 0, .slice none 0 0, .slice none 0 0, .int .i64 0, .slice none 0 0] (0, 0) _ HM.out Tryz.underlying30 rfl (by kernel_rfl) ?_)
    | (with_reducible refine stop_load 52 rfl ?_
       unfold Stop
       refine wpList_load_row rfl 52 _ rfl (w.heap.size + 1) (by go_simp) 52 #[.int .i64 64268, .int .u32 0, .int .u32 0, .int .u64 0, .int .u32 0, .int .u32 0, .int .u64 0, .int .i64 0, .int .i64 0, .bool false, .int .i64 0, .slice none 0 0, .slice none 0 0, .bool false, .slice none 0 0, .slice none 0 0, .slice none 0 0] (0, 0) _ HN.out Tryz.underlying52 rfl (by kernel_rfl) ?_)
    | fail)
  repeat (first
    | (with_reducible refine (CQ.out _).mono ?_
       rintro en wn ⟨v, rfl, hv, gn⟩
       have gx : Grew w wn := Grew.trans (by repeat (first | with_reducible exact GP.out | with_reducible exact Grew.refl _ | refine Grew.alloc ?_ _ | refine Grew.set ?_ (by simp) _ | refine Grew.drewN ?_ _ | refine Grew.drew ?_)) gn
       clear GP
       have GP := Hid.mk' gx
       clear gn gx
       obtain ⟨fn, fA, fB, rfl⟩ := hv
       go_wp2_with (first
    | (with_reducible refine stop_load 30 rfl ?_
       unfold Stop
       refine wpList_load_row rfl 30 _ rfl (w.heap.size) (by go_simp) 30 #[.slice none 0 0, .slice none 0 0, .slice none 0 0, .slice none 0 0, .slice none 0 0, .slice none 0 0, .slice none 0 0, .int .i64 0, .slice none 0 0] (0, 0) _ HM.out Tryz.underlying30 rfl (by kernel_rfl) ?_)
    | (with_reducible refine stop_load 52 rfl ?_
       unfold Stop
       refine wpList_load_row rfl 52 _ rfl (w.heap.size + 1) (by go_simp) 52 #[.int .i64 64268, .int .u32 0, .int .u32 0, .int .u64 0, .int .u32 0, .int .u32 0, .int .u64 0, .int .i64 0, .int .i64 0, .bool false, .int .i64 0, .slice none 0 0, .slice none 0 0, .bool false, .slice none 0 0, .slice none 0 0, .slice none 0 0] (0, 0) _ HN.out Tryz.underlying52 rfl (by kernel_rfl) ?_)
    | fail)))
  go_ret
  exact ⟨_, rfl, ⟨_, _, _, rfl⟩, (by repeat (first | with_reducible exact GP.out | with_reducible exact Grew.refl _ | refine Grew.alloc ?_ _ | refine Grew.set ?_ (by simp) _ | refine Grew.drewN ?_ _ | refine Grew.drew ?_))⟩
set_option maxRecDepth 100000 in
set_option maxHeartbeats 2000000 in
theorem so_64269 (w : World) : Calls Tryz.prog 16 #[.agg #[.slice none 0 0, .slice none 0 0, .slice none 0 0, .slice none 0 0, .slice none 0 0, .slice none 0 0, .slice none 0 0, .int .i64 0, .slice none 0 0], .agg #[.int .i64 64269, .int .u32 0, .int .u32 0, .int .u64 0, .int .u32 0, .int .u32 0, .int .u64 0, .int .i64 0, .int .i64 0, .bool false, .int .i64 0, .slice none 0 0, .slice none 0 0, .bool false, .slice none 0 0, .slice none 0 0, .slice none 0 0]] w fun en w' => ∃ v, en = .returned v ∧ isFn v ∧ Grew w w' := by
  have N1 : ((w.alloc (.cells #[.slice none 0 0, .slice none 0 0, .slice none 0 0, .slice none 0 0, .slice none 0 0, .slice none 0 0, .slice none 0 0, .int .i64 0, .slice none 0 0] 30)).alloc (.cells #[.int .i64 64269, .int .u32 0, .int .u32 0, .int .u64 0, .int .u32 0, .int .u32 0, .int .u64 0, .int .i64 0, .int .i64 0, .bool false, .int .i64 0, .slice none 0 0, .slice none 0 0, .bool false, .slice none 0 0, .slice none 0 0, .slice none 0 0] 52)).heap[w.heap.size + 1]? = some (.cells #[.int .i64 64269, .int .u32 0, .int .u32 0, .int .u64 0, .int .u32 0, .int .u32 0, .int .u64 0, .int .i64 0, .int .i64 0, .bool false, .int .i64 0, .slice none 0 0, .slice none 0 0, .bool false, .slice none 0 0, .slice none 0 0, .slice none 0 0] 52 (0, 0)) := by
    have := heap_alloc_last (w.alloc (.cells #[.slice none 0 0, .slice none 0 0, .slice none 0 0, .slice none 0 0, .slice none 0 0, .slice none 0 0, .slice none 0 0, .int .i64 0, .slice none 0 0] 30)) (.cells #[.int .i64 64269, .int .u32 0, .int .u32 0, .int .u64 0, .int .u32 0, .int .u32 0, .int .u64 0, .int .i64 0, .int .i64 0, .bool false, .int .i64 0, .slice none 0 0, .slice none 0 0, .bool false, .slice none 0 0, .slice none 0 0, .slice none 0 0] 52)
    rw [alloc_size] at this
    exact this
  have N0 : ((w.alloc (.cells #[.slice none 0 0, .slice none 0 0, .slice none 0 0, .slice none 0 0, .slice none 0 0, .slice none 0 0, .slice none 0 0, .int .i64 0, .slice none 0 0] 30)).alloc (.cells #[.int .i64 64269, .int .u32 0, .int .u32 0, .int .u64 0, .int .u32 0, .int .u32 0, .int .u64 0, .int .i64 0, .int .i64 0, .bool false, .int .i64 0, .slice none 0 0, .slice none 0 0, .bool false, .slice none 0 0, .slice none 0 0, .slice none 0 0] 52)).heap[w.heap.size]? = some (.cells #[.slice none 0 0, .slice none 0 0, .slice none 0 0, .slice none 0 0, .slice none 0 0, .slice none 0 0, .slice none 0 0, .int .i64 0, .slice none 0 0] 30 (0, 0)) := heap_alloc (heap_alloc_last _ _) _
  have HN := Hid.mk' N1
  have HM := Hid.mk' N0
  clear N1 N0
  have CQ : Hid (∀ X, Calls Tryz.prog 38 #[.agg #[.slice none 0 0, .slice none 0 0, .slice none 0 0, .slice none 0 0, .slice none 0 0, .slice none 0 0, .slice none 0 0, .int .i64 0, .slice none 0 0], .agg #[.int .i64 64269, .int .u32 0, .int .u32 0, .int .u64 0, .int .u32 0, .int .u32 0, .int .u64 0, .int .i64 0, .int .i64 0, .bool false, .int .i64 0, .slice none 0 0, .slice none 0 0, .bool false, .slice none 0 0, .slice none 0 0, .slice none 0 0]] X fun en w' => ∃ v, en = .returned v ∧ isFn v ∧ Grew X w') := at_64269
  have GP : Hid (Grew w w) := Grew.refl w
  go_enter Tryz.func16, Tryz.ntmps16
  go_wp2_with (first
    | (with_reducible refine stop_load 30 rfl ?_
       unfold Stop
       refine wpList_load_row rfl 30 _ rfl (w.heap.size) (by go_simp) 30 #[.slice none 0 0, .slice none 0 0, .slice none 0 0, .slice none 0 0, .slice none 0 0, .slice none 0 0, .slice none 0 0, .int .i64 0, .slice none 0 0] (0, 0) _ HM.out Tryz.underlying30 rfl (by kernel_rfl) ?_)
    | (with_reducible refine stop_load 52 rfl ?_
       unfold Stop
       refine wpList_load_row rfl 52 _ rfl (w.heap.size + 1) (by go_simp) 52 #[.int .i64 64269, .int .u32 0, .int .u32 0, .int .u64 0, .int .u32 0, .int .u32 0, .int .u64 0, .int .i64 0, .int .i64 0, .bool false, .int .i64 0, .slice none 0 0, .slice none 0 0, .bool false, .slice none 0 0, .slice none 0 0, .slice none 0 0] (0, 0) _ HN.out Tryz.underlying52 rfl (by kernel_rfl) ?_)
    | fail)
  repeat (first
    | (with_reducible refine (CQ.out _).mono ?_
       rintro en wn ⟨v, rfl, hv, gn⟩
       have gx : Grew w wn := Grew.trans (by repeat (first | with_reducible exact GP.out | with_reducible exact Grew.refl _ | refine Grew.alloc ?_ _ | refine Grew.set ?_ (by simp) _ | refine Grew.drewN ?_ _ | refine Grew.drew ?_)) gn
       clear GP
       have GP := Hid.mk' gx
       clear gn gx
       obtain ⟨fn, fA, fB, rfl⟩ := hv
       go_wp2_with (first
    | (with_reducible refine stop_load 30 rfl ?_
       unfold Stop
       refine wpList_load_row rfl 30 _ rfl (w.heap.size) (by go_simp) 30 #[.slice none 0 0, .slice none 0 0, .slice none 0 0, .slice none 0 0, .slice none 0 0, .slice none 0 0, .slice none 0 0, .int .i64 0, .slice none 0 0] (0, 0) _ HM.out Tryz.underlying30 rfl (by kernel_rfl) ?_)
    | (with_reducible refine stop_load 52 rfl ?_
       unfold Stop
       refine wpList_load_row rfl 52 _ rfl (w.heap.size + 1) (by go_simp) 52 #[.int .i64 64269, .int .u32 0, .int .u32 0, .int .u64 0, .int .u32 0, .int .u32 0, .int .u64 0, .int .i64 0, .int .i64 0, .bool false, .int .i64 0, .slice none 0 0, .slice none 0 0, .bool false, .slice none 0 0, .slice none 0 0, .slice none 0 0] (0, 0) _ HN.out Tryz.underlying52 rfl (by kernel_rfl) ?_)
    | fail)))
  go_ret
  exact ⟨_, rfl, ⟨_, _, _, rfl⟩, (by repeat (first | with_reducible exact GP.out | with_reducible exact Grew.refl _ | refine Grew.alloc ?_ _ | refine Grew.set ?_ (by simp) _ | refine Grew.drewN ?_ _ | refine Grew.drew ?_))⟩
set_option maxRecDepth 100000 in
set_option maxHeartbeats 2000000 in
theorem so_64270 (w : World) : Calls Tryz.prog 16 #[.agg #[.slice none 0 0, .slice none 0 0, .slice none 0 0, .slice none 0 0, .slice none 0 0, .slice none 0 0, .slice none 0 0, .int .i64 0, .slice none 0 0], .agg #[.int .i64 64270, .int .u32 0, .int .u32 0, .int .u64 0, .int .u32 0, .int .u32 0, .int .u64 0, .int .i64 0, .int .i64 0, .bool false, .int .i64 0, .slice none 0 0, .slice none 0 0, .bool false, .slice none 0 0, .slice none 0 0, .slice none 0 0]] w fun en w' => ∃ v, en = .returned v ∧ isFn v ∧ Grew w w' := by
  have N1 : ((w.alloc (.cells #[.slice none 0 0, .slice none 0 0, .slice none 0 0, .slice none 0 0, .slice none 0 0, .slice none 0 0, .slice none 0 0, .int .i64 0, .slice none 0 0] 30)).alloc (.cells #[.int .i64 64270, .int .u32 0, .int .u32 0, .int .u64 0, .int .u32 0, .int .u32 0, .int .u64 0, .int .i64 0, .int .i64 0, .bool false, .int .i64 0, .slice none 0 0, .slice none 0 0, .bool false, .slice none 0 0, .slice none 0 0, .slice none 0 0] 52)).heap[w.heap.size + 1]? = some (.cells #[.int .i64 64270, .int .u32 0, .int .u32 0, .int .u64 0, .int .u32 0, .int .u32 0, .int .u64 0, .int .i64 0, .int .i64 0, .bool false, .int .i64 0, .slice none 0 0, .slice none 0 0, .bool false, .slice none 0 0, .slice none 0 0, .slice none 0 0] 52 (0, 0)) := by
    have := heap_alloc_last (w.alloc (.cells #[.slice none 0 0, .slice none 0 0, .slice none 0 0, .slice none 0 0, .slice none 0 0, .slice none 0 0, .slice none 0 0, .int .i64 0, .slice none 0 0] 30)) (.cells #[.int .i64 64270, .int .u32 0, .int .u32 0, .int .u64 0, .int .u32 0, .int .u32 0, .int .u64 0, .int .i64 0, .int .i64 0, .bool false, .int .i64 0, .slice none 0 0, .slice none 0 0, .bool false, .slice none 0 0, .slice none 0 0, .slice none 0 0] 52)
    rw [alloc_size] at this
    exact this
  have N0 : ((w.alloc (.cells #[.slice none 0 0, .slice none 0 0, .slice none 0 0, .slice none 0 0, .slice none 0 0, .slice none 0 0, .slice none 0 0, .int .i64 0, .slice none 0 0] 30)).alloc (.cells #[.int .i64 64270, .int .u32 0, .int .u32 0, .int .u64 0, .int .u32 0, .int .u32 0, .int .u64 0, .int .i64 0, .int .i64 0, .bool false, .int .i64 0, .slice none 0 0, .slice none 0 0, .bool false, .slice none 0 0, .slice none 0 0, .slice none 0 0] 52)).heap[w.heap.size]? = some (.cells #[.slice none 0 0, .slice none 0 0, .slice none 0 0, .slice none 0 0, .slice none 0 0, .slice none 0 0, .slice none 0 0, .int .i64 0, .slice none 0 0] 30 (0, 0)) := heap_alloc (heap_alloc_last _ _) _
  have HN := Hid.mk' N1
  have HM := Hid.mk' N0
  clear N1 N0
  have CQ : Hid (∀ X, Calls Tryz.prog 38 #[.agg #[.slice none 0 0, .slice none 0 0, .slice none 0 0, .slice none 0 0, .slice none 0 0, .slice none 0 0, .slice none 0 0, .int .i64 0, .slice none 0 0], .agg #[.int .i64 64270, .int .u32 0, .int .u32 0, .int .u64 0, .int .u32 0, .int .u32 0, .int .u64 0, .int .i64 0, .int .i64 0, .bool false, .int .i64 0, .slice none 0 0, .slice none 0 0, .bool false, .slice none 0 0, .slice none 0 0, .slice none 0 0]] X fun en w' => ∃ v, en = .returned v ∧ isFn v ∧ Grew X w') := at_64270
  have GP : Hid (Grew w w) := Grew.refl w
  go_enter Tryz.func16, Tryz.ntmps16
  go_wp2_with (first
    | (with_reducible refine stop_load 30 rfl ?_
       unfold Stop
       refine wpList_load_row rfl 30 _ rfl (w.heap.size) (by go_simp) 30 #[.slice none 0 0, .slice none 0 0, .slice none 0 0, .slice none 0 0, .slice none 0 0, .slice none 0 0, .slice none 0 0, .int .i64 0, .slice none 0 0] (0, 0) _ HM.out Tryz.underlying30 rfl (by kernel_rfl) ?_)
    | (with_reducible refine stop_load 52 rfl ?_
       unfold Stop
       refine wpList_load_row rfl 52 _ rfl (w.heap.size + 1) (by go_simp) 52 #[.int .i64 64270, .int .u32 0, .int .u32 0, .int .u64 0, .int .u32 0, .int .u32 0, .int .u64 0, .int .i64 0, .int .i64 0, .bool false, .int .i64 0, .slice none 0 0, .slice none 0 0, .bool false, .slice none 0 0, .slice none 0 0, .slice none 0 0] (0, 0) _ HN.out Tryz.underlying52 rfl (by kernel_rfl) ?_)
    | fail)
  repeat (first
    | (with_reducible refine (CQ.out _).mono ?_
       rintro en wn ⟨v, rfl, hv, gn⟩
       have gx : Grew w wn := Grew.trans (by repeat (first | with_reducible exact GP.out | with_reducible exact Grew.refl _ | refine Grew.alloc ?_ _ | refine Grew.set ?_ (by simp) _ | refine Grew.drewN ?_ _ | refine Grew.drew ?_)) gn
       clear GP
       have GP := Hid.mk' gx
       clear gn gx
       obtain ⟨fn, fA, fB, rfl⟩ := hv
       go_wp2_with (first
    | (with_reducible refine stop_load 30 rfl ?_
       unfold Stop
       refine wpList_load_row rfl 30 _ rfl (w.heap.size) (by go_simp) 30 #[.slice none 0 0, .slice none 0 0, .slice none 0 0, .slice none 0 0, .slice none 0 0, .slice none 0 0, .slice none 0 0, .int .i64 0, .slice none 0 0] (0, 0) _ HM.out Tryz.underlying30 rfl (by kernel_rfl) ?_)
    | (with_reducible refine stop_load 52 rfl ?_
       unfold Stop
       refine wpList_load_row rfl 52 _ rfl (w.heap.size + 1) (by go_simp) 52 #[.int .i64 64270, .int .u32 0, .int .u32 0, .int .u64 0, .int .u32 0, .int .u32 0, .int .u64 0, .int .i64 0, .int .i64 0, .bool false, .int .i64 0, .slice none 0 0, .slice none 0 0, .bool false, .slice none 0 0, .slice none 0 0, .slice none 0 0] (0, 0) _ HN.out Tryz.underlying52 rfl (by kernel_rfl) ?_)
    | fail)))
  go_ret
  exact ⟨_, rfl, ⟨_, _, _, rfl⟩, (by repeat (first | with_reducible exact GP.out | with_reducible exact Grew.refl _ | refine Grew.alloc ?_ _ | refine Grew.set ?_ (by simp) _ | refine Grew.drewN ?_ _ | refine Grew.drew ?_))⟩
set_option maxRecDepth 100000 in
set_option maxHeartbeats 2000000 in
theorem so_64271 (w : World) : Calls Tryz.prog 16 #[.agg #[.slice none 0 0, .slice none 0 0, .slice none 0 0, .slice none 0 0, .slice none 0 0, .slice none 0 0, .slice none 0 0, .int .i64 0, .slice none 0 0], .agg #[.int .i64 64271, .int .u32 0, .int .u32 0, .int .u64 0, .int .u32 0, .int .u32 0, .int .u64 0, .int .i64 0, .int .i64 0, .bool false, .int .i64 0, .slice none 0 0, .slice none 0 0, .bool false, .slice none 0 0, .slice none 0 0, .slice none 0 0]] w fun en w' => ∃ v, en = .returned v ∧ isFn v ∧ Grew w w' := by
  have N1 : ((w.alloc (.cells #[.slice none 0 0, .slice none 0 0, .slice none 0 0, .slice none 0 0, .slice none 0 0, .slice none 0 0, .slice none 0 0, .int .i64 0, .slice none 0 0] 30)).alloc (.cells #[.int .i64 64271, .int .u32 0, .int .u32 0, .int .u64 0, .int .u32 0, .int .u32 0, .int .u64 0, .int .i64 0, .int .i64 0, .bool false, .int .i64 0, .slice none 0 0, .slice none 0 0, .bool false, .slice none 0 0, .slice none 0 0, .slice none 0 0] 52)).heap[w.heap.size + 1]? = some (.cells #[.int .i64 64271, .int .u32 0, .int .u32 0, .int .u64 0, .int .u32 0, .int .u32 0, .int .u64 0, .int .i64 0, .int .i64 0, .bool false, .int .i64 0, .slice none 0 0, .slice none 0 0, .bool false, .slice none 0 0, .slice none 0 0, .slice none 0 0] 52 (0, 0)) := by
    have := heap_alloc_last (w.alloc (.cells #[.slice none 0 0, .slice none 0 0, .slice none 0 0, .slice none 0 0, .slice none 0 0, .slice none 0 0, .slice none 0 0, .int .i64 0, .slice none 0 0] 30)) (.cells #[.int .i64 64271, .int .u32 0, .int .u32 0, .int .u64 0, .int .u32 0, .int .u32 0, .int .u64 0, .int .i64 0, .int .i64 0, .bool false, .int .i64 0, .slice none 0 0, .slice none 0 0, .bool false, .slice none 0 0, .slice none 0 0, .slice none 0 0] 52)
    rw [alloc_size] at this
    exact this
  have N0 : ((w.alloc (.cells #[.slice none 0 0, .slice none 0 0, .slice none 0 0, .slice none 0 0, .slice none 0 0, .slice none 0 0, .slice none 0 0, .int .i64 0, .slice none 0 0] 30)).alloc (.cells #[.int .i64 64271, .int .u32 0, .int .u32 0, .int .u64 0, .int .u32 0, .int .u32 0, .int .u64 0, .int .i64 0, .int .i64 0, .bool false, .int .i64 0, .slice none 0 0, .slice none 0 0, .bool false, .slice none 0 0, .slice none 0 0, .slice none 0 0] 52)).heap[w.heap.size]? = some (.cells #[.slice none 0 0, .slice none 0 0, .slice none 0 0, .slice none 0 0, .slice none 0 0, .slice none 0 0, .slice none 0 0, .int .i64 0, .slice none 0 0] 30 (0, 0)) := heap_alloc (heap_alloc_last _ _) _
  have HN := Hid.mk' N1
  have HM := Hid.mk' N0
  clear N1 N0
  have CA : Hid (∀ b h X, Calls Tryz.prog 33 #[.bool b, .int .i64 h] X fun en w' => en = .returned (.agg #[.int .i64 5, .bool b, .int .i64 h]) ∧ Grew X w') := abs_any
  have CL : Hid (∀ v X, Calls Tryz.prog 32 #[v] X fun en w' => en = .returned v ∧ Grew X w') := ql_any
  have C3 : Hid (∀ X, Calls Tryz.prog 34 #[] X fun en w' => en = .returned (.agg #[.int .i64 1, .bool false, .int .i64 0]) ∧ Grew X w') := q32_any
  have CS : Hid (∀ a1 a2 l1 l2 c1 c2 X, Calls Tryz.prog 31 #[.slice a1 l1 c1, .slice a2 l2 c2] X fun en w' => ∃ v, en = .returned v ∧ isFn v ∧ Grew X w') := swaps_fn
  have GP : Hid (Grew w w) := Grew.refl w
  go_enter Tryz.func16, Tryz.ntmps16
  go_wp2_with (first
    | (with_reducible refine stop_load 30 rfl ?_
       unfold Stop
       refine wpList_load_row rfl 30 _ rfl (w.heap.size) (by go_simp) 30 #[.slice none 0 0, .slice none 0 0, .slice none 0 0, .slice none 0 0, .slice none 0 0, .slice none 0 0, .slice none 0 0, .int .i64 0, .slice none 0 0] (0, 0) _ HM.out Tryz.underlying30 rfl (by kernel_rfl) ?_)
    | (with_reducible refine stop_load 52 rfl ?_
       unfold Stop
       refine wpList_load_row rfl 52 _ rfl (w.heap.size + 1) (by go_simp) 52 #[.int .i64 64271, .int .u32 0, .int .u32 0, .int .u64 0, .int .u32 0, .int .u32 0, .int .u64 0, .int .i64 0, .int .i64 0, .bool false, .int .i64 0, .slice none 0 0, .slice none 0 0, .bool false, .slice none 0 0, .slice none 0 0, .slice none 0 0] (0, 0) _ HN.out Tryz.underlying52 rfl (by kernel_rfl) ?_)
    | fail)
  repeat (first
    | (with_reducible refine (CA.out _ _ _).mono ?_
       rintro en wn ⟨rfl, gn⟩
       have gx : Grew w wn := Grew.trans (by repeat (first | with_reducible exact GP.out | with_reducible exact Grew.refl _ | refine Grew.alloc ?_ _ | refine Grew.set ?_ (by simp) _ | refine Grew.drewN ?_ _ | refine Grew.drew ?_)) gn
       clear GP
       have GP := Hid.mk' gx
       clear gn gx
       go_wp2_with (first
    | (with_reducible refine stop_load 30 rfl ?_
       unfold Stop
       refine wpList_load_row rfl 30 _ rfl (w.heap.size) (by go_simp) 30 #[.slice none 0 0, .slice none 0 0, .slice none 0 0, .slice none 0 0, .slice none 0 0, .slice none 0 0, .slice none 0 0, .int .i64 0, .slice none 0 0] (0, 0) _ HM.out Tryz.underlying30 rfl (by kernel_rfl) ?_)
    | (with_reducible refine stop_load 52 rfl ?_
       unfold Stop
       refine wpList_load_row rfl 52 _ rfl (w.heap.size + 1) (by go_simp) 52 #[.int .i64 64271, .int .u32 0, .int .u32 0, .int .u64 0, .int .u32 0, .int .u32 0, .int .u64 0, .int .i64 0, .int .i64 0, .bool false, .int .i64 0, .slice none 0 0, .slice none 0 0, .bool false, .slice none 0 0, .slice none 0 0, .slice none 0 0] (0, 0) _ HN.out Tryz.underlying52 rfl (by kernel_rfl) ?_)
    | fail))
    | (with_reducible refine (CL.out _ _).mono ?_
       rintro en wn ⟨rfl, gn⟩
       have gx : Grew w wn := Grew.trans (by repeat (first | with_reducible exact GP.out | with_reducible exact Grew.refl _ | refine Grew.alloc ?_ _ | refine Grew.set ?_ (by simp) _ | refine Grew.drewN ?_ _ | refine Grew.drew ?_)) gn
       clear GP
       have GP := Hid.mk' gx
       clear gn gx
       go_wp2_with (first
    | (with_reducible refine stop_load 30 rfl ?_
       unfold Stop
       refine wpList_load_row rfl 30 _ rfl (w.heap.size) (by go_simp) 30 #[.slice none 0 0, .slice none 0 0, .slice none 0 0, .slice none 0 0, .slice none 0 0, .slice none 0 0, .slice none 0 0, .int .i64 0, .slice none 0 0] (0, 0) _ HM.out Tryz.underlying30 rfl (by kernel_rfl) ?_)
    | (with_reducible refine stop_load 52 rfl ?_
       unfold Stop
       refine wpList_load_row rfl 52 _ rfl (w.heap.size + 1) (by go_simp) 52 #[.int .i64 64271, .int .u32 0, .int .u32 0, .int .u64 0, .int .u32 0, .int .u32 0, .int .u64 0, .int .i64 0, .int .i64 0, .bool false, .int .i64 0, .slice none 0 0, .slice none 0 0, .bool false, .slice none 0 0, .slice none 0 0, .slice none 0 0] (0, 0) _ HN.out Tryz.underlying52 rfl (by kernel_rfl) ?_)
    | fail))
    | (with_reducible refine (C3.out _).mono ?_
       rintro en wn ⟨rfl, gn⟩
       have gx : Grew w wn := Grew.trans (by repeat (first | with_reducible exact GP.out | with_reducible exact Grew.refl _ | refine Grew.alloc ?_ _ | refine Grew.set ?_ (by simp) _ | refine Grew.drewN ?_ _ | refine Grew.drew ?_)) gn
       clear GP
       have GP := Hid.mk' gx
       clear gn gx
       go_wp2_with (first
    | (with_reducible refine stop_load 30 rfl ?_
       unfold Stop
       refine wpList_load_row rfl 30 _ rfl (w.heap.size) (by go_simp) 30 #[.slice none 0 0, .slice none 0 0, .slice none 0 0, .slice none 0 0, .slice none 0 0, .slice none 0 0, .slice none 0 0, .int .i64 0, .slice none 0 0] (0, 0) _ HM.out Tryz.underlying30 rfl (by kernel_rfl) ?_)
    | (with_reducible refine stop_load 52 rfl ?_
       unfold Stop
       refine wpList_load_row rfl 52 _ rfl (w.heap.size + 1) (by go_simp) 52 #[.int .i64 64271, .int .u32 0, .int .u32 0, .int .u64 0, .int .u32 0, .int .u32 0, .int .u64 0, .int .i64 0, .int .i64 0, .bool false, .int .i64 0, .slice none 0 0, .slice none 0 0, .bool false, .slice none 0 0, .slice none 0 0, .slice none 0 0] (0, 0) _ HN.out Tryz.underlying52 rfl (by kernel_rfl) ?_)
    | fail))
    | (with_reducible refine (CS.out _ _ _ _ _ _ _).mono ?_
       rintro en wn ⟨v, rfl, hv, gn⟩
       have gx : Grew w wn := Grew.trans (by repeat (first | with_reducible exact GP.out | with_reducible exact Grew.refl _ | refine Grew.alloc ?_ _ | refine Grew.set ?_ (by simp) _ | refine Grew.drewN ?_ _ | refine Grew.drew ?_)) gn
       clear GP
       have GP := Hid.mk' gx
       clear gn gx
       obtain ⟨fn, fA, fB, rfl⟩ := hv
       go_wp2_with (first
    | (with_reducible refine stop_load 30 rfl ?_
       unfold Stop
       refine wpList_load_row rfl 30 _ rfl (w.heap.size) (by go_simp) 30 #[.slice none 0 0, .slice none 0 0, .slice none 0 0, .slice none 0 0, .slice none 0 0, .slice none 0 0, .slice none 0 0, .int .i64 0, .slice none 0 0] (0, 0) _ HM.out Tryz.underlying30 rfl (by kernel_rfl) ?_)
    | (with_reducible refine stop_load 52 rfl ?_
       unfold Stop
       refine wpList_load_row rfl 52 _ rfl (w.heap.size + 1) (by go_simp) 52 #[.int .i64 64271, .int .u32 0, .int .u32 0, .int .u64 0, .int .u32 0, .int .u32 0, .int .u64 0, .int .i64 0, .int .i64 0, .bool false, .int .i64 0, .slice none 0 0, .slice none 0 0, .bool false, .slice none 0 0, .slice none 0 0, .slice none 0 0] (0, 0) _ HN.out Tryz.underlying52 rfl (by kernel_rfl) ?_)
    | fail)))
  go_ret
  exact ⟨_, rfl, ⟨_, _, _, rfl⟩, (by repeat (first | with_reducible exact GP.out | with_reducible exact Grew.refl _ | refine Grew.alloc ?_ _ | refine Grew.set ?_ (by simp) _ | refine Grew.drewN ?_ _ | refine Grew.drew ?_))⟩
set_option maxRecDepth 100000 in
set_option maxHeartbeats 2000000 in
theorem so_64272 (w : World) : Calls Tryz.prog 16 #[.agg #[.slice none 0 0, .slice none 0 0, .slice none 0 0, .slice none 0 0, .slice none 0 0, .slice none 0 0, .slice none 0 0, .int .i64 0, .slice none 0 0], .agg #[.int .i64 64272, .int .u32 0, .int .u32 0, .int .u64 0, .int .u32 0, .int .u32 0, .int .u64 0, .int .i64 0, .int .i64 0, .bool false, .int .i64 0, .slice none 0 0, .slice none 0 0, .bool false, .slice none 0 0, .slice none 0 0, .slice none 0 0]] w fun en w' => ∃ v, en = .returned v ∧ isFn v ∧ Grew w w' := by
  have N1 : ((w.alloc (.cells #[.slice none 0 0, .slice none 0 0, .slice none 0 0, .slice none 0 0, .slice none 0 0, .slice none 0 0, .slice none 0 0, .int .i64 0, .slice none 0 0] 30)).alloc (.cells #[.int .i64 64272, .int .u32 0, .int .u32 0, .int .u64 0, .int .u32 0, .int .u32 0, .int .u64 0, .int .i64 0, .int .i64 0, .bool false, .int .i64 0, .slice none 0 0, .slice none 0 0, .bool false, .slice none 0 0, .slice none 0 0, .slice none 0 0] 52)).heap[w.heap.size + 1]? = some (.cells #[.int .i64 64272, .int .u32 0, .int .u32 0, .int .u64 0, .int .u32 0, .int .u32 0, .int .u64 0, .int .i64 0, .int .i64 0, .bool false, .int .i64 0, .slice none 0 0, .slice none 0 0, .bool false, .slice none 0 0, .slice none 0 0, .slice none 0 0] 52 (0, 0)) := by
    have := heap_alloc_last (w.alloc (.cells #[.slice none 0 0, .slice none 0 0, .slice none 0 0, .slice none 0 0, .slice none 0 0, .slice none 0 0, .slice none 0 0, .int .i64 0, .slice none 0 0] 30)) (.cells #[.int .i64 64272, .int .u32 0, .int .u32 0, .int .u64 0, .int .u32 0, .int .u32 0, .int .u64 0, .int .i64 0, .int .i64 0, .bool false, .int .i64 0, .slice none 0 0, .slice none 0 0, .bool false, .slice none 0 0, .slice none 0 0, .slice none 0 0] 52)
    rw [alloc_size] at this
    exact this
  have N0 : ((w.alloc (.cells #[.slice none 0 0, .slice none 0 0, .slice none 0 0, .slice none 0 0, .slice none 0 0, .slice none 0 0, .slice none 0 0, .int .i64 0, .slice none 0 0] 30)).alloc (.cells #[.int .i64 64272, .int .u32 0, .int .u32 0, .int .u64 0, .int .u32 0, .int .u32 0, .int .u64 0, .int .i64 0, .int .i64 0, .bool false, .int .i64 0, .slice none 0 0, .slice none 0 0, .bool false, .slice none 0 0, .slice none 0 0, .slice none 0 0] 52)).heap[w.heap.size]? = some (.cells #[.slice none 0 0, .slice none 0 0, .slice none 0 0, .slice none 0 0, .slice none 0 0, .slice none 0 0, .slice none 0 0, .int .i64 0, .slice none 0 0] 30 (0, 0)) := heap_alloc (heap_alloc_last _ _) _
  have HN := Hid.mk' N1
  have HM := Hid.mk' N0
  clear N1 N0
  have CQ : Hid (∀ X, Calls Tryz.prog 45 #[.agg #[.slice none 0 0, .slice none 0 0, .slice none 0 0, .slice none 0 0, .slice none 0 0, .slice none 0 0, .slice none 0 0, .int .i64 0, .slice none 0 0], .agg #[.int .i64 64272, .int .u32 0, .int .u32 0, .int .u64 0, .int .u32 0, .int .u32 0, .int .u64 0, .int .i64 0, .int .i64 0, .bool false, .int .i64 0, .slice none 0 0, .slice none 0 0, .bool false, .slice none 0 0, .slice none 0 0, .slice none 0 0]] X fun en w' => ∃ v, en = .returned v ∧ isFn v ∧ Grew X w') := fun X => qarrayFill_fn none none none none none none none none 0 0 0 0 0 0 0 0 0 0 0 0 0 0 0 0 0 (64272) 0 0 0 0 0 0 0 0 0 false false none none none none none 0 0 0 0 0 0 0 0 0 0 X
  have GP : Hid (Grew w w) := Grew.refl w
  go_enter Tryz.func16, Tryz.ntmps16
  go_wp2_with (first
    | (with_reducible refine stop_load 30 rfl ?_
       unfold Stop
       refine wpList_load_row rfl 30 _ rfl (w.heap.size) (by go_simp) 30 #[.slice none 0 0, .slice none 0 0, .slice none 0 0, .slice none 0 0, .slice none 0 0, .slice none 0 0, .slice none 0 0, .int .i64 0, .slice none 0 0] (0, 0) _ HM.out Tryz.underlying30 rfl (by kernel_rfl) ?_)
    | (with_reducible refine stop_load 52 rfl ?_
       unfold Stop
       refine wpList_load_row rfl 52 _ rfl (w.heap.size + 1) (by go_simp) 52 #[.int .i64 64272, .int .u32 0, .int .u32 0, .int .u64 0, .int .u32 0, .int .u32 0, .int .u64 0, .int .i64 0, .int .i64 0, .bool false, .int .i64 0, .slice none 0 0, .slice none 0 0, .bool false, .slice none 0 0, .slice none 0 0, .slice none 0 0] (0, 0) _ HN.out Tryz.underlying52 rfl (by kernel_rfl) ?_)
    | fail)
  repeat (first
    | (with_reducible refine (CQ.out _).mono ?_
       rintro en wn ⟨v, rfl, hv, gn⟩
       have gx : Grew w wn := Grew.trans (by repeat (first | with_reducible exact GP.out | with_reducible exact Grew.refl _ | refine Grew.alloc ?_ _ | refine Grew.set ?_ (by simp) _ | refine Grew.drewN ?_ _ | refine Grew.drew ?_)) gn
       clear GP
       have GP := Hid.mk' gx
       clear gn gx
       obtain ⟨fn, fA, fB, rfl⟩ := hv
       go_wp2_with (first
    | (with_reducible refine stop_load 30 rfl ?_
       unfold Stop
       refine wpList_load_row rfl 30 _ rfl (w.heap.size) (by go_simp) 30 #[.slice none 0 0, .slice none 0 0, .slice none 0 0, .slice none 0 0, .slice none 0 0, .slice none 0 0, .slice none 0 0, .int .i64 0, .slice none 0 0] (0, 0) _ HM.out Tryz.underlying30 rfl (by kernel_rfl) ?_)
    | (with_reducible refine stop_load 52 rfl ?_
       unfold Stop
       refine wpList_load_row rfl 52 _ rfl (w.heap.size + 1) (by go_simp) 52 #[.int .i64 64272, .int .u32 0, .int .u32 0, .int .u64 0, .int .u32 0, .int .u32 0, .int .u64 0, .int .i64 0, .int .i64 0, .bool false, .int .i64 0, .slice none 0 0, .slice none 0 0, .bool false, .slice none 0 0, .slice none 0 0, .slice none 0 0] (0, 0) _ HN.out Tryz.underlying52 rfl (by kernel_rfl) ?_)
    | fail)))
  go_ret
  exact ⟨_, rfl, ⟨_, _, _, rfl⟩, (by repeat (first | with_reducible exact GP.out | with_reducible exact Grew.refl _ | refine Grew.alloc ?_ _ | refine Grew.set ?_ (by simp) _ | refine Grew.drewN ?_ _ | refine Grew.drew ?_))⟩
set_option maxRecDepth 100000 in
set_option maxHeartbeats 2000000 in
theorem so_64273 (w : World) : Calls Tryz.prog 16 #[.agg #[.slice none 0 0, .slice none 0 0, .slice none 0 0, .slice none 0 0, .slice none 0 0, .slice none 0 0, .slice none 0 0, .int .i64 0, .slice none 0 0], .agg #[.int .i64 64273, .int .u32 0, .int .u32 0, .int .u64 0, .int .u32 0, .int .u32 0, .int .u64 0, .int .i64 0, .int .i64 0, .bool false, .int .i64 0, .slice none 0 0, .slice none 0 0, .bool false, .slice none 0 0, .slice none 0 0, .slice none 0 0]] w fun en w' => ∃ v, en = .returned v ∧ isFn v ∧ Grew w w' := by
  have N1 : ((w.alloc (.cells #[.slice none 0 0, .slice none 0 0, .slice none 0 0, .slice none 0 0, .slice none 0 0, .slice none 0 0, .slice none 0 0, .int .i64 0, .slice none 0 0] 30)).alloc (.cells #[.int .i64 64273, .int .u32 0, .int .u32 0, .int .u64 0, .int .u32 0, .int .u32 0, .int .u64 0, .int .i64 0, .int .i64 0, .bool false, .int .i64 0, .slice none 0 0, .slice none 0 0, .bool false, .slice none 0 0, .slice none 0 0, .slice none 0 0] 52)).heap[w.heap.size + 1]? = some (.cells #[.int .i64 64273, .int .u32 0, .int .u32 0, .int .u64 0, .int .u32 0, .int .u32 0, .int .u64 0, .int .i64 0, .int .i64 0, .bool false, .int .i64 0, .slice none 0 0, .slice none 0 0, .bool false, .slice none 0 0, .slice none 0 0, .slice none 0 0] 52 (0, 0)) := by
    have := heap_alloc_last (w.alloc (.cells #[.slice none 0 0, .slice none 0 0, .slice none 0 0, .slice none 0 0, .slice none 0 0, .slice none 0 0, .slice none 0 0, .int .i64 0, .slice none 0 0] 30)) (.cells #[.int .i64 64273, .int .u32 0, .int .u32 0, .int .u64 0, .int .u32 0, .int .u32 0, .int .u64 0, .int .i64 0, .int .i64 0, .bool false, .int .i64 0, .slice none 0 0, .slice none 0 0, .bool false, .slice none 0 0, .slice none 0 0, .slice none 0 0] 52)
    rw [alloc_size] at this
    exact this
  have N0 : ((w.alloc (.cells #[.slice none 0 0, .slice none 0 0, .slice none 0 0, .slice none 0 0, .slice none 0 0, .slice none 0 0, .slice none 0 0, .int .i64 0, .slice none 0 0] 30)).alloc (.cells #[.int .i64 64273, .int .u32 0, .int .u32 0, .int .u64 0, .int .u32 0, .int .u32 0, .int .u64 0, .int .i64 0, .int .i64 0, .bool false, .int .i64 0, .slice none 0 0, .slice none 0 0, .bool false, .slice none 0 0, .slice none 0 0, .slice none 0 0] 52)).heap[w.heap.size]? = some (.cells #[.slice none 0 0, .slice none 0 0, .slice none 0 0, .slice none 0 0, .slice none 0 0, .slice none 0 0, .slice none 0 0, .int .i64 0, .slice none 0 0] 30 (0, 0)) := heap_alloc (heap_alloc_last _ _) _
  have HN := Hid.mk' N1
  have HM := Hid.mk' N0
  clear N1 N0
  have CQ : Hid (∀ X, Calls Tryz.prog 46 #[.agg #[.slice none 0 0, .slice none 0 0, .slice none 0 0, .slice none 0 0, .slice none 0 0, .slice none 0 0, .slice none 0 0, .int .i64 0, .slice none 0 0], .agg #[.int .i64 64273, .int .u32 0, .int .u32 0, .int .u64 0, .int .u32 0, .int .u32 0, .int .u64 0, .int .i64 0, .int .i64 0, .bool false, .int .i64 0, .slice none 0 0, .slice none 0 0, .bool false, .slice none 0 0, .slice none 0 0, .slice none 0 0]] X fun en w' => ∃ v, en = .returned v ∧ isFn v ∧ Grew X w') := fun X => qarrayCopy_fn none none none none none none none none 0 0 0 0 0 0 0 0 0 0 0 0 0 0 0 0 0 (64273) 0 0 0 0 0 0 0 0 0 false false none none none none none 0 0 0 0 0 0 0 0 0 0 X
  have GP : Hid (Grew w w) := Grew.refl w
  go_enter Tryz.func16, Tryz.ntmps16
  go_wp2_with (first
    | (with_reducible refine stop_load 30 rfl ?_
       unfold Stop
       refine wpList_load_row rfl 30 _ rfl (w.heap.size) (by go_simp) 30 #[.slice none 0 0, .slice none 0 0, .slice none 0 0, .slice none 0 0, .slice none 0 0, .slice none 0 0, .slice none 0 0, .int .i64 0, .slice none 0 0] (0, 0) _ HM.out Tryz.underlying30 rfl (by kernel_rfl) ?_)
    | (with_reducible refine stop_load 52 rfl ?_
       unfold Stop
       refine wpList_load_row rfl 52 _ rfl (w.heap.size + 1) (by go_simp) 52 #[.int .i64 64273, .int .u32 0, .int .u32 0, .int .u64 0, .int .u32 0, .int .u32 0, .int .u64 0, .int .i64 0, .int .i64 0, .bool false, .int .i64 0, .slice none 0 0, .slice none 0 0, .bool false, .slice none 0 0, .slice none 0 0, .slice none 0 0] (0, 0) _ HN.out Tryz.underlying52 rfl (by kernel_rfl) ?_)
    | fail)
  repeat (first
    | (with_reducible refine (CQ.out _).mono ?_
       rintro en wn ⟨v, rfl, hv, gn⟩
       have gx : Grew w wn := Grew.trans (by repeat (first | with_reducible exact GP.out | with_reducible exact Grew.refl _ | refine Grew.alloc ?_ _ | refine Grew.set ?_ (by simp) _ | refine Grew.drewN ?_ _ | refine Grew.drew ?_)) gn
       clear GP
       have GP := Hid.mk' gx
       clear gn gx
       obtain ⟨fn, fA, fB, rfl⟩ := hv
       go_wp2_with (first
    | (with_reducible refine stop_load 30 rfl ?_
       unfold Stop
       refine wpList_load_row rfl 30 _ rfl (w.heap.size) (by go_simp) 30 #[.slice none 0 0, .slice none 0 0, .slice none 0 0, .slice none 0 0, .slice none 0 0, .slice none 0 0, .slice none 0 0, .int .i64 0, .slice none 0 0] (0, 0) _ HM.out Tryz.underlying30 rfl (by kernel_rfl) ?_)
    | (with_reducible refine stop_load 52 rfl ?_
       unfold Stop
       refine wpList_load_row rfl 52 _ rfl (w.heap.size + 1) (by go_simp) 52 #[.int .i64 64273, .int .u32 0, .int .u32 0, .int .u64 0, .int .u32 0, .int .u32 0, .int .u64 0, .int .i64 0, .int .i64 0, .bool false, .int .i64 0, .slice none 0 0, .slice none 0 0, .bool false, .slice none 0 0, .slice none 0 0, .slice none 0 0] (0, 0) _ HN.out Tryz.underlying52 rfl (by kernel_rfl) ?_)
    | fail)))
  go_ret
  exact ⟨_, rfl, ⟨_, _, _, rfl⟩, (by repeat (first | with_reducible exact GP.out | with_reducible exact Grew.refl _ | refine Grew.alloc ?_ _ | refine Grew.set ?_ (by simp) _ | refine Grew.drewN ?_ _ | refine Grew.drew ?_))⟩
set_option maxRecDepth 100000 in
set_option maxHeartbeats 2000000 in
theorem so_64274 (w : World) : Calls Tryz.prog 16 #[.agg #[.slice none 0 0, .slice none 0 0, .slice none 0 0, .slice none 0 0, .slice none 0 0, .slice none 0 0, .slice none 0 0, .int .i64 0, .slice none 0 0], .agg #[.int .i64 64274, .int .u32 0, .int .u32 0, .int .u64 0, .int .u32 0, .int .u32 0, .int .u64 0, .int .i64 0, .int .i64 0, .bool false, .int .i64 0, .slice none 0 0, .slice none 0 0, .bool false, .slice none 0 0, .slice none 0 0, .slice none 0 0]] w fun en w' => ∃ v, en = .returned v ∧ isFn v ∧ Grew w w' := by
  have N1 : ((w.alloc (.cells #[.slice none 0 0, .slice none 0 0, .slice none 0 0, .slice none 0 0, .slice none 0 0, .slice none 0 0, .slice none 0 0, .int .i64 0, .slice none 0 0] 30)).alloc (.cells #[.int .i64 64274, .int .u32 0, .int .u32 0, .int .u64 0, .int .u32 0, .int .u32 0, .int .u64 0, .int .i64 0, .int .i64 0, .bool false, .int .i64 0, .slice none 0 0, .slice none 0 0, .bool false, .slice none 0 0, .slice none 0 0, .slice none 0 0] 52)).heap[w.heap.size + 1]? = some (.cells #[.int .i64 64274, .int .u32 0, .int .u32 0, .int .u64 0, .int .u32 0, .int .u32 0, .int .u64 0, .int .i64 0, .int .i64 0, .bool false, .int .i64 0, .slice none 0 0, .slice none 0 0, .bool false, .slice none 0 0, .slice none 0 0, .slice none 0 0] 52 (0, 0)) := by
    have := heap_alloc_last (w.alloc (.cells #[.slice none 0 0, .slice none 0 0, .slice none 0 0, .slice none 0 0, .slice none 0 0, .slice none 0 0, .slice none 0 0, .int .i64 0, .slice none 0 0] 30)) (.cells #[.int .i64 64274, .int .u32 0, .int .u32 0, .int .u64 0, .int .u32 0, .int .u32 0, .int .u64 0, .int .i64 0, .int .i64 0, .bool false, .int .i64 0, .slice none 0 0, .slice none 0 0, .bool false, .slice none 0 0, .slice none 0 0, .slice none 0 0] 52)
    rw [alloc_size] at this
    exact this
  have N0 : ((w.alloc (.cells #[.slice none 0 0, .slice none 0 0, .slice none 0 0, .slice none 0 0, .slice none 0 0, .slice none 0 0, .slice none 0 0, .int .i64 0, .slice none 0 0] 30)).alloc (.cells #[.int .i64 64274, .int .u32 0, .int .u32 0, .int .u64 0, .int .u32 0, .int .u32 0, .int .u64 0, .int .i64 0, .int .i64 0, .bool false, .int .i64 0, .slice none 0 0, .slice none 0 0, .bool false, .slice none 0 0, .slice none 0 0, .slice none 0 0] 52)).heap[w.heap.size]? = some (.cells #[.slice none 0 0, .slice none 0 0, .slice none 0 0, .slice none 0 0, .slice none 0 0, .slice none 0 0, .slice none 0 0, .int .i64 0, .slice none 0 0] 30 (0, 0)) := heap_alloc (heap_alloc_last _ _) _
  have HN := Hid.mk' N1
  have HM := Hid.mk' N0
  clear N1 N0
  have CQ : Hid (∀ f A B X, Calls Tryz.prog 47 #[.agg #[.slice none 0 0, .slice none 0 0, .slice none 0 0, .slice none 0 0, .slice none 0 0, .slice none 0 0, .slice none 0 0, .int .i64 0, .slice none 0 0], .agg #[.int .i64 64274, .int .u32 0, .int .u32 0, .int .u64 0, .int .u32 0, .int .u32 0, .int .u64 0, .int .i64 0, .int .i64 0, .bool false, .int .i64 0, .slice none 0 0, .slice none 0 0, .bool false, .slice none 0 0, .slice none 0 0, .slice none 0 0], .func (.func f) A B] X fun en w' => ∃ v, en = .returned v ∧ isFn v ∧ Grew X w') := fun f A B X => qarrayInitFrom_fn none none none none none none none none 0 0 0 0 0 0 0 0 0 0 0 0 0 0 0 0 0 (64274) 0 0 0 0 0 0 0 0 0 false false none none none none none 0 0 0 0 0 0 0 0 0 0 f A B X
  have GP : Hid (Grew w w) := Grew.refl w
  go_enter Tryz.func16, Tryz.ntmps16
  go_wp2_with (first
    | (with_reducible refine stop_load 30 rfl ?_
       unfold Stop
       refine wpList_load_row rfl 30 _ rfl (w.heap.size) (by go_simp) 30 #[.slice none 0 0, .slice none 0 0, .slice none 0 0, .slice none 0 0, .slice none 0 0, .slice none 0 0, .slice none 0 0, .int .i64 0, .slice none 0 0] (0, 0) _ HM.out Tryz.underlying30 rfl (by kernel_rfl) ?_)
    | (with_reducible refine stop_load 52 rfl ?_
       unfold Stop
       refine wpList_load_row rfl 52 _ rfl (w.heap.size + 1) (by go_simp) 52 #[.int .i64 64274, .int .u32 0, .int .u32 0, .int .u64 0, .int .u32 0, .int .u32 0, .int .u64 0, .int .i64 0, .int .i64 0, .bool false, .int .i64 0, .slice none 0 0, .slice none 0 0, .bool false, .slice none 0 0, .slice none 0 0, .slice none 0 0] (0, 0) _ HN.out Tryz.underlying52 rfl (by kernel_rfl) ?_)
    | fail)
  repeat (first
    | (with_reducible refine (CQ.out _ _ _ _).mono ?_
       rintro en wn ⟨v, rfl, hv, gn⟩
       have gx : Grew w wn := Grew.trans (by repeat (first | with_reducible exact GP.out | with_reducible exact Grew.refl _ | refine Grew.alloc ?_ _ | refine Grew.set ?_ (by simp) _ | refine Grew.drewN ?_ _ | refine Grew.drew ?_)) gn
       clear GP
       have GP := Hid.mk' gx
       clear gn gx
       obtain ⟨fn, fA, fB, rfl⟩ := hv
       go_wp2_with (first
    | (with_reducible refine stop_load 30 rfl ?_
       unfold Stop
       refine wpList_load_row rfl 30 _ rfl (w.heap.size) (by go_simp) 30 #[.slice none 0 0, .slice none 0 0, .slice none 0 0, .slice none 0 0, .slice none 0 0, .slice none 0 0, .slice none 0 0, .int .i64 0, .slice none 0 0] (0, 0) _ HM.out Tryz.underlying30 rfl (by kernel_rfl) ?_)
    | (with_reducible refine stop_load 52 rfl ?_
       unfold Stop
       refine wpList_load_row rfl 52 _ rfl (w.heap.size + 1) (by go_simp) 52 #[.int .i64 64274, .int .u32 0, .int .u32 0, .int .u64 0, .int .u32 0, .int .u32 0, .int .u64 0, .int .i64 0, .int .i64 0, .bool false, .int .i64 0, .slice none 0 0, .slice none 0 0, .bool false, .slice none 0 0, .slice none 0 0, .slice none 0 0] (0, 0) _ HN.out Tryz.underlying52 rfl (by kernel_rfl) ?_)
    | fail)))
  go_ret
  exact ⟨_, rfl, ⟨_, _, _, rfl⟩, (by repeat (first | with_reducible exact GP.out | with_reducible exact Grew.refl _ | refine Grew.alloc ?_ _ | refine Grew.set ?_ (by simp) _ | refine Grew.drewN ?_ _ | refine Grew.drew ?_))⟩
set_option maxRecDepth 100000 in
set_option maxHeartbeats 2000000 in
theorem so_64275 (w : World) : Calls Tryz.prog 16 #[.agg #[.slice none 0 0, .slice none 0 0, .slice none 0 0, .slice none 0 0, .slice none 0 0, .slice none 0 0, .slice none 0 0, .int .i64 0, .slice none 0 0], .agg #[.int .i64 64275, .int .u32 0, .int .u32 0, .int .u64 0, .int .u32 0, .int .u32 0, .int .u64 0, .int .i64 0, .int .i64 0, .bool false, .int .i64 0, .slice none 0 0, .slice none 0 0, .bool false, .slice none 0 0, .slice none 0 0, .slice none 0 0]] w fun en w' => ∃ v, en = .returned v ∧ isFn v ∧ Grew w w' := by
  have N1 : ((w.alloc (.cells #[.slice none 0 0, .slice none 0 0, .slice none 0 0, .slice none 0 0, .slice none 0 0, .slice none 0 0, .slice none 0 0, .int .i64 0, .slice none 0 0] 30)).alloc (.cells #[.int .i64 64275, .int .u32 0, .int .u32 0, .int .u64 0, .int .u32 0, .int .u32 0, .int .u64 0, .int .i64 0, .int .i64 0, .bool false, .int .i64 0, .slice none 0 0, .slice none 0 0, .bool false, .slice none 0 0, .slice none 0 0, .slice none 0 0] 52)).heap[w.heap.size + 1]? = some (.cells #[.int .i64 64275, .int .u32 0, .int .u32 0, .int .u64 0, .int .u32 0, .int .u32 0, .int .u64 0, .int .i64 0, .int .i64 0, .bool false, .int .i64 0, .slice none 0 0, .slice none 0 0, .bool false, .slice none 0 0, .slice none 0 0, .slice none 0 0] 52 (0, 0)) := by
    have := heap_alloc_last (w.alloc (.cells #[.slice none 0 0, .slice none 0 0, .slice none 0 0, .slice none 0 0, .slice none 0 0, .slice none 0 0, .slice none 0 0, .int .i64 0, .slice none 0 0] 30)) (.cells #[.int .i64 64275, .int .u32 0, .int .u32 0, .int .u64 0, .int .u32 0, .int .u32 0, .int .u64 0, .int .i64 0, .int .i64 0, .bool false, .int .i64 0, .slice none 0 0, .slice none 0 0, .bool false, .slice none 0 0, .slice none 0 0, .slice none 0 0] 52)
    rw [alloc_size] at this
    exact this
  have N0 : ((w.alloc (.cells #[.slice none 0 0, .slice none 0 0, .slice none 0 0, .slice none 0 0, .slice none 0 0, .slice none 0 0, .slice none 0 0, .int .i64 0, .slice none 0 0] 30)).alloc (.cells #[.int .i64 64275, .int .u32 0, .int .u32 0, .int .u64 0, .int .u32 0, .int .u32 0, .int .u64 0, .int .i64 0, .int .i64 0, .bool false, .int .i64 0, .slice none 0 0, .slice none 0 0, .bool false, .slice none 0 0, .slice none 0 0, .slice none 0 0] 52)).heap[w.heap.size]? = some (.cells #[.slice none 0 0, .slice none 0 0, .slice none 0 0, .slice none 0 0, .slice none 0 0, .slice none 0 0, .slice none 0 0, .int .i64 0, .slice none 0 0] 30 (0, 0)) := heap_alloc (heap_alloc_last _ _) _
  have HN := Hid.mk' N1
  have HM := Hid.mk' N0
  clear N1 N0
  have CQ : Hid (∀ f A B X, Calls Tryz.prog 47 #[.agg #[.slice none 0 0, .slice none 0 0, .slice none 0 0, .slice none 0 0, .slice none 0 0, .slice none 0 0, .slice none 0 0, .int .i64 0, .slice none 0 0], .agg #[.int .i64 64275, .int .u32 0, .int .u32 0, .int .u64 0, .int .u32 0, .int .u32 0, .int .u64 0, .int .i64 0, .int .i64 0, .bool false, .int .i64 0, .slice none 0 0, .slice none 0 0, .bool false, .slice none 0 0, .slice none 0 0, .slice none 0 0], .func (.func f) A B] X fun en w' => ∃ v, en = .returned v ∧ isFn v ∧ Grew X w') := fun f A B X => qarrayInitFrom_fn none none none none none none none none 0 0 0 0 0 0 0 0 0 0 0 0 0 0 0 0 0 (64275) 0 0 0 0 0 0 0 0 0 false false none none none none none 0 0 0 0 0 0 0 0 0 0 f A B X
  have GP : Hid (Grew w w) := Grew.refl w
  go_enter Tryz.func16, Tryz.ntmps16
  go_wp2_with (first
    | (with_reducible refine stop_load 30 rfl ?_
       unfold Stop
       refine wpList_load_row rfl 30 _ rfl (w.heap.size) (by go_simp) 30 #[.slice none 0 0, .slice none 0 0, .slice none 0 0, .slice none 0 0, .slice none 0 0, .slice none 0 0, .slice none 0 0, .int .i64 0, .slice none 0 0] (0, 0) _ HM.out Tryz.underlying30 rfl (by kernel_rfl) ?_)
    | (with_reducible refine stop_load 52 rfl ?_
       unfold Stop
       refine wpList_load_row rfl 52 _ rfl (w.heap.size + 1) (by go_simp) 52 #[.int .i64 64275, .int .u32 0, .int .u32 0, .int .u64 0, .int .u32 0, .int .u32 0, .int .u64 0, .int .i64 0, .int .i64 0, .bool false, .int .i64 0, .slice none 0 0, .slice none 0 0, .bool false, .slice none 0 0, .slice none 0 0, .slice none 0 0] (0, 0) _ HN.out Tryz.underlying52 rfl (by kernel_rfl) ?_)
    | fail)
  repeat (first
    | (with_reducible refine (CQ.out _ _ _ _).mono ?_
       rintro en wn ⟨v, rfl, hv, gn⟩
       have gx : Grew w wn := Grew.trans (by repeat (first | with_reducible exact GP.out | with_reducible exact Grew.refl _ | refine Grew.alloc ?_ _ | refine Grew.set ?_ (by simp) _ | refine Grew.drewN ?_ _ | refine Grew.drew ?_)) gn
       clear GP
       have GP := Hid.mk' gx
       clear gn gx
       obtain ⟨fn, fA, fB, rfl⟩ := hv
       go_wp2_with (first
    | (with_reducible refine stop_load 30 rfl ?_
       unfold Stop
       refine wpList_load_row rfl 30 _ rfl (w.heap.size) (by go_simp) 30 #[.slice none 0 0, .slice none 0 0, .slice none 0 0, .slice none 0 0, .slice none 0 0, .slice none 0 0, .slice none 0 0, .int .i64 0, .slice none 0 0] (0, 0) _ HM.out Tryz.underlying30 rfl (by kernel_rfl) ?_)
    | (with_reducible refine stop_load 52 rfl ?_
       unfold Stop
       refine wpList_load_row rfl 52 _ rfl (w.heap.size + 1) (by go_simp) 52 #[.int .i64 64275, .int .u32 0, .int .u32 0, .int .u64 0, .int .u32 0, .int .u32 0, .int .u64 0, .int .i64 0, .int .i64 0, .bool false, .int .i64 0, .slice none 0 0, .slice none 0 0, .bool false, .slice none 0 0, .slice none 0 0, .slice none 0 0] (0, 0) _ HN.out Tryz.underlying52 rfl (by kernel_rfl) ?_)
    | fail)))
  go_ret
  exact ⟨_, rfl, ⟨_, _, _, rfl⟩, (by repeat (first | with_reducible exact GP.out | with_reducible exact Grew.refl _ | refine Grew.alloc ?_ _ | refine Grew.set ?_ (by simp) _ | refine Grew.drewN ?_ _ | refine Grew.drew ?_))⟩
set_option maxRecDepth 100000 in
set_option maxHeartbeats 2000000 in
theorem sc_64276 (w : World) : Calls Tryz.prog 48 #[.agg #[.slice none 0 0, .slice none 0 0, .slice none 0 0, .slice none 0 0, .slice none 0 0, .slice none 0 0, .slice none 0 0, .int .i64 0, .slice none 0 0], .agg #[.int .i64 64276, .int .u32 0, .int .u32 0, .int .u64 0, .int .u32 0, .int .u32 0, .int .u64 0, .int .i64 0, .int .i64 0, .bool false, .int .i64 0, .slice none 0 0, .slice none 0 0, .bool false, .slice none 0 0, .slice none 0 0, .slice none 0 0]] w fun en w' => ∃ v, en = .returned v ∧ isFn v ∧ Grew w w' := by
  have N1 : ((w.alloc (.cells #[.slice none 0 0, .slice none 0 0, .slice none 0 0, .slice none 0 0, .slice none 0 0, .slice none 0 0, .slice none 0 0, .int .i64 0, .slice none 0 0] 30)).alloc (.cells #[.int .i64 64276, .int .u32 0, .int .u32 0, .int .u64 0, .int .u32 0, .int .u32 0, .int .u64 0, .int .i64 0, .int .i64 0, .bool false, .int .i64 0, .slice none 0 0, .slice none 0 0, .bool false, .slice none 0 0, .slice none 0 0, .slice none 0 0] 52)).heap[w.heap.size + 1]? = some (.cells #[.int .i64 64276, .int .u32 0, .int .u32 0, .int .u64 0, .int .u32 0, .int .u32 0, .int .u64 0, .int .i64 0, .int .i64 0, .bool false, .int .i64 0, .slice none 0 0, .slice none 0 0, .bool false, .slice none 0 0, .slice none 0 0, .slice none 0 0] 52 (0, 0)) := by
    have := heap_alloc_last (w.alloc (.cells #[.slice none 0 0, .slice none 0 0, .slice none 0 0, .slice none 0 0, .slice none 0 0, .slice none 0 0, .slice none 0 0, .int .i64 0, .slice none 0 0] 30)) (.cells #[.int .i64 64276, .int .u32 0, .int .u32 0, .int .u64 0, .int .u32 0, .int .u32 0, .int .u64 0, .int .i64 0, .int .i64 0, .bool false, .int .i64 0, .slice none 0 0, .slice none 0 0, .bool false, .slice none 0 0, .slice none 0 0, .slice none 0 0] 52)
    rw [alloc_size] at this
    exact this
  have N0 : ((w.alloc (.cells #[.slice none 0 0, .slice none 0 0, .slice none 0 0, .slice none 0 0, .slice none 0 0, .slice none 0 0, .slice none 0 0, .int .i64 0, .slice none 0 0] 30)).alloc (.cells #[.int .i64 64276, .int .u32 0, .int .u32 0, .int .u64 0, .int .u32 0, .int .u32 0, .int .u64 0, .int .i64 0, .int .i64 0, .bool false, .int .i64 0, .slice none 0 0, .slice none 0 0, .bool false, .slice none 0 0, .slice none 0 0, .slice none 0 0] 52)).heap[w.heap.size]? = some (.cells #[.slice none 0 0, .slice none 0 0, .slice none 0 0, .slice none 0 0, .slice none 0 0, .slice none 0 0, .slice none 0 0, .int .i64 0, .slice none 0 0] 30 (0, 0)) := heap_alloc (heap_alloc_last _ _) _
  have HN := Hid.mk' N1
  have HM := Hid.mk' N0
  clear N1 N0
  have CQ : Hid (∀ X, Calls Tryz.prog 92 #[.agg #[.slice none 0 0, .slice none 0 0, .slice none 0 0, .slice none 0 0, .slice none 0 0, .slice none 0 0, .slice none 0 0, .int .i64 0, .slice none 0 0], .agg #[.int .i64 64276, .int .u32 0, .int .u32 0, .int .u64 0, .int .u32 0, .int .u32 0, .int .u64 0, .int .i64 0, .int .i64 0, .bool false, .int .i64 0, .slice none 0 0, .slice none 0 0, .bool false, .slice none 0 0, .slice none 0 0, .slice none 0 0]] X fun en w' => ∃ v, en = .returned v ∧ isFn v ∧ Grew X w') := fun X => qcast_fn none none none none none none none none 0 0 0 0 0 0 0 0 0 0 0 0 0 0 0 0 0 (64276) 0 0 0 0 0 0 0 0 0 false false none none none none none 0 0 0 0 0 0 0 0 0 0 X
  have GP : Hid (Grew w w) := Grew.refl w
  go_enter Tryz.func48, Tryz.ntmps48
  go_wp2_with (first
    | (with_reducible refine stop_load 30 rfl ?_
       unfold Stop
       refine wpList_load_row rfl 30 _ rfl (w.heap.size) (by go_simp) 30 #[.slice none 0 0, .slice none 0 0, .slice none 0 0, .slice none 0 0, .slice none 0 0, .slice none 0 0, .slice none 0 0, .int .i64 0, .slice none 0 0] (0, 0) _ HM.out Tryz.underlying30 rfl (by kernel_rfl) ?_)
    | (with_reducible refine stop_load 52 rfl ?_
       unfold Stop
       refine wpList_load_row rfl 52 _ rfl (w.heap.size + 1) (by go_simp) 52 #[.int .i64 64276, .int .u32 0, .int .u32 0, .int .u64 0, .int .u32 0, .int .u32 0, .int .u64 0, .int .i64 0, .int .i64 0, .bool false, .int .i64 0, .slice none 0 0, .slice none 0 0, .bool false, .slice none 0 0, .slice none 0 0, .slice none 0 0] (0, 0) _ HN.out Tryz.underlying52 rfl (by kernel_rfl) ?_)
    | fail)
  repeat (first
    | (with_reducible refine (CQ.out _).mono ?_
       rintro en wn ⟨v, rfl, hv, gn⟩
       have gx : Grew w wn := Grew.trans (by repeat (first | with_reducible exact GP.out | with_reducible exact Grew.refl _ | refine Grew.alloc ?_ _ | refine Grew.set ?_ (by simp) _ | refine Grew.drewN ?_ _ | refine Grew.drew ?_)) gn
       clear GP
       have GP := Hid.mk' gx
       clear gn gx
       obtain ⟨fn, fA, fB, rfl⟩ := hv
       go_wp2_with (first
    | (with_reducible refine stop_load 30 rfl ?_
       unfold Stop
       refine wpList_load_row rfl 30 _ rfl (w.heap.size) (by go_simp) 30 #[.slice none 0 0, .slice none 0 0, .slice none 0 0, .slice none 0 0, .slice none 0 0, .slice none 0 0, .slice none 0 0, .int .i64 0, .slice none 0 0] (0, 0) _ HM.out Tryz.underlying30 rfl (by kernel_rfl) ?_)
    | (with_reducible refine stop_load 52 rfl ?_
       unfold Stop
       refine wpList_load_row rfl 52 _ rfl (w.heap.size + 1) (by go_simp) 52 #[.int .i64 64276, .int .u32 0, .int .u32 0, .int .u64 0, .int .u32 0, .int .u32 0, .int .u64 0, .int .i64 0, .int .i64 0, .bool false, .int .i64 0, .slice none 0 0, .slice none 0 0, .bool false, .slice none 0 0, .slice none 0 0, .slice none 0 0] (0, 0) _ HN.out Tryz.underlying52 rfl (by kernel_rfl) ?_)
    | fail)))
  go_ret
  exact ⟨_, rfl, ⟨_, _, _, rfl⟩, (by repeat (first | with_reducible exact GP.out | with_reducible exact Grew.refl _ | refine Grew.alloc ?_ _ | refine Grew.set ?_ (by simp) _ | refine Grew.drewN ?_ _ | refine Grew.drew ?_))⟩
set_option maxRecDepth 100000 in
set_option maxHeartbeats 2000000 in
theorem sc_64277 (w : World) : Calls Tryz.prog 48 #[.agg #[.slice none 0 0, .slice none 0 0, .slice none 0 0, .slice none 0 0, .slice none 0 0, .slice none 0 0, .slice none 0 0, .int .i64 0, .slice none 0 0], .agg #[.int .i64 64277, .int .u32 0, .int .u32 0, .int .u64 0, .int .u32 0, .int .u32 0, .int .u64 0, .int .i64 0, .int .i64 0, .bool false, .int .i64 0, .slice none 0 0, .slice none 0 0, .bool false, .slice none 0 0, .slice none 0 0, .slice none 0 0]] w fun en w' => ∃ v, en = .returned v ∧ isFn v ∧ Grew w w' := by
  have N1 : ((w.alloc (.cells #[.slice none 0 0, .slice none 0 0, .slice none 0 0, .slice none 0 0, .slice none 0 0, .slice none 0 0, .slice none 0 0, .int .i64 0, .slice none 0 0] 30)).alloc (.cells #[.int .i64 64277, .int .u32 0, .int .u32 0, .int .u64 0, .int .u32 0, .int .u32 0, .int .u64 0, .int .i64 0, .int .i64 0, .bool false, .int .i64 0, .slice none 0 0, .slice none 0 0, .bool false, .slice none 0 0, .slice none 0 0, .slice none 0 0] 52)).heap[w.heap.size + 1]? = some (.cells #[.int .i64 64277, .int .u32 0, .int .u32 0, .int .u64 0, .int .u32 0, .int .u32 0, .int .u64 0, .int .i64 0, .int .i64 0, .bool false, .int .i64 0, .slice none 0 0, .slice none 0 0, .bool false, .slice none 0 0, .slice none 0 0, .slice none 0 0] 52 (0, 0)) := by
    have := heap_alloc_last (w.alloc (.cells #[.slice none 0 0, .slice none 0 0, .slice none 0 0, .slice none 0 0, .slice none 0 0, .slice none 0 0, .slice none 0 0, .int .i64 0, .slice none 0 0] 30)) (.cells #[.int .i64 64277, .int .u32 0, .int .u32 0, .int .u64 0, .int .u32 0, .int .u32 0, .int .u64 0, .int .i64 0, .int .i64 0, .bool false, .int .i64 0, .slice none 0 0, .slice none 0 0, .bool false, .slice none 0 0, .slice none 0 0, .slice none 0 0] 52)
    rw [alloc_size] at this
    exact this
  have N0 : ((w.alloc (.cells #[.slice none 0 0, .slice none 0 0, .slice none 0 0, .slice none 0 0, .slice none 0 0, .slice none 0 0, .slice none 0 0, .int .i64 0, .slice none 0 0] 30)).alloc (.cells #[.int .i64 64277, .int .u32 0, .int .u32 0, .int .u64 0, .int .u32 0, .int .u32 0, .int .u64 0, .int .i64 0, .int .i64 0, .bool false, .int .i64 0, .slice none 0 0, .slice none 0 0, .bool false, .slice none 0 0, .slice none 0 0, .slice none 0 0] 52)).heap[w.heap.size]? = some (.cells #[.slice none 0 0, .slice none 0 0, .slice none 0 0, .slice none 0 0, .slice none 0 0, .slice none 0 0, .slice none 0 0, .int .i64 0, .slice none 0 0] 30 (0, 0)) := heap_alloc (heap_alloc_last _ _) _
  have HN := Hid.mk' N1
  have HM := Hid.mk' N0
  clear N1 N0
  have CQ : Hid (∀ X, Calls Tryz.prog 92 #[.agg #[.slice none 0 0, .slice none 0 0, .slice none 0 0, .slice none 0 0, .slice none 0 0, .slice none 0 0, .slice none 0 0, .int .i64 0, .slice none 0 0], .agg #[.int .i64 64277, .int .u32 0, .int .u32 0, .int .u64 0, .int .u32 0, .int .u32 0, .int .u64 0, .int .i64 0, .int .i64 0, .bool false, .int .i64 0, .slice none 0 0, .slice none 0 0, .bool false, .slice none 0 0, .slice none 0 0, .slice none 0 0]] X fun en w' => ∃ v, en = .returned v ∧ isFn v ∧ Grew X w') := fun X => qcast_fn none none none none none none none none 0 0 0 0 0 0 0 0 0 0 0 0 0 0 0 0 0 (64277) 0 0 0 0 0 0 0 0 0 false false none none none none none 0 0 0 0 0 0 0 0 0 0 X
  have GP : Hid (Grew w w) := Grew.refl w
  go_enter Tryz.func48, Tryz.ntmps48
  go_wp2_with (first
    | (with_reducible refine stop_load 30 rfl ?_
       unfold Stop
       refine wpList_load_row rfl 30 _ rfl (w.heap.size) (by go_simp) 30 #[.slice none 0 0, .slice none 0 0, .slice none 0 0, .slice none 0 0, .slice none 0 0, .slice none 0 0, .slice none 0 0, .int .i64 0, .slice none 0 0] (0, 0) _ HM.out Tryz.underlying30 rfl (by kernel_rfl) ?_)
    | (with_reducible refine stop_load 52 rfl ?_
       unfold Stop
       refine wpList_load_row rfl 52 _ rfl (w.heap.size + 1) (by go_simp) 52 #[.int .i64 64277, .int .u32 0, .int .u32 0, .int .u64 0, .int .u32 0, .int .u32 0, .int .u64 0, .int .i64 0, .int .i64 0, .bool false, .int .i64 0, .slice none 0 0, .slice none 0 0, .bool false, .slice none 0 0, .slice none 0 0, .slice none 0 0] (0, 0) _ HN.out Tryz.underlying52 rfl (by kernel_rfl) ?_)
    | fail)
  repeat (first
    | (with_reducible refine (CQ.out _).mono ?_
       rintro en wn ⟨v, rfl, hv, gn⟩
       have gx : Grew w wn := Grew.trans (by repeat (first | with_reducible exact GP.out | with_reducible exact Grew.refl _ | refine Grew.alloc ?_ _ | refine Grew.set ?_ (by simp) _ | refine Grew.drewN ?_ _ | refine Grew.drew ?_)) gn
       clear GP
       have GP := Hid.mk' gx
       clear gn gx
       obtain ⟨fn, fA, fB, rfl⟩ := hv
       go_wp2_with (first
    | (with_reducible refine stop_load 30 rfl ?_
       unfold Stop
       refine wpList_load_row rfl 30 _ rfl (w.heap.size) (by go_simp) 30 #[.slice none 0 0, .slice none 0 0, .slice none 0 0, .slice none 0 0, .slice none 0 0, .slice none 0 0, .slice none 0 0, .int .i64 0, .slice none 0 0] (0, 0) _ HM.out Tryz.underlying30 rfl (by kernel_rfl) ?_)
    | (with_reducible refine stop_load 52 rfl ?_
       unfold Stop
       refine wpList_load_row rfl 52 _ rfl (w.heap.size + 1) (by go_simp) 52 #[.int .i64 64277, .int .u32 0, .int .u32 0, .int .u64 0, .int .u32 0, .int .u32 0, .int .u64 0, .int .i64 0, .int .i64 0, .bool false, .int .i64 0, .slice none 0 0, .slice none 0 0, .bool false, .slice none 0 0, .slice none 0 0, .slice none 0 0] (0, 0) _ HN.out Tryz.underlying52 rfl (by kernel_rfl) ?_)
    | fail)))
  go_ret
  exact ⟨_, rfl, ⟨_, _, _, rfl⟩, (by repeat (first | with_reducible exact GP.out | with_reducible exact Grew.refl _ | refine Grew.alloc ?_ _ | refine Grew.set ?_ (by simp) _ | refine Grew.drewN ?_ _ | refine Grew.drew ?_))⟩
set_option maxRecDepth 100000 in
set_option maxHeartbeats 2000000 in
theorem sc_64278 (w : World) : Calls Tryz.prog 48 #[.agg #[.slice none 0 0, .slice none 0 0, .slice none 0 0, .slice none 0 0, .slice none 0 0, .slice none 0 0, .slice none 0 0, .int .i64 0, .slice none 0 0], .agg #[.int .i64 64278, .int .u32 0, .int .u32 0, .int .u64 0, .int .u32 0, .int .u32 0, .int .u64 0, .int .i64 0, .int .i64 0, .bool false, .int .i64 0, .slice none 0 0, .slice none 0 0, .bool false, .slice none 0 0, .slice none 0 0, .slice none 0 0]] w fun en w' => ∃ v, en = .returned v ∧ isFn v ∧ Grew w w' := by
  have N1 : ((w.alloc (.cells #[.slice none 0 0, .slice none 0 0, .slice none 0 0, .slice none 0 0, .slice none 0 0, .slice none 0 0, .slice none 0 0, .int .i64 0, .slice none 0 0] 30)).alloc (.cells #[.int .i64 64278, .int .u32 0, .int .u32 0, .int .u64 0, .int .u32 0, .int .u32 0, .int .u64 0, .int .i64 0, .int .i64 0, .bool false, .int .i64 0, .slice none 0 0, .slice none 0 0, .bool false, .slice none 0 0, .slice none 0 0, .slice none 0 0] 52)).heap[w.heap.size + 1]? = some (.cells #[.int .i64 64278, .int .u32 0, .int .u32 0, .int .u64 0, .int .u32 0, .int .u32 0, .int .u64 0, .int .i64 0, .int .i64 0, .bool false, .int .i64 0, .slice none 0 0, .slice none 0 0, .bool false, .slice none 0 0, .slice none 0 0, .slice none 0 0] 52 (0, 0)) := by
    have := heap_alloc_last (w.alloc (.cells #[.slice none 0 0, .slice none 0 0, .slice none 0 0, .slice none 0 0, .slice none 0 0, .slice none 0 0, .slice none 0 0, .int .i64 0, .slice none 0 0] 30)) (.cells #[.int .i64 64278, .int .u32 0, .int .u32 0, .int .u64 0, .int .u32 0, .int .u32 0, .int .u64 0, .int .i64 0, .int .i64 0, .bool false, .int .i64 0, .slice none 0 0, .slice none 0 0, .bool false, .slice none 0 0, .slice none 0 0, .slice none 0 0] 52)
    rw [alloc_size] at this
    exact this
  have N0 : ((w.alloc (.cells #[.slice none 0 0, .slice none 0 0, .slice none 0 0, .slice none 0 0, .slice none 0 0, .slice none 0 0, .slice none 0 0, .int .i64 0, .slice none 0 0] 30)).alloc (.cells #[.int .i64 64278, .int .u32 0, .int .u32 0, .int .u64 0, .int .u32 0, .int .u32 0, .int .u64 0, .int .i64 0, .int .i64 0, .bool false, .int .i64 0, .slice none 0 0, .slice none 0 0, .bool false, .slice none 0 0, .slice none 0 0, .slice none 0 0] 52)).heap[w.heap.size]? = some (.cells #[.slice none 0 0, .slice none 0 0, .slice none 0 0, .slice none 0 0, .slice none 0 0, .slice none 0 0, .slice none 0 0, .int .i64 0, .slice none 0 0] 30 (0, 0)) := heap_alloc (heap_alloc_last _ _) _
  have HN := Hid.mk' N1
  have HM := Hid.mk' N0
  clear N1 N0
  have CQ : Hid (∀ X, Calls Tryz.prog 92 #[.agg #[.slice none 0 0, .slice none 0 0, .slice none 0 0, .slice none 0 0, .slice none 0 0, .slice none 0 0, .slice none 0 0, .int .i64 0, .slice none 0 0], .agg #[.int .i64 64278, .int .u32 0, .int .u32 0, .int .u64 0, .int .u32 0, .int .u32 0, .int .u64 0, .int .i64 0, .int .i64 0, .bool false, .int .i64 0, .slice none 0 0, .slice none 0 0, .bool false, .slice none 0 0, .slice none 0 0, .slice none 0 0]] X fun en w' => ∃ v, en = .returned v ∧ isFn v ∧ Grew X w') := fun X => qcast_fn none none none none none none none none 0 0 0 0 0 0 0 0 0 0 0 0 0 0 0 0 0 (64278) 0 0 0 0 0 0 0 0 0 false false none none none none none 0 0 0 0 0 0 0 0 0 0 X
  have GP : Hid (Grew w w) := Grew.refl w
  go_enter Tryz.func48, Tryz.ntmps48
  go_wp2_with (first
    | (with_reducible refine stop_load 30 rfl ?_
       unfold Stop
       refine wpList_load_row rfl 30 _ rfl (w.heap.size) (by go_simp) 30 #[.slice none 0 0, .slice none 0 0, .slice none 0 0, .slice none 0 0, .slice none 0 0, .slice none 0 0, .slice none 0 0, .int .i64 0, .slice none 0 0] (0, 0) _ HM.out Tryz.underlying30 rfl (by kernel_rfl) ?_)
    | (with_reducible refine stop_load 52 rfl ?_
       unfold Stop
       refine wpList_load_row rfl 52 _ rfl (w.heap.size + 1) (by go_simp) 52 #[.int .i64 64278, .int .u32 0, .int .u32 0, .int .u64 0, .int .u32 0, .int .u32 0, .int .u64 0, .int .i64 0, .int .i64 0, .bool false, .int .i64 0, .slice none 0 0, .slice none 0 0, .bool false, .slice none 0 0, .slice none 0 0, .slice none 0 0] (0, 0) _ HN.out Tryz.underlying52 rfl (by kernel_rfl) ?_)
    | fail)
  repeat (first
    | (with_reducible refine (CQ.out _).mono ?_
       rintro en wn ⟨v, rfl, hv, gn⟩
       have gx : Grew w wn := Grew.trans (by repeat (first | with_reducible exact GP.out | with_reducible exact Grew.refl _ | refine Grew.alloc ?_ _ | refine Grew.set ?_ (by simp) _ | refine Grew.drewN ?_ _ | refine Grew.drew ?_)) gn
       clear GP
       have GP := Hid.mk' gx
       clear gn gx
       obtain ⟨fn, fA, fB, rfl⟩ := hv
       go_wp2_with (first
    | (with_reducible refine stop_load 30 rfl ?_
       unfold Stop
       refine wpList_load_row rfl 30 _ rfl (w.heap.size) (by go_simp) 30 #[.slice none 0 0, .slice none 0 0, .slice none 0 0, .slice none 0 0, .slice none 0 0, .slice none 0 0, .slice none 0 0, .int .i64 0, .slice none 0 0] (0, 0) _ HM.out Tryz.underlying30 rfl (by kernel_rfl) ?_)
    | (with_reducible refine stop_load 52 rfl ?_
       unfold Stop
       refine wpList_load_row rfl 52 _ rfl (w.heap.size + 1) (by go_simp) 52 #[.int .i64 64278, .int .u32 0, .int .u32 0, .int .u64 0, .int .u32 0, .int .u32 0, .int .u64 0, .int .i64 0, .int .i64 0, .bool false, .int .i64 0, .slice none 0 0, .slice none 0 0, .bool false, .slice none 0 0, .slice none 0 0, .slice none 0 0] (0, 0) _ HN.out Tryz.underlying52 rfl (by kernel_rfl) ?_)
    | fail)))
  go_ret
  exact ⟨_, rfl, ⟨_, _, _, rfl⟩, (by repeat (first | with_reducible exact GP.out | with_reducible exact Grew.refl _ | refine Grew.alloc ?_ _ | refine Grew.set ?_ (by simp) _ | refine Grew.drewN ?_ _ | refine Grew.drew ?_))⟩
set_option maxRecDepth 100000 in
set_option maxHeartbeats 2000000 in
theorem sc_64279 (w : World) : Calls Tryz.prog 48 #[.agg #[.slice none 0 0, .slice none 0 0, .slice none 0 0, .slice none 0 0, .slice none 0 0, .slice none 0 0, .slice none 0 0, .int .i64 0, .slice none 0 0], .agg #[.int .i64 64279, .int .u32 0, .int .u32 0, .int .u64 0, .int .u32 0, .int .u32 0, .int .u64 0, .int .i64 0, .int .i64 0, .bool false, .int .i64 0, .slice none 0 0, .slice none 0 0, .bool false, .slice none 0 0, .slice none 0 0, .slice none 0 0]] w fun en w' => ∃ v, en = .returned v ∧ isFn v ∧ Grew w w' := by
  have N1 : ((w.alloc (.cells #[.slice none 0 0, .slice none 0 0, .slice none 0 0, .slice none 0 0, .slice none 0 0, .slice none 0 0, .slice none 0 0, .int .i64 0, .slice none 0 0] 30)).alloc (.cells #[.int .i64 64279, .int .u32 0, .int .u32 0, .int .u64 0, .int .u32 0, .int .u32 0, .int .u64 0, .int .i64 0, .int .i64 0, .bool false, .int .i64 0, .slice none 0 0, .slice none 0 0, .bool false, .slice none 0 0, .slice none 0 0, .slice none 0 0] 52)).heap[w.heap.size + 1]? = some (.cells #[.int .i64 64279, .int .u32 0, .int .u32 0, .int .u64 0, .int .u32 0, .int .u32 0, .int .u64 0, .int .i64 0, .int .i64 0, .bool false, .int .i64 0, .slice none 0 0, .slice none 0 0, .bool false, .slice none 0 0, .slice none 0 0, .slice none 0 0] 52 (0, 0)) := by
    have := heap_alloc_last (w.alloc (.cells #[.slice none 0 0, .slice none 0 0, .slice none 0 0, .slice none 0 0, .slice none 0 0, .slice none 0 0, .slice none 0 0, .int .i64 0, .slice none 0 0] 30)) (.cells #[.int .i64 64279, .int .u32 0, .int .u32 0, .int .u64 0, .int .u32 0, .int .u32 0, .int .u64 0, .int .i64 0, .int .i64 0, .bool false, .int .i64 0, .slice none 0 0, .slice none 0 0, .bool false, .slice none 0 0, .slice none 0 0, .slice none 0 0] 52)
    rw [alloc_size] at this
    exact this
  have N0 : ((w.alloc (.cells #[.slice none 0 0, .slice none 0 0, .slice none 0 0, .slice none 0 0, .slice none 0 0, .slice none 0 0, .slice none 0 0, .int .i64 0, .slice none 0 0] 30)).alloc (.cells #[.int .i64 64279, .int .u32 0, .int .u32 0, .int .u64 0, .int .u32 0, .int .u32 0, .int .u64 0, .int .i64 0, .int .i64 0, .bool false, .int .i64 0, .slice none 0 0, .slice none 0 0, .bool false, .slice none 0 0, .slice none 0 0, .slice none 0 0] 52)).heap[w.heap.size]? = some (.cells #[.slice none 0 0, .slice none 0 0, .slice none 0 0, .slice none 0 0, .slice none 0 0, .slice none 0 0, .slice none 0 0, .int .i64 0, .slice none 0 0] 30 (0, 0)) := heap_alloc (heap_alloc_last _ _) _
  have HN := Hid.mk' N1
  have HM := Hid.mk' N0
  clear N1 N0
  have CQ : Hid (∀ X, Calls Tryz.prog 92 #[.agg #[.slice none 0 0, .slice none 0 0, .slice none 0 0, .slice none 0 0, .slice none 0 0, .slice none 0 0, .slice none 0 0, .int .i64 0, .slice none 0 0], .agg #[.int .i64 64279, .int .u32 0, .int .u32 0, .int .u64 0, .int .u32 0, .int .u32 0, .int .u64 0, .int .i64 0, .int .i64 0, .bool false, .int .i64 0, .slice none 0 0, .slice none 0 0, .bool false, .slice none 0 0, .slice none 0 0, .slice none 0 0]] X fun en w' => ∃ v, en = .returned v ∧ isFn v ∧ Grew X w') := fun X => qcast_fn none none none none none none none none 0 0 0 0 0 0 0 0 0 0 0 0 0 0 0 0 0 (64279) 0 0 0 0 0 0 0 0 0 false false none none none none none 0 0 0 0 0 0 0 0 0 0 X
  have GP : Hid (Grew w w) := Grew.refl w
  go_enter Tryz.func48, Tryz.ntmps48
  go_wp2_with (first
    | (with_reducible refine stop_load 30 rfl ?_
       unfold Stop
       refine wpList_load_row rfl 30 _ rfl (w.heap.size) (by go_simp) 30 #[.slice none 0 0, .slice none 0 0, .slice none 0 0, .slice none 0 0, .slice none 0 0, .slice none 0 0, .slice none 0 0, .int .i64 0, .slice none 0 0] (0, 0) _ HM.out Tryz.underlying30 rfl (by kernel_rfl) ?_)
    | (with_reducible refine stop_load 52 rfl ?_
       unfold Stop
       refine wpList_load_row rfl 52 _ rfl (w.heap.size + 1) (by go_simp) 52 #[.int .i64 64279, .int .u32 0, .int .u32 0, .int .u64 0, .int .u32 0, .int .u32 0, .int .u64 0, .int .i64 0, .int .i64 0, .bool false, .int .i64 0, .slice none 0 0, .slice none 0 0, .bool false, .slice none 0 0, .slice none 0 0, .slice none 0 0] (0, 0) _ HN.out Tryz.underlying52 rfl (by kernel_rfl) ?_)
    | fail)
  repeat (first
    | (with_reducible refine (CQ.out _).mono ?_
       rintro en wn ⟨v, rfl, hv, gn⟩
       have gx : Grew w wn := Grew.trans (by repeat (first | with_reducible exact GP.out | with_reducible exact Grew.refl _ | refine Grew.alloc ?_ _ | refine Grew.set ?_ (by simp) _ | refine Grew.drewN ?_ _ | refine Grew.drew ?_)) gn
       clear GP
       have GP := Hid.mk' gx
       clear gn gx
       obtain ⟨fn, fA, fB, rfl⟩ := hv
       go_wp2_with (first
    | (with_reducible refine stop_load 30 rfl ?_
       unfold Stop
       refine wpList_load_row rfl 30 _ rfl (w.heap.size) (by go_simp) 30 #[.slice none 0 0, .slice none 0 0, .slice none 0 0, .slice none 0 0, .slice none 0 0, .slice none 0 0, .slice none 0 0, .int .i64 0, .slice none 0 0] (0, 0) _ HM.out Tryz.underlying30 rfl (by kernel_rfl) ?_)
    | (with_reducible refine stop_load 52 rfl ?_
       unfold Stop
       refine wpList_load_row rfl 52 _ rfl (w.heap.size + 1) (by go_simp) 52 #[.int .i64 64279, .int .u32 0, .int .u32 0, .int .u64 0, .int .u32 0, .int .u32 0, .int .u64 0, .int .i64 0, .int .i64 0, .bool false, .int .i64 0, .slice none 0 0, .slice none 0 0, .bool false, .slice none 0 0, .slice none 0 0, .slice none 0 0] (0, 0) _ HN.out Tryz.underlying52 rfl (by kernel_rfl) ?_)
    | fail)))
  go_ret
  exact ⟨_, rfl, ⟨_, _, _, rfl⟩, (by repeat (first | with_reducible exact GP.out | with_reducible exact Grew.refl _ | refine Grew.alloc ?_ _ | refine Grew.set ?_ (by simp) _ | refine Grew.drewN ?_ _ | refine Grew.drew ?_))⟩
set_option maxRecDepth 100000 in
set_option maxHeartbeats 2000000 in
theorem sc_64280 (w : World) : Calls Tryz.prog 48 #[.agg #[.slice none 0 0, .slice none 0 0, .slice none 0 0, .slice none 0 0, .slice none 0 0, .slice none 0 0, .slice none 0 0, .int .i64 0, .slice none 0 0], .agg #[.int .i64 64280, .int .u32 0, .int .u32 0, .int .u64 0, .int .u32 0, .int .u32 0, .int .u64 0, .int .i64 0, .int .i64 0, .bool false, .int .i64 0, .slice none 0 0, .slice none 0 0, .bool false, .slice none 0 0, .slice none 0 0, .slice none 0 0]] w fun en w' => ∃ v, en = .returned v ∧ isFn v ∧ Grew w w' := by
  have N1 : ((w.alloc (.cells #[.slice none 0 0, .slice none 0 0, .slice none 0 0, .slice none 0 0, .slice none 0 0, .slice none 0 0, .slice none 0 0, .int .i64 0, .slice none 0 0] 30)).alloc (.cells #[.int .i64 64280, .int .u32 0, .int .u32 0, .int .u64 0, .int .u32 0, .int .u32 0, .int .u64 0, .int .i64 0, .int .i64 0, .bool false, .int .i64 0, .slice none 0 0, .slice none 0 0, .bool false, .slice none 0 0, .slice none 0 0, .slice none 0 0] 52)).heap[w.heap.size + 1]? = some (.cells #[.int .i64 64280, .int .u32 0, .int .u32 0, .int .u64 0, .int .u32 0, .int .u32 0, .int .u64 0, .int .i64 0, .int .i64 0, .bool false, .int .i64 0, .slice none 0 0, .slice none 0 0, .bool false, .slice none 0 0, .slice none 0 0, .slice none 0 0] 52 (0, 0)) := by
    have := heap_alloc_last (w.alloc (.cells #[.slice none 0 0, .slice none 0 0, .slice none 0 0, .slice none 0 0, .slice none 0 0, .slice none 0 0, .slice none 0 0, .int .i64 0, .slice none 0 0] 30)) (.cells #[.int .i64 64280, .int .u32 0, .int .u32 0, .int .u64 0, .int .u32 0, .int .u32 0, .int .u64 0, .int .i64 0, .int .i64 0, .bool false, .int .i64 0, .slice none 0 0, .slice none 0 0, .bool false, .slice none 0 0, .slice none 0 0, .slice none 0 0] 52)
    rw [alloc_size] at this
    exact this
  have N0 : ((w.alloc (.cells #[.slice none 0 0, .slice none 0 0, .slice none 0 0, .slice none 0 0, .slice none 0 0, .slice none 0 0, .slice none 0 0, .int .i64 0, .slice none 0 0] 30)).alloc (.cells #[.int .i64 64280, .int .u32 0, .int .u32 0, .int .u64 0, .int .u32 0, .int .u32 0, .int .u64 0, .int .i64 0, .int .i64 0, .bool false, .int .i64 0, .slice none 0 0, .slice none 0 0, .bool false, .slice none 0 0, .slice none 0 0, .slice none 0 0] 52)).heap[w.heap.size]? = some (.cells #[.slice none 0 0, .slice none 0 0, .slice none 0 0, .slice none 0 0, .slice none 0 0, .slice none 0 0, .slice none 0 0, .int .i64 0, .slice none 0 0] 30 (0, 0)) := heap_alloc (heap_alloc_last _ _) _
  have HN := Hid.mk' N1
  have HM := Hid.mk' N0
  clear N1 N0
  have CQ : Hid (∀ X, Calls Tryz.prog 93 #[.agg #[.slice none 0 0, .slice none 0 0, .slice none 0 0, .slice none 0 0, .slice none 0 0, .slice none 0 0, .slice none 0 0, .int .i64 0, .slice none 0 0], .agg #[.int .i64 64280, .int .u32 0, .int .u32 0, .int .u64 0, .int .u32 0, .int .u32 0, .int .u64 0, .int .i64 0, .int .i64 0, .bool false, .int .i64 0, .slice none 0 0, .slice none 0 0, .bool false, .slice none 0 0, .slice none 0 0, .slice none 0 0]] X fun en w' => ∃ v, en = .returned v ∧ isFn v ∧ Grew X w') := fun X => qbranch_fn none none none none none none none none 0 0 0 0 0 0 0 0 0 0 0 0 0 0 0 0 0 (64280) 0 0 0 0 0 0 0 0 0 false false none none none none none 0 0 0 0 0 0 0 0 0 0 X
  have GP : Hid (Grew w w) := Grew.refl w
  go_enter Tryz.func48, Tryz.ntmps48
  go_wp2_with (first
    | (with_reducible refine stop_load 30 rfl ?_
       unfold Stop
       refine wpList_load_row rfl 30 _ rfl (w.heap.size) (by go_simp) 30 #[.slice none 0 0, .slice none 0 0, .slice none 0 0, .slice none 0 0, .slice none 0 0, .slice none 0 0, .slice none 0 0, .int .i64 0, .slice none 0 0] (0, 0) _ HM.out Tryz.underlying30 rfl (by kernel_rfl) ?_)
    | (with_reducible refine stop_load 52 rfl ?_
       unfold Stop
       refine wpList_load_row rfl 52 _ rfl (w.heap.size + 1) (by go_simp) 52 #[.int .i64 64280, .int .u32 0, .int .u32 0, .int .u64 0, .int .u32 0, .int .u32 0, .int .u64 0, .int .i64 0, .int .i64 0, .bool false, .int .i64 0, .slice none 0 0, .slice none 0 0, .bool false, .slice none 0 0, .slice none 0 0, .slice none 0 0] (0, 0) _ HN.out Tryz.underlying52 rfl (by kernel_rfl) ?_)
    | fail)
  repeat (first
    | (with_reducible refine (CQ.out _).mono ?_
       rintro en wn ⟨v, rfl, hv, gn⟩
       have gx : Grew w wn := Grew.trans (by repeat (first | with_reducible exact GP.out | with_reducible exact Grew.refl _ | refine Grew.alloc ?_ _ | refine Grew.set ?_ (by simp) _ | refine Grew.drewN ?_ _ | refine Grew.drew ?_)) gn
       clear GP
       have GP := Hid.mk' gx
       clear gn gx
       obtain ⟨fn, fA, fB, rfl⟩ := hv
       go_wp2_with (first
    | (with_reducible refine stop_load 30 rfl ?_
       unfold Stop
       refine wpList_load_row rfl 30 _ rfl (w.heap.size) (by go_simp) 30 #[.slice none 0 0, .slice none 0 0, .slice none 0 0, .slice none 0 0, .slice none 0 0, .slice none 0 0, .slice none 0 0, .int .i64 0, .slice none 0 0] (0, 0) _ HM.out Tryz.underlying30 rfl (by kernel_rfl) ?_)
    | (with_reducible refine stop_load 52 rfl ?_
       unfold Stop
       refine wpList_load_row rfl 52 _ rfl (w.heap.size + 1) (by go_simp) 52 #[.int .i64 64280, .int .u32 0, .int .u32 0, .int .u64 0, .int .u32 0, .int .u32 0, .int .u64 0, .int .i64 0, .int .i64 0, .bool false, .int .i64 0, .slice none 0 0, .slice none 0 0, .bool false, .slice none 0 0, .slice none 0 0, .slice none 0 0] (0, 0) _ HN.out Tryz.underlying52 rfl (by kernel_rfl) ?_)
    | fail)))
  go_ret
  exact ⟨_, rfl, ⟨_, _, _, rfl⟩, (by repeat (first | with_reducible exact GP.out | with_reducible exact Grew.refl _ | refine Grew.alloc ?_ _ | refine Grew.set ?_ (by simp) _ | refine Grew.drewN ?_ _ | refine Grew.drew ?_))⟩
set_option maxRecDepth 100000 in
set_option maxHeartbeats 2000000 in
theorem sc_64281 (w : World) : Calls Tryz.prog 48 #[.agg #[.slice none 0 0, .slice none 0 0, .slice none 0 0, .slice none 0 0, .slice none 0 0, .slice none 0 0, .slice none 0 0, .int .i64 0, .slice none 0 0], .agg #[.int .i64 64281, .int .u32 0, .int .u32 0, .int .u64 0, .int .u32 0, .int .u32 0, .int .u64 0, .int .i64 0, .int .i64 0, .bool false, .int .i64 0, .slice none 0 0, .slice none 0 0, .bool false, .slice none 0 0, .slice none 0 0, .slice none 0 0]] w fun en w' => ∃ v, en = .returned v ∧ isFn v ∧ Grew w w' := by
  have N1 : ((w.alloc (.cells #[.slice none 0 0, .slice none 0 0, .slice none 0 0, .slice none 0 0, .slice none 0 0, .slice none 0 0, .slice none 0 0, .int .i64 0, .slice none 0 0] 30)).alloc (.cells #[.int .i64 64281, .int .u32 0, .int .u32 0, .int .u64 0, .int .u32 0, .int .u32 0, .int .u64 0, .int .i64 0, .int .i64 0, .bool false, .int .i64 0, .slice none 0 0, .slice none 0 0, .bool false, .slice none 0 0, .slice none 0 0, .slice none 0 0] 52)).heap[w.heap.size + 1]? = some (.cells #[.int .i64 64281, .int .u32 0, .int .u32 0, .int .u64 0, .int .u32 0, .int .u32 0, .int .u64 0, .int .i64 0, .int .i64 0, .bool false, .int .i64 0, .slice none 0 0, .slice none 0 0, .bool false, .slice none 0 0, .slice none 0 0, .slice none 0 0] 52 (0, 0)) := by
    have := heap_alloc_last (w.alloc (.cells #[.slice none 0 0, .slice none 0 0, .slice none 0 0, .slice none 0 0, .slice none 0 0, .slice none 0 0, .slice none 0 0, .int .i64 0, .slice none 0 0] 30)) (.cells #[.int .i64 64281, .int .u32 0, .int .u32 0, .int .u64 0, .int .u32 0, .int .u32 0, .int .u64 0, .int .i64 0, .int .i64 0, .bool false, .int .i64 0, .slice none 0 0, .slice none 0 0, .bool false, .slice none 0 0, .slice none 0 0, .slice none 0 0] 52)
    rw [alloc_size] at this
    exact this
  have N0 : ((w.alloc (.cells #[.slice none 0 0, .slice none 0 0, .slice none 0 0, .slice none 0 0, .slice none 0 0, .slice none 0 0, .slice none 0 0, .int .i64 0, .slice none 0 0] 30)).alloc (.cells #[.int .i64 64281, .int .u32 0, .int .u32 0, .int .u64 0, .int .u32 0, .int .u32 0, .int .u64 0, .int .i64 0, .int .i64 0, .bool false, .int .i64 0, .slice none 0 0, .slice none 0 0, .bool false, .slice none 0 0, .slice none 0 0, .slice none 0 0] 52)).heap[w.heap.size]? = some (.cells #[.slice none 0 0, .slice none 0 0, .slice none 0 0, .slice none 0 0, .slice none 0 0, .slice none 0 0, .slice none 0 0, .int .i64 0, .slice none 0 0] 30 (0, 0)) := heap_alloc (heap_alloc_last _ _) _
  have HN := Hid.mk' N1
  have HM := Hid.mk' N0
  clear N1 N0
  have CQ : Hid (∀ X, Calls Tryz.prog 93 #[.agg #[.slice none 0 0, .slice none 0 0, .slice none 0 0, .slice none 0 0, .slice none 0 0, .slice none 0 0, .slice none 0 0, .int .i64 0, .slice none 0 0], .agg #[.int .i64 64281, .int .u32 0, .int .u32 0, .int .u64 0, .int .u32 0, .int .u32 0, .int .u64 0, .int .i64 0, .int .i64 0, .bool false, .int .i64 0, .slice none 0 0, .slice none 0 0, .bool false, .slice none 0 0, .slice none 0 0, .slice none 0 0]] X fun en w' => ∃ v, en = .returned v ∧ isFn v ∧ Grew X w') := fun X => qbranch_fn none none none none none none none none 0 0 0 0 0 0 0 0 0 0 0 0 0 0 0 0 0 (64281) 0 0 0 0 0 0 0 0 0 false false none none none none none 0 0 0 0 0 0 0 0 0 0 X
  have GP : Hid (Grew w w) := Grew.refl w
  go_enter Tryz.func48, Tryz.ntmps48
  go_wp2_with (first
    | (with_reducible refine stop_load 30 rfl ?_
       unfold Stop
       refine wpList_load_row rfl 30 _ rfl (w.heap.size) (by go_simp) 30 #[.slice none 0 0, .slice none 0 0, .slice none 0 0, .slice none 0 0, .slice none 0 0, .slice none 0 0, .slice none 0 0, .int .i64 0, .slice none 0 0] (0, 0) _ HM.out Tryz.underlying30 rfl (by kernel_rfl) ?_)
    | (with_reducible refine stop_load 52 rfl ?_
       unfold Stop
       refine wpList_load_row rfl 52 _ rfl (w.heap.size + 1) (by go_simp) 52 #[.int .i64 64281, .int .u32 0, .int .u32 0, .int .u64 0, .int .u32 0, .int .u32 0, .int .u64 0, .int .i64 0, .int .i64 0, .bool false, .int .i64 0, .slice none 0 0, .slice none 0 0, .bool false, .slice none 0 0, .slice none 0 0, .slice none 0 0] (0, 0) _ HN.out Tryz.underlying52 rfl (by kernel_rfl) ?_)
    | fail)
  repeat (first
    | (with_reducible refine (CQ.out _).mono ?_
       rintro en wn ⟨v, rfl, hv, gn⟩
       have gx : Grew w wn := Grew.trans (by repeat (first | with_reducible exact GP.out | with_reducible exact Grew.refl _ | refine Grew.alloc ?_ _ | refine Grew.set ?_ (by simp) _ | refine Grew.drewN ?_ _ | refine Grew.drew ?_)) gn
       clear GP
       have GP := Hid.mk' gx
       clear gn gx
       obtain ⟨fn, fA, fB, rfl⟩ := hv
       go_wp2_with (first
    | (with_reducible refine stop_load 30 rfl ?_
       unfold Stop
       refine wpList_load_row rfl 30 _ rfl (w.heap.size) (by go_simp) 30 #[.slice none 0 0, .slice none 0 0, .slice none 0 0, .slice none 0 0, .slice none 0 0, .slice none 0 0, .slice none 0 0, .int .i64 0, .slice none 0 0] (0, 0) _ HM.out Tryz.underlying30 rfl (by kernel_rfl) ?_)
    | (with_reducible refine stop_load 52 rfl ?_
       unfold Stop
       refine wpList_load_row rfl 52 _ rfl (w.heap.size + 1) (by go_simp) 52 #[.int .i64 64281, .int .u32 0, .int .u32 0, .int .u64 0, .int .u32 0, .int .u32 0, .int .u64 0, .int .i64 0, .int .i64 0, .bool false, .int .i64 0, .slice none 0 0, .slice none 0 0, .bool false, .slice none 0 0, .slice none 0 0, .slice none 0 0] (0, 0) _ HN.out Tryz.underlying52 rfl (by kernel_rfl) ?_)
    | fail)))
  go_ret
  exact ⟨_, rfl, ⟨_, _, _, rfl⟩, (by repeat (first | with_reducible exact GP.out | with_reducible exact Grew.refl _ | refine Grew.alloc ?_ _ | refine Grew.set ?_ (by simp) _ | refine Grew.drewN ?_ _ | refine Grew.drew ?_))⟩
set_option maxRecDepth 100000 in
set_option maxHeartbeats 2000000 in
theorem sc_64282 (w : World) : Calls Tryz.prog 48 #[.agg #[.slice none 0 0, .slice none 0 0, .slice none 0 0, .slice none 0 0, .slice none 0 0, .slice none 0 0, .slice none 0 0, .int .i64 0, .slice none 0 0], .agg #[.int .i64 64282, .int .u32 0, .int .u32 0, .int .u64 0, .int .u32 0, .int .u32 0, .int .u64 0, .int .i64 0, .int .i64 0, .bool false, .int .i64 0, .slice none 0 0, .slice none 0 0, .bool false, .slice none 0 0, .slice none 0 0, .slice none 0 0]] w fun en w' => ∃ v, en = .returned v ∧ isFn v ∧ Grew w w' := by
  have N1 : ((w.alloc (.cells #[.slice none 0 0, .slice none 0 0, .slice none 0 0, .slice none 0 0, .slice none 0 0, .slice none 0 0, .slice none 0 0, .int .i64 0, .slice none 0 0] 30)).alloc (.cells #[.int .i64 64282, .int .u32 0, .int .u32 0, .int .u64 0, .int .u32 0, .int .u32 0, .int .u64 0, .int .i64 0, .int .i64 0, .bool false, .int .i64 0, .slice none 0 0, .slice none 0 0, .bool false, .slice none 0 0, .slice none 0 0, .slice none 0 0] 52)).heap[w.heap.size + 1]? = some (.cells #[.int .i64 64282, .int .u32 0, .int .u32 0, .int .u64 0, .int .u32 0, .int .u32 0, .int .u64 0, .int .i64 0, .int .i64 0, .bool false, .int .i64 0, .slice none 0 0, .slice none 0 0, .bool false, .slice none 0 0, .slice none 0 0, .slice none 0 0] 52 (0, 0)) := by
    have := heap_alloc_last (w.alloc (.cells #[.slice none 0 0, .slice none 0 0, .slice none 0 0, .slice none 0 0, .slice none 0 0, .slice none 0 0, .slice none 0 0, .int .i64 0, .slice none 0 0] 30)) (.cells #[.int .i64 64282, .int .u32 0, .int .u32 0, .int .u64 0, .int .u32 0, .int .u32 0, .int .u64 0, .int .i64 0, .int .i64 0, .bool false, .int .i64 0, .slice none 0 0, .slice none 0 0, .bool false, .slice none 0 0, .slice none 0 0, .slice none 0 0] 52)
    rw [alloc_size] at this
    exact this
  have N0 : ((w.alloc (.cells #[.slice none 0 0, .slice none 0 0, .slice none 0 0, .slice none 0 0, .slice none 0 0, .slice none 0 0, .slice none 0 0, .int .i64 0, .slice none 0 0] 30)).alloc (.cells #[.int .i64 64282, .int .u32 0, .int .u32 0, .int .u64 0, .int .u32 0, .int .u32 0, .int .u64 0, .int .i64 0, .int .i64 0, .bool false, .int .i64 0, .slice none 0 0, .slice none 0 0, .bool false, .slice none 0 0, .slice none 0 0, .slice none 0 0] 52)).heap[w.heap.size]? = some (.cells #[.slice none 0 0, .slice none 0 0, .slice none 0 0, .slice none 0 0, .slice none 0 0, .slice none 0 0, .slice none 0 0, .int .i64 0, .slice none 0 0] 30 (0, 0)) := heap_alloc (heap_alloc_last _ _) _
  have HN := Hid.mk' N1
  have HM := Hid.mk' N0
  clear N1 N0
  have CV : Hid (∀ a b X, Calls Tryz.prog 94 #[.int .i64 a, .int .i64 b] X fun en w' => ∃ v, en = .returned v ∧ isFn v ∧ Grew X w') := converts_fn
  have GP : Hid (Grew w w) := Grew.refl w
  go_enter Tryz.func48, Tryz.ntmps48
  go_wp2_with (first
    | (with_reducible refine stop_load 30 rfl ?_
       unfold Stop
       refine wpList_load_row rfl 30 _ rfl (w.heap.size) (by go_simp) 30 #[.slice none 0 0, .slice none 0 0, .slice none 0 0, .slice none 0 0, .slice none 0 0, .slice none 0 0, .slice none 0 0, .int .i64 0, .slice none 0 0] (0, 0) _ HM.out Tryz.underlying30 rfl (by kernel_rfl) ?_)
    | (with_reducible refine stop_load 52 rfl ?_
       unfold Stop
       refine wpList_load_row rfl 52 _ rfl (w.heap.size + 1) (by go_simp) 52 #[.int .i64 64282, .int .u32 0, .int .u32 0, .int .u64 0, .int .u32 0, .int .u32 0, .int .u64 0, .int .i64 0, .int .i64 0, .bool false, .int .i64 0, .slice none 0 0, .slice none 0 0, .bool false, .slice none 0 0, .slice none 0 0, .slice none 0 0] (0, 0) _ HN.out Tryz.underlying52 rfl (by kernel_rfl) ?_)
    | fail)
  repeat (first
    | (with_reducible refine (CV.out _ _ _).mono ?_
       rintro en wn ⟨v, rfl, hv, gn⟩
       have gx : Grew w wn := Grew.trans (by repeat (first | with_reducible exact GP.out | with_reducible exact Grew.refl _ | refine Grew.alloc ?_ _ | refine Grew.set ?_ (by simp) _ | refine Grew.drewN ?_ _ | refine Grew.drew ?_)) gn
       clear GP
       have GP := Hid.mk' gx
       clear gn gx
       obtain ⟨fn, fA, fB, rfl⟩ := hv
       go_wp2_with (first
    | (with_reducible refine stop_load 30 rfl ?_
       unfold Stop
       refine wpList_load_row rfl 30 _ rfl (w.heap.size) (by go_simp) 30 #[.slice none 0 0, .slice none 0 0, .slice none 0 0, .slice none 0 0, .slice none 0 0, .slice none 0 0, .slice none 0 0, .int .i64 0, .slice none 0 0] (0, 0) _ HM.out Tryz.underlying30 rfl (by kernel_rfl) ?_)
    | (with_reducible refine stop_load 52 rfl ?_
       unfold Stop
       refine wpList_load_row rfl 52 _ rfl (w.heap.size + 1) (by go_simp) 52 #[.int .i64 64282, .int .u32 0, .int .u32 0, .int .u64 0, .int .u32 0, .int .u32 0, .int .u64 0, .int .i64 0, .int .i64 0, .bool false, .int .i64 0, .slice none 0 0, .slice none 0 0, .bool false, .slice none 0 0, .slice none 0 0, .slice none 0 0] (0, 0) _ HN.out Tryz.underlying52 rfl (by kernel_rfl) ?_)
    | fail)))
  go_ret
  exact ⟨_, rfl, ⟨_, _, _, rfl⟩, (by repeat (first | with_reducible exact GP.out | with_reducible exact Grew.refl _ | refine Grew.alloc ?_ _ | refine Grew.set ?_ (by simp) _ | refine Grew.drewN ?_ _ | refine Grew.drew ?_))⟩
set_option maxRecDepth 100000 in
set_option maxHeartbeats 2000000 in
theorem sc_64283 (w : World) : Calls Tryz.prog 48 #[.agg #[.slice none 0 0, .slice none 0 0, .slice none 0 0, .slice none 0 0, .slice none 0 0, .slice none 0 0, .slice none 0 0, .int .i64 0, .slice none 0 0], .agg #[.int .i64 64283, .int .u32 0, .int .u32 0, .int .u64 0, .int .u32 0, .int .u32 0, .int .u64 0, .int .i64 0, .int .i64 0, .bool false, .int .i64 0, .slice none 0 0, .slice none 0 0, .bool false, .slice none 0 0, .slice none 0 0, .slice none 0 0]] w fun en w' => ∃ v, en = .returned v ∧ isFn v ∧ Grew w w' := by
  have N1 : ((w.alloc (.cells #[.slice none 0 0, .slice none 0 0, .slice none 0 0, .slice none 0 0, .slice none 0 0, .slice none 0 0, .slice none 0 0, .int .i64 0, .slice none 0 0] 30)).alloc (.cells #[.int .i64 64283, .int .u32 0, .int .u32 0, .int .u64 0, .int .u32 0, .int .u32 0, .int .u64 0, .int .i64 0, .int .i64 0, .bool false, .int .i64 0, .slice none 0 0, .slice none 0 0, .bool false, .slice none 0 0, .slice none 0 0, .slice none 0 0] 52)).heap[w.heap.size + 1]? = some (.cells #[.int .i64 64283, .int .u32 0, .int .u32 0, .int .u64 0, .int .u32 0, .int .u32 0, .int .u64 0, .int .i64 0, .int .i64 0, .bool false, .int .i64 0, .slice none 0 0, .slice none 0 0, .bool false, .slice none 0 0, .slice none 0 0, .slice none 0 0] 52 (0, 0)) := by
    have := heap_alloc_last (w.alloc (.cells #[.slice none 0 0, .slice none 0 0, .slice none 0 0, .slice none 0 0, .slice none 0 0, .slice none 0 0, .slice none 0 0, .int .i64 0, .slice none 0 0] 30)) (.cells #[.int .i64 64283, .int .u32 0, .int .u32 0, .int .u64 0, .int .u32 0, .int .u32 0, .int .u64 0, .int .i64 0, .int .i64 0, .bool false, .int .i64 0, .slice none 0 0, .slice none 0 0, .bool false, .slice none 0 0, .slice none 0 0, .slice none 0 0] 52)
    rw [alloc_size] at this
    exact this
  have N0 : ((w.alloc (.cells #[.slice none 0 0, .slice none 0 0, .slice none 0 0, .slice none 0 0, .slice none 0 0, .slice none 0 0, .slice none 0 0, .int .i64 0, .slice none 0 0] 30)).alloc (.cells #[.int .i64 64283, .int .u32 0, .int .u32 0, .int .u64 0, .int .u32 0, .int .u32 0, .int .u64 0, .int .i64 0, .int .i64 0, .bool false, .int .i64 0, .slice none 0 0, .slice none 0 0, .bool false, .slice none 0 0, .slice none 0 0, .slice none 0 0] 52)).heap[w.heap.size]? = some (.cells #[.slice none 0 0, .slice none 0 0, .slice none 0 0, .slice none 0 0, .slice none 0 0, .slice none 0 0, .slice none 0 0, .int .i64 0, .slice none 0 0] 30 (0, 0)) := heap_alloc (heap_alloc_last _ _) _
  have HN := Hid.mk' N1
  have HM := Hid.mk' N0
  clear N1 N0
  have CV : Hid (∀ a b X, Calls Tryz.prog 94 #[.int .i64 a, .int .i64 b] X fun en w' => ∃ v, en = .returned v ∧ isFn v ∧ Grew X w') := converts_fn
  have GP : Hid (Grew w w) := Grew.refl w
  go_enter Tryz.func48, Tryz.ntmps48
  go_wp2_with (first
    | (with_reducible refine stop_load 30 rfl ?_
       unfold Stop
       refine wpList_load_row rfl 30 _ rfl (w.heap.size) (by go_simp) 30 #[.slice none 0 0, .slice none 0 0, .slice none 0 0, .slice none 0 0, .slice none 0 0, .slice none 0 0, .slice none 0 0, .int .i64 0, .slice none 0 0] (0, 0) _ HM.out Tryz.underlying30 rfl (by kernel_rfl) ?_)
    | (with_reducible refine stop_load 52 rfl ?_
       unfold Stop
       refine wpList_load_row rfl 52 _ rfl (w.heap.size + 1) (by go_simp) 52 #[.int .i64 64283, .int .u32 0, .int .u32 0, .int .u64 0, .int .u32 0, .int .u32 0, .int .u64 0, .int .i64 0, .int .i64 0, .bool false, .int .i64 0, .slice none 0 0, .slice none 0 0, .bool false, .slice none 0 0, .slice none 0 0, .slice none 0 0] (0, 0) _ HN.out Tryz.underlying52 rfl (by kernel_rfl) ?_)
    | fail)
  repeat (first
    | (with_reducible refine (CV.out _ _ _).mono ?_
       rintro en wn ⟨v, rfl, hv, gn⟩
       have gx : Grew w wn := Grew.trans (by repeat (first | with_reducible exact GP.out | with_reducible exact Grew.refl _ | refine Grew.alloc ?_ _ | refine Grew.set ?_ (by simp) _ | refine Grew.drewN ?_ _ | refine Grew.drew ?_)) gn
       clear GP
       have GP := Hid.mk' gx
       clear gn gx
       obtain ⟨fn, fA, fB, rfl⟩ := hv
       go_wp2_with (first
    | (with_reducible refine stop_load 30 rfl ?_
       unfold Stop
       refine wpList_load_row rfl 30 _ rfl (w.heap.size) (by go_simp) 30 #[.slice none 0 0, .slice none 0 0, .slice none 0 0, .slice none 0 0, .slice none 0 0, .slice none 0 0, .slice none 0 0, .int .i64 0, .slice none 0 0] (0, 0) _ HM.out Tryz.underlying30 rfl (by kernel_rfl) ?_)
    | (with_reducible refine stop_load 52 rfl ?_
       unfold Stop
       refine wpList_load_row rfl 52 _ rfl (w.heap.size + 1) (by go_simp) 52 #[.int .i64 64283, .int .u32 0, .int .u32 0, .int .u64 0, .int .u32 0, .int .u32 0, .int .u64 0, .int .i64 0, .int .i64 0, .bool false, .int .i64 0, .slice none 0 0, .slice none 0 0, .bool false, .slice none 0 0, .slice none 0 0, .slice none 0 0] (0, 0) _ HN.out Tryz.underlying52 rfl (by kernel_rfl) ?_)
    | fail)))
  go_ret
  exact ⟨_, rfl, ⟨_, _, _, rfl⟩, (by repeat (first | with_reducible exact GP.out | with_reducible exact Grew.refl _ | refine Grew.alloc ?_ _ | refine Grew.set ?_ (by simp) _ | refine Grew.drewN ?_ _ | refine Grew.drew ?_))⟩
set_option maxRecDepth 100000 in
set_option maxHeartbeats 2000000 in
theorem sc_64284 (w : World) : Calls Tryz.prog 48 #[.agg #[.slice none 0 0, .slice none 0 0, .slice none 0 0, .slice none 0 0, .slice none 0 0, .slice none 0 0, .slice none 0 0, .int .i64 0, .slice none 0 0], .agg #[.int .i64 64284, .int .u32 0, .int .u32 0, .int .u64 0, .int .u32 0, .int .u32 0, .int .u64 0, .int .i64 0, .int .i64 0, .bool false, .int .i64 0, .slice none 0 0, .slice none 0 0, .bool false, .slice none 0 0, .slice none 0 0, .slice none 0 0]] w fun en w' => ∃ v, en = .returned v ∧ isFn v ∧ Grew w w' := by
  have N1 : ((w.alloc (.cells #[.slice none 0 0, .slice none 0 0, .slice none 0 0, .slice none 0 0, .slice none 0 0, .slice none 0 0, .slice none 0 0, .int .i64 0, .slice none 0 0] 30)).alloc (.cells #[.int .i64 64284, .int .u32 0, .int .u32 0, .int .u64 0, .int .u32 0, .int .u32 0, .int .u64 0, .int .i64 0, .int .i64 0, .bool false, .int .i64 0, .slice none 0 0, .slice none 0 0, .bool false, .slice none 0 0, .slice none 0 0, .slice none 0 0] 52)).heap[w.heap.size + 1]? = some (.cells #[.int .i64 64284, .int .u32 0, .int .u32 0, .int .u64 0, .int .u32 0, .int .u32 0, .int .u64 0, .int .i64 0, .int .i64 0, .bool false, .int .i64 0, .slice none 0 0, .slice none 0 0, .bool false, .slice none 0 0, .slice none 0 0, .slice none 0 0] 52 (0, 0)) := by
    have := heap_alloc_last (w.alloc (.cells #[.slice none 0 0, .slice none 0 0, .slice none 0 0, .slice none 0 0, .slice none 0 0, .slice none 0 0, .slice none 0 0, .int .i64 0, .slice none 0 0] 30)) (.cells #[.int .i64 64284, .int .u32 0, .int .u32 0, .int .u64 0, .int .u32 0, .int .u32 0, .int .u64 0, .int .i64 0, .int .i64 0, .bool false, .int .i64 0, .slice none 0 0, .slice none 0 0, .bool false, .slice none 0 0, .slice none 0 0, .slice none 0 0] 52)
    rw [alloc_size] at this
    exact this
  have N0 : ((w.alloc (.cells #[.slice none 0 0, .slice none 0 0, .slice none 0 0, .slice none 0 0, .slice none 0 0, .slice none 0 0, .slice none 0 0, .int .i64 0, .slice none 0 0] 30)).alloc (.cells #[.int .i64 64284, .int .u32 0, .int .u32 0, .int .u64 0, .int .u32 0, .int .u32 0, .int .u64 0, .int .i64 0, .int .i64 0, .bool false, .int .i64 0, .slice none 0 0, .slice none 0 0, .bool false, .slice none 0 0, .slice none 0 0, .slice none 0 0] 52)).heap[w.heap.size]? = some (.cells #[.slice none 0 0, .slice none 0 0, .slice none 0 0, .slice none 0 0, .slice none 0 0, .slice none 0 0, .slice none 0 0, .int .i64 0, .slice none 0 0] 30 (0, 0)) := heap_alloc (heap_alloc_last _ _) _
  have HN := Hid.mk' N1
  have HM := Hid.mk' N0
  clear N1 N0
  have CA : Hid (∀ b h X, Calls Tryz.prog 33 #[.bool b, .int .i64 h] X fun en w' => en = .returned (.agg #[.int .i64 5, .bool b, .int .i64 h]) ∧ Grew X w') := abs_any
  have CL : Hid (∀ v X, Calls Tryz.prog 32 #[v] X fun en w' => en = .returned v ∧ Grew X w') := ql_any
  have C3 : Hid (∀ X, Calls Tryz.prog 34 #[] X fun en w' => en = .returned (.agg #[.int .i64 1, .bool false, .int .i64 0]) ∧ Grew X w') := q32_any
  have CS : Hid (∀ a1 a2 l1 l2 c1 c2 X, Calls Tryz.prog 31 #[.slice a1 l1 c1, .slice a2 l2 c2] X fun en w' => ∃ v, en = .returned v ∧ isFn v ∧ Grew X w') := swaps_fn
  have GP : Hid (Grew w w) := Grew.refl w
  go_enter Tryz.func48, Tryz.ntmps48
  go_wp2_with (first
    | (with_reducible refine stop_load 30 rfl ?_
       unfold Stop
       refine wpList_load_row rfl 30 _ rfl (w.heap.size) (by go_simp) 30 #[.slice none 0 0, .slice none 0 0, .slice none 0 0, .slice none 0 0, .slice none 0 0, .slice none 0 0, .slice none 0 0, .int .i64 0, .slice none 0 0] (0, 0) _ HM.out Tryz.underlying30 rfl (by kernel_rfl) ?_)
    | (with_reducible refine stop_load 52 rfl ?_
       unfold Stop
       refine wpList_load_row rfl 52 _ rfl (w.heap.size + 1) (by go_simp) 52 #[.int .i64 64284, .int .u32 0, .int .u32 0, .int .u64 0, .int .u32 0, .int .u32 0, .int .u64 0, .int .i64 0, .int .i64 0, .bool false, .int .i64 0, .slice none 0 0, .slice none 0 0, .bool false, .slice none 0 0, .slice none 0 0, .slice none 0 0] (0, 0) _ HN.out Tryz.underlying52 rfl (by kernel_rfl) ?_)
    | fail)
  repeat (first
    | (with_reducible refine (CA.out _ _ _).mono ?_
       rintro en wn ⟨rfl, gn⟩
       have gx : Grew w wn := Grew.trans (by repeat (first | with_reducible exact GP.out | with_reducible exact Grew.refl _ | refine Grew.alloc ?_ _ | refine Grew.set ?_ (by simp) _ | refine Grew.drewN ?_ _ | refine Grew.drew ?_)) gn
       clear GP
       have GP := Hid.mk' gx
       clear gn gx
       go_wp2_with (first
    | (with_reducible refine stop_load 30 rfl ?_
       unfold Stop
       refine wpList_load_row rfl 30 _ rfl (w.heap.size) (by go_simp) 30 #[.slice none 0 0, .slice none 0 0, .slice none 0 0, .slice none 0 0, .slice none 0 0, .slice none 0 0, .slice none 0 0, .int .i64 0, .slice none 0 0] (0, 0) _ HM.out Tryz.underlying30 rfl (by kernel_rfl) ?_)
    | (with_reducible refine stop_load 52 rfl ?_
       unfold Stop
       refine wpList_load_row rfl 52 _ rfl (w.heap.size + 1) (by go_simp) 52 #[.int .i64 64284, .int .u32 0, .int .u32 0, .int .u64 0, .int .u32 0, .int .u32 0, .int .u64 0, .int .i64 0, .int .i64 0, .bool false, .int .i64 0, .slice none 0 0, .slice none 0 0, .bool false, .slice none 0 0, .slice none 0 0, .slice none 0 0] (0, 0) _ HN.out Tryz.underlying52 rfl (by kernel_rfl) ?_)
    | fail))
    | (with_reducible refine (CL.out _ _).mono ?_
       rintro en wn ⟨rfl, gn⟩
       have gx : Grew w wn := Grew.trans (by repeat (first | with_reducible exact GP.out | with_reducible exact Grew.refl _ | refine Grew.alloc ?_ _ | refine Grew.set ?_ (by simp) _ | refine Grew.drewN ?_ _ | refine Grew.drew ?_)) gn
       clear GP
       have GP := Hid.mk' gx
       clear gn gx
       go_wp2_with (first
    | (with_reducible refine stop_load 30 rfl ?_
       unfold Stop
       refine wpList_load_row rfl 30 _ rfl (w.heap.size) (by go_simp) 30 #[.slice none 0 0, .slice none 0 0, .slice none 0 0, .slice none 0 0, .slice none 0 0, .slice none 0 0, .slice none 0 0, .int .i64 0, .slice none 0 0] (0, 0) _ HM.out Tryz.underlying30 rfl (by kernel_rfl) ?_)
    | (with_reducible refine stop_load 52 rfl ?_
       unfold Stop
       refine wpList_load_row rfl 52 _ rfl (w.heap.size + 1) (by go_simp) 52 #[.int .i64 64284, .int .u32 0, .int .u32 0, .int .u64 0, .int .u32 0, .int .u32 0, .int .u64 0, .int .i64 0, .int .i64 0, .bool false, .int .i64 0, .slice none 0 0, .slice none 0 0, .bool false, .slice none 0 0, .slice none 0 0, .slice none 0 0] (0, 0) _ HN.out Tryz.underlying52 rfl (by kernel_rfl) ?_)
    | fail))
    | (with_reducible refine (C3.out _).mono ?_
       rintro en wn ⟨rfl, gn⟩
       have gx : Grew w wn := Grew.trans (by repeat (first | with_reducible exact GP.out | with_reducible exact Grew.refl _ | refine Grew.alloc ?_ _ | refine Grew.set ?_ (by simp) _ | refine Grew.drewN ?_ _ | refine Grew.drew ?_)) gn
       clear GP
       have GP := Hid.mk' gx
       clear gn gx
       go_wp2_with (first
    | (with_reducible refine stop_load 30 rfl ?_
       unfold Stop
       refine wpList_load_row rfl 30 _ rfl (w.heap.size) (by go_simp) 30 #[.slice none 0 0, .slice none 0 0, .slice none 0 0, .slice none 0 0, .slice none 0 0, .slice none 0 0, .slice none 0 0, .int .i64 0, .slice none 0 0] (0, 0) _ HM.out Tryz.underlying30 rfl (by kernel_rfl) ?_)
    | (with_reducible refine stop_load 52 rfl ?_
       unfold Stop
       refine wpList_load_row rfl 52 _ rfl (w.heap.size + 1) (by go_simp) 52 #[.int .i64 64284, .int .u32 0, .int .u32 0, .int .u64 0, .int .u32 0, .int .u32 0, .int .u64 0, .int .i64 0, .int .i64 0, .bool false, .int .i64 0, .slice none 0 0, .slice none 0 0, .bool false, .slice none 0 0, .slice none 0 0, .slice none 0 0] (0, 0) _ HN.out Tryz.underlying52 rfl (by kernel_rfl) ?_)
    | fail))
    | (with_reducible refine (CS.out _ _ _ _ _ _ _).mono ?_
       rintro en wn ⟨v, rfl, hv, gn⟩
       have gx : Grew w wn := Grew.trans (by repeat (first | with_reducible exact GP.out | with_reducible exact Grew.refl _ | refine Grew.alloc ?_ _ | refine Grew.set ?_ (by simp) _ | refine Grew.drewN ?_ _ | refine Grew.drew ?_)) gn
       clear GP
       have GP := Hid.mk' gx
       clear gn gx
       obtain ⟨fn, fA, fB, rfl⟩ := hv
       go_wp2_with (first
    | (with_reducible refine stop_load 30 rfl ?_
       unfold Stop
       refine wpList_load_row rfl 30 _ rfl (w.heap.size) (by go_simp) 30 #[.slice none 0 0, .slice none 0 0, .slice none 0 0, .slice none 0 0, .slice none 0 0, .slice none 0 0, .slice none 0 0, .int .i64 0, .slice none 0 0] (0, 0) _ HM.out Tryz.underlying30 rfl (by kernel_rfl) ?_)
    | (with_reducible refine stop_load 52 rfl ?_
       unfold Stop
       refine wpList_load_row rfl 52 _ rfl (w.heap.size + 1) (by go_simp) 52 #[.int .i64 64284, .int .u32 0, .int .u32 0, .int .u64 0, .int .u32 0, .int .u32 0, .int .u64 0, .int .i64 0, .int .i64 0, .bool false, .int .i64 0, .slice none 0 0, .slice none 0 0, .bool false, .slice none 0 0, .slice none 0 0, .slice none 0 0] (0, 0) _ HN.out Tryz.underlying52 rfl (by kernel_rfl) ?_)
    | fail)))
  go_ret
  exact ⟨_, rfl, ⟨_, _, _, rfl⟩, (by repeat (first | with_reducible exact GP.out | with_reducible exact Grew.refl _ | refine Grew.alloc ?_ _ | refine Grew.set ?_ (by simp) _ | refine Grew.drewN ?_ _ | refine Grew.drew ?_))⟩
set_option maxRecDepth 100000 in
set_option maxHeartbeats 2000000 in
theorem sc_64285 (w : World) : Calls Tryz.prog 48 #[.agg #[.slice none 0 0, .slice none 0 0, .slice none 0 0, .slice none 0 0, .slice none 0 0, .slice none 0 0, .slice none 0 0, .int .i64 0, .slice none 0 0], .agg #[.int .i64 64285, .int .u32 0, .int .u32 0, .int .u64 0, .int .u32 0, .int .u32 0, .int .u64 0, .int .i64 0, .int .i64 0, .bool false, .int .i64 0, .slice none 0 0, .slice none 0 0, .bool false, .slice none 0 0, .slice none 0 0, .slice none 0 0]] w fun en w' => ∃ v, en = .returned v ∧ isFn v ∧ Grew w w' := by
  have N1 : ((w.alloc (.cells #[.slice none 0 0, .slice none 0 0, .slice none 0 0, .slice none 0 0, .slice none 0 0, .slice none 0 0, .slice none 0 0, .int .i64 0, .slice none 0 0] 30)).alloc (.cells #[.int .i64 64285, .int .u32 0, .int .u32 0, .int .u64 0, .int .u32 0, .int .u32 0, .int .u64 0, .int .i64 0, .int .i64 0, .bool false, .int .i64 0, .slice none 0 0, .slice none 0 0, .bool false, .slice none 0 0, .slice none 0 0, .slice none 0 0] 52)).heap[w.heap.size + 1]? = some (.cells #[.int .i64 64285, .int .u32 0, .int .u32 0, .int .u64 0, .int .u32 0, .int .u32 0, .int .u64 0, .int .i64 0, .int .i64 0, .bool false, .int .i64 0, .slice none 0 0, .slice none 0 0, .bool false, .slice none 0 0, .slice none 0 0, .slice none 0 0] 52 (0, 0)) := by
    have := heap_alloc_last (w.alloc (.cells #[.slice none 0 0, .slice none 0 0, .slice none 0 0, .slice none 0 0, .slice none 0 0, .slice none 0 0, .slice none 0 0, .int .i64 0, .slice none 0 0] 30)) (.cells #[.int .i64 64285, .int .u32 0, .int .u32 0, .int .u64 0, .int .u32 0, .int .u32 0, .int .u64 0, .int .i64 0, .int .i64 0, .bool false, .int .i64 0, .slice none 0 0, .slice none 0 0, .bool false, .slice none 0 0, .slice none 0 0, .slice none 0 0] 52)
    rw [alloc_size] at this
    exact this
  have N0 : ((w.alloc (.cells #[.slice none 0 0, .slice none 0 0, .slice none 0 0, .slice none 0 0, .slice none 0 0, .slice none 0 0, .slice none 0 0, .int .i64 0, .slice none 0 0] 30)).alloc (.cells #[.int .i64 64285, .int .u32 0, .int .u32 0, .int .u64 0, .int .u32 0, .int .u32 0, .int .u64 0, .int .i64 0, .int .i64 0, .bool false, .int .i64 0, .slice none 0 0, .slice none 0 0, .bool false, .slice none 0 0, .slice none 0 0, .slice none 0 0] 52)).heap[w.heap.size]? = some (.cells #[.slice none 0 0, .slice none 0 0, .slice none 0 0, .slice none 0 0, .slice none 0 0, .slice none 0 0, .slice none 0 0, .int .i64 0, .slice none 0 0] 30 (0, 0)) := heap_alloc (heap_alloc_last _ _) _
  have HN := Hid.mk' N1
  have HM := Hid.mk' N0
  clear N1 N0
  have CA : Hid (∀ b h X, Calls Tryz.prog 33 #[.bool b, .int .i64 h] X fun en w' => en = .returned (.agg #[.int .i64 5, .bool b, .int .i64 h]) ∧ Grew X w') := abs_any
  have CL : Hid (∀ v X, Calls Tryz.prog 32 #[v] X fun en w' => en = .returned v ∧ Grew X w') := ql_any
  have C3 : Hid (∀ X, Calls Tryz.prog 34 #[] X fun en w' => en = .returned (.agg #[.int .i64 1, .bool false, .int .i64 0]) ∧ Grew X w') := q32_any
  have CS : Hid (∀ a1 a2 l1 l2 c1 c2 X, Calls Tryz.prog 31 #[.slice a1 l1 c1, .slice a2 l2 c2] X fun en w' => ∃ v, en = .returned v ∧ isFn v ∧ Grew X w') := swaps_fn
  have GP : Hid (Grew w w) := Grew.refl w
  go_enter Tryz.func48, Tryz.ntmps48
  go_wp2_with (first
    | (with_reducible refine stop_load 30 rfl ?_
       unfold Stop
       refine wpList_load_row rfl 30 _ rfl (w.heap.size) (by go_simp) 30 #[.slice none 0 0, .slice none 0 0, .slice none 0 0, .slice none 0 0, .slice none 0 0, .slice none 0 0, .slice none 0 0, .int .i64 0, .slice none 0 0] (0, 0) _ HM.out Tryz.underlying30 rfl (by kernel_rfl) ?_)
    | (with_reducible refine stop_load 52 rfl ?_
       unfold Stop
       refine wpList_load_row rfl 52 _ rfl (w.heap.size + 1) (by go_simp) 52 #[.int .i64 64285, .int .u32 0, .int .u32 0, .int .u64 0, .int .u32 0, .int .u32 0, .int .u64 0, .int .i64 0, .int .i64 0, .bool false, .int .i64 0, .slice none 0 0, .slice none 0 0, .bool false, .slice none 0 0, .slice none 0 0, .slice none 0 0] (0, 0) _ HN.out Tryz.underlying52 rfl (by kernel_rfl) ?_)
    | fail)
  repeat (first
    | (with_reducible refine (CA.out _ _ _).mono ?_
       rintro en wn ⟨rfl, gn⟩
       have gx : Grew w wn := Grew.trans (by repeat (first | with_reducible exact GP.out | with_reducible exact Grew.refl _ | refine Grew.alloc ?_ _ | refine Grew.set ?_ (by simp) _ | refine Grew.drewN ?_ _ | refine Grew.drew ?_)) gn
       clear GP
       have GP := Hid.mk' gx
       clear gn gx
       go_wp2_with (first
    | (with_reducible refine stop_load 30 rfl ?_
       unfold Stop
       refine wpList_load_row rfl 30 _ rfl (w.heap.size) (by go_simp) 30 #[.slice none 0 0, .slice none 0 0, .slice none 0 0, .slice none 0 0, .slice none 0 0, .slice none 0 0, .slice none 0 0, .int .i64 0, .slice none 0 0] (0, 0) _ HM.out Tryz.underlying30 rfl (by kernel_rfl) ?_)
    | (with_reducible refine stop_load 52 rfl ?_
       unfold Stop
       refine wpList_load_row rfl 52 _ rfl (w.heap.size + 1) (by go_simp) 52 #[.int .i64 64285, .int .u32 0, .int .u32 0, .int .u64 0, .int .u32 0, .int .u32 0, .int .u64 0, .int .i64 0, .int .i64 0, .bool false, .int .i64 0, .slice none 0 0, .slice none 0 0, .bool false, .slice none 0 0, .slice none 0 0, .slice none 0 0] (0, 0) _ HN.out Tryz.underlying52 rfl (by kernel_rfl) ?_)
    | fail))
    | (with_reducible refine (CL.out _ _).mono ?_
       rintro en wn ⟨rfl, gn⟩
       have gx : Grew w wn := Grew.trans (by repeat (first | with_reducible exact GP.out | with_reducible exact Grew.refl _ | refine Grew.alloc ?_ _ | refine Grew.set ?_ (by simp) _ | refine Grew.drewN ?_ _ | refine Grew.drew ?_)) gn
       clear GP
       have GP := Hid.mk' gx
       clear gn gx
       go_wp2_with (first
    | (with_reducible refine stop_load 30 rfl ?_
       unfold Stop
       refine wpList_load_row rfl 30 _ rfl (w.heap.size) (by go_simp) 30 #[.slice none 0 0, .slice none 0 0, .slice none 0 0, .slice none 0 0, .slice none 0 0, .slice none 0 0, .slice none 0 0, .int .i64 0, .slice none 0 0] (0, 0) _ HM.out Tryz.underlying30 rfl (by kernel_rfl) ?_)
    | (with_reducible refine stop_load 52 rfl ?_
       unfold Stop
       refine wpList_load_row rfl 52 _ rfl (w.heap.size + 1) (by go_simp) 52 #[.int .i64 64285, .int .u32 0, .int .u32 0, .int .u64 0, .int .u32 0, .int .u32 0, .int .u64 0, .int .i64 0, .int .i64 0, .bool false, .int .i64 0, .slice none 0 0, .slice none 0 0, .bool false, .slice none 0 0, .slice none 0 0, .slice none 0 0] (0, 0) _ HN.out Tryz.underlying52 rfl (by kernel_rfl) ?_)
    | fail))
    | (with_reducible refine (C3.out _).mono ?_
       rintro en wn ⟨rfl, gn⟩
       have gx : Grew w wn := Grew.trans (by repeat (first | with_reducible exact GP.out | with_reducible exact Grew.refl _ | refine Grew.alloc ?_ _ | refine Grew.set ?_ (by simp) _ | refine Grew.drewN ?_ _ | refine Grew.drew ?_)) gn
       clear GP
       have GP := Hid.mk' gx
       clear gn gx
       go_wp2_with (first
    | (with_reducible refine stop_load 30 rfl ?_
       unfold Stop
       refine wpList_load_row rfl 30 _ rfl (w.heap.size) (by go_simp) 30 #[.slice none 0 0, .slice none 0 0, .slice none 0 0, .slice none 0 0, .slice none 0 0, .slice none 0 0, .slice none 0 0, .int .i64 0, .slice none 0 0] (0, 0) _ HM.out Tryz.underlying30 rfl (by kernel_rfl) ?_)
    | (with_reducible refine stop_load 52 rfl ?_
       unfold Stop
       refine wpList_load_row rfl 52 _ rfl (w.heap.size + 1) (by go_simp) 52 #[.int .i64 64285, .int .u32 0, .int .u32 0, .int .u64 0, .int .u32 0, .int .u32 0, .int .u64 0, .int .i64 0, .int .i64 0, .bool false, .int .i64 0, .slice none 0 0, .slice none 0 0, .bool false, .slice none 0 0, .slice none 0 0, .slice none 0 0] (0, 0) _ HN.out Tryz.underlying52 rfl (by kernel_rfl) ?_)
    | fail))
    | (with_reducible refine (CS.out _ _ _ _ _ _ _).mono ?_
       rintro en wn ⟨v, rfl, hv, gn⟩
       have gx : Grew w wn := Grew.trans (by repeat (first | with_reducible exact GP.out | with_reducible exact Grew.refl _ | refine Grew.alloc ?_ _ | refine Grew.set ?_ (by simp) _ | refine Grew.drewN ?_ _ | refine Grew.drew ?_)) gn
       clear GP
       have GP := Hid.mk' gx
       clear gn gx
       obtain ⟨fn, fA, fB, rfl⟩ := hv
       go_wp2_with (first
    | (with_reducible refine stop_load 30 rfl ?_
       unfold Stop
       refine wpList_load_row rfl 30 _ rfl (w.heap.size) (by go_simp) 30 #[.slice none 0 0, .slice none 0 0, .slice none 0 0, .slice none 0 0, .slice none 0 0, .slice none 0 0, .slice none 0 0, .int .i64 0, .slice none 0 0] (0, 0) _ HM.out Tryz.underlying30 rfl (by kernel_rfl) ?_)
    | (with_reducible refine stop_load 52 rfl ?_
       unfold Stop
       refine wpList_load_row rfl 52 _ rfl (w.heap.size + 1) (by go_simp) 52 #[.int .i64 64285, .int .u32 0, .int .u32 0, .int .u64 0, .int .u32 0, .int .u32 0, .int .u64 0, .int .i64 0, .int .i64 0, .bool false, .int .i64 0, .slice none 0 0, .slice none 0 0, .bool false, .slice none 0 0, .slice none 0 0, .slice none 0 0] (0, 0) _ HN.out Tryz.underlying52 rfl (by kernel_rfl) ?_)
    | fail)))
  go_ret
  exact ⟨_, rfl, ⟨_, _, _, rfl⟩, (by repeat (first | with_reducible exact GP.out | with_reducible exact Grew.refl _ | refine Grew.alloc ?_ _ | refine Grew.set ?_ (by simp) _ | refine Grew.drewN ?_ _ | refine Grew.drew ?_))⟩
set_option maxRecDepth 100000 in
set_option maxHeartbeats 2000000 in
theorem sc_64286 (w : World) : Calls Tryz.prog 48 #[.agg #[.slice none 0 0, .slice none 0 0, .slice none 0 0, .slice none 0 0, .slice none 0 0, .slice none 0 0, .slice none 0 0, .int .i64 0, .slice none 0 0], .agg #[.int .i64 64286, .int .u32 0, .int .u32 0, .int .u64 0, .int .u32 0, .int .u32 0, .int .u64 0, .int .i64 0, .int .i64 0, .bool false, .int .i64 0, .slice none 0 0, .slice none 0 0, .bool false, .slice none 0 0, .slice none 0 0, .slice none 0 0]] w fun en w' => ∃ v, en = .returned v ∧ isFn v ∧ Grew w w' := by
  have N1 : ((w.alloc (.cells #[.slice none 0 0, .slice none 0 0, .slice none 0 0, .slice none 0 0, .slice none 0 0, .slice none 0 0, .slice none 0 0, .int .i64 0, .slice none 0 0] 30)).alloc (.cells #[.int .i64 64286, .int .u32 0, .int .u32 0, .int .u64 0, .int .u32 0, .int .u32 0, .int .u64 0, .int .i64 0, .int .i64 0, .bool false, .int .i64 0, .slice none 0 0, .slice none 0 0, .bool false, .slice none 0 0, .slice none 0 0, .slice none 0 0] 52)).heap[w.heap.size + 1]? = some (.cells #[.int .i64 64286, .int .u32 0, .int .u32 0, .int .u64 0, .int .u32 0, .int .u32 0, .int .u64 0, .int .i64 0, .int .i64 0, .bool false, .int .i64 0, .slice none 0 0, .slice none 0 0, .bool false, .slice none 0 0, .slice none 0 0, .slice none 0 0] 52 (0, 0)) := by
    have := heap_alloc_last (w.alloc (.cells #[.slice none 0 0, .slice none 0 0, .slice none 0 0, .slice none 0 0, .slice none 0 0, .slice none 0 0, .slice none 0 0, .int .i64 0, .slice none 0 0] 30)) (.cells #[.int .i64 64286, .int .u32 0, .int .u32 0, .int .u64 0, .int .u32 0, .int .u32 0, .int .u64 0, .int .i64 0, .int .i64 0, .bool false, .int .i64 0, .slice none 0 0, .slice none 0 0, .bool false, .slice none 0 0, .slice none 0 0, .slice none 0 0] 52)
    rw [alloc_size] at this
    exact this
  have N0 : ((w.alloc (.cells #[.slice none 0 0, .slice none 0 0, .slice none 0 0, .slice none 0 0, .slice none 0 0, .slice none 0 0, .slice none 0 0, .int .i64 0, .slice none 0 0] 30)).alloc (.cells #[.int .i64 64286, .int .u32 0, .int .u32 0, .int .u64 0, .int .u32 0, .int .u32 0, .int .u64 0, .int .i64 0, .int .i64 0, .bool false, .int .i64 0, .slice none 0 0, .slice none 0 0, .bool false, .slice none 0 0, .slice none 0 0, .slice none 0 0] 52)).heap[w.heap.size]? = some (.cells #[.slice none 0 0, .slice none 0 0, .slice none 0 0, .slice none 0 0, .slice none 0 0, .slice none 0 0, .slice none 0 0, .int .i64 0, .slice none 0 0] 30 (0, 0)) := heap_alloc (heap_alloc_last _ _) _
  have HN := Hid.mk' N1
  have HM := Hid.mk' N0
  clear N1 N0
  have CA : Hid (∀ b h X, Calls Tryz.prog 33 #[.bool b, .int .i64 h] X fun en w' => en = .returned (.agg #[.int .i64 5, .bool b, .int .i64 h]) ∧ Grew X w') := abs_any
  have CL : Hid (∀ v X, Calls Tryz.prog 32 #[v] X fun en w' => en = .returned v ∧ Grew X w') := ql_any
  have C3 : Hid (∀ X, Calls Tryz.prog 34 #[] X fun en w' => en = .returned (.agg #[.int .i64 1, .bool false, .int .i64 0]) ∧ Grew X w') := q32_any
  have CS : Hid (∀ a1 a2 l1 l2 c1 c2 X, Calls Tryz.prog 31 #[.slice a1 l1 c1, .slice a2 l2 c2] X fun en w' => ∃ v, en = .returned v ∧ isFn v ∧ Grew X w') := swaps_fn
  have GP : Hid (Grew w w) := Grew.refl w
  go_enter Tryz.func48, Tryz.ntmps48
  go_wp2_with (first
    | (with_reducible refine stop_load 30 rfl ?_
       unfold Stop
       refine wpList_load_row rfl 30 _ rfl (w.heap.size) (by go_simp) 30 #[.slice none 0 0, .slice none 0 0, .slice none 0 0, .slice none 0 0, .slice none 0 0, .slice none 0 0, .slice none 0 0, .int .i64 0, .slice none 0 0] (0, 0) _ HM.out Tryz.underlying30 rfl (by kernel_rfl) ?_)
    | (with_reducible refine stop_load 52 rfl ?_
       unfold Stop
       refine wpList_load_row rfl 52 _ rfl (w.heap.size + 1) (by go_simp) 52 #[.int .i64 64286, .int .u32 0, .int .u32 0, .int .u64 0, .int .u32 0, .int .u32 0, .int .u64 0, .int .i64 0, .int .i64 0, .bool false, .int .i64 0, .slice none 0 0, .slice none 0 0, .bool false, .slice none 0 0, .slice none 0 0, .slice none 0 0] (0, 0) _ HN.out Tryz.underlying52 rfl (by kernel_rfl) ?_)
    | fail)
  repeat (first
    | (with_reducible refine (CA.out _ _ _).mono ?_
       rintro en wn ⟨rfl, gn⟩
       have gx : Grew w wn := Grew.trans (by repeat (first | with_reducible exact GP.out | with_reducible exact Grew.refl _ | refine Grew.alloc ?_ _ | refine Grew.set ?_ (by simp) _ | refine Grew.drewN ?_ _ | refine Grew.drew ?_)) gn
       clear GP
       have GP := Hid.mk' gx
       clear gn gx
       go_wp2_with (first
    | (with_reducible refine stop_load 30 rfl ?_
       unfold Stop
       refine wpList_load_row rfl 30 _ rfl (w.heap.size) (by go_simp) 30 #[.slice none 0 0, .slice none 0 0, .slice none 0 0, .slice none 0 0, .slice none 0 0, .slice none 0 0, .slice none 0 0, .int .i64 0, .slice none 0 0] (0, 0) _ HM.out Tryz.underlying30 rfl (by kernel_rfl) ?_)
    | (with_reducible refine stop_load 52 rfl ?_
       unfold Stop
       refine wpList_load_row rfl 52 _ rfl (w.heap.size + 1) (by go_simp) 52 #[.int .i64 64286, .int .u32 0, .int .u32 0, .int .u64 0, .int .u32 0, .int .u32 0, .int .u64 0, .int .i64 0, .int .i64 0, .bool false, .int .i64 0, .slice none 0 0, .slice none 0 0, .bool false, .slice none 0 0, .slice none 0 0, .slice none 0 0] (0, 0) _ HN.out Tryz.underlying52 rfl (by kernel_rfl) ?_)
    | fail))
    | (with_reducible refine (CL.out _ _).mono ?_
       rintro en wn ⟨rfl, gn⟩
       have gx : Grew w wn := Grew.trans (by repeat (first | with_reducible exact GP.out | with_reducible exact Grew.refl _ | refine Grew.alloc ?_ _ | refine Grew.set ?_ (by simp) _ | refine Grew.drewN ?_ _ | refine Grew.drew ?_)) gn
       clear GP
       have GP := Hid.mk' gx
       clear gn gx
       go_wp2_with (first
    | (with_reducible refine stop_load 30 rfl ?_
       unfold Stop
       refine wpList_load_row rfl 30 _ rfl (w.heap.size) (by go_simp) 30 #[.slice none 0 0, .slice none 0 0, .slice none 0 0, .slice none 0 0, .slice none 0 0, .slice none 0 0, .slice none 0 0, .int .i64 0, .slice none 0 0] (0, 0) _ HM.out Tryz.underlying30 rfl (by kernel_rfl) ?_)
    | (with_reducible refine stop_load 52 rfl ?_
       unfold Stop
       refine wpList_load_row rfl 52 _ rfl (w.heap.size + 1) (by go_simp) 52 #[.int .i64 64286, .int .u32 0, .int .u32 0, .int .u64 0, .int .u32 0, .int .u32 0, .int .u64 0, .int .i64 0, .int .i64 0, .bool false, .int .i64 0, .slice none 0 0, .slice none 0 0, .bool false, .slice none 0 0, .slice none 0 0, .slice none 0 0] (0, 0) _ HN.out Tryz.underlying52 rfl (by kernel_rfl) ?_)
    | fail))
    | (with_reducible refine (C3.out _).mono ?_
       rintro en wn ⟨rfl, gn⟩
       have gx : Grew w wn := Grew.trans (by repeat (first | with_reducible exact GP.out | with_reducible exact Grew.refl _ | refine Grew.alloc ?_ _ | refine Grew.set ?_ (by simp) _ | refine Grew.drewN ?_ _ | refine Grew.drew ?_)) gn
       clear GP
       have GP := Hid.mk' gx
       clear gn gx
       go_wp2_with (first
    | (with_reducible refine stop_load 30 rfl ?_
       unfold Stop
       refine wpList_load_row rfl 30 _ rfl (w.heap.size) (by go_simp) 30 #[.slice none 0 0, .slice none 0 0, .slice none 0 0, .slice none 0 0, .slice none 0 0, .slice none 0 0, .slice none 0 0, .int .i64 0, .slice none 0 0] (0, 0) _ HM.out Tryz.underlying30 rfl (by kernel_rfl) ?_)
    | (with_reducible refine stop_load 52 rfl ?_
       unfold Stop
       refine wpList_load_row rfl 52 _ rfl (w.heap.size + 1) (by go_simp) 52 #[.int .i64 64286, .int .u32 0, .int .u32 0, .int .u64 0, .int .u32 0, .int .u32 0, .int .u64 0, .int .i64 0, .int .i64 0, .bool false, .int .i64 0, .slice none 0 0, .slice none 0 0, .bool false, .slice none 0 0, .slice none 0 0, .slice none 0 0] (0, 0) _ HN.out Tryz.underlying52 rfl (by kernel_rfl) ?_)
    | fail))
    | (with_reducible refine (CS.out _ _ _ _ _ _ _).mono ?_
       rintro en wn ⟨v, rfl, hv, gn⟩
       have gx : Grew w wn := Grew.trans (by repeat (first | with_reducible exact GP.out | with_reducible exact Grew.refl _ | refine Grew.alloc ?_ _ | refine Grew.set ?_ (by simp) _ | refine Grew.drewN ?_ _ | refine Grew.drew ?_)) gn
       clear GP
       have GP := Hid.mk' gx
       clear gn gx
       obtain ⟨fn, fA, fB, rfl⟩ := hv
       go_wp2_with (first
    | (with_reducible refine stop_load 30 rfl ?_
       unfold Stop
       refine wpList_load_row rfl 30 _ rfl (w.heap.size) (by go_simp) 30 #[.slice none 0 0, .slice none 0 0, .slice none 0 0, .slice none 0 0, .slice none 0 0, .slice none 0 0, .slice none 0 0, .int .i64 0, .slice none 0 0] (0, 0) _ HM.out Tryz.underlying30 rfl (by kernel_rfl) ?_)
    | (with_reducible refine stop_load 52 rfl ?_
       unfold Stop
       refine wpList_load_row rfl 52 _ rfl (w.heap.size + 1) (by go_simp) 52 #[.int .i64 64286, .int .u32 0, .int .u32 0, .int .u64 0, .int .u32 0, .int .u32 0, .int .u64 0, .int .i64 0, .int .i64 0, .bool false, .int .i64 0, .slice none 0 0, .slice none 0 0, .bool false, .slice none 0 0, .slice none 0 0, .slice none 0 0] (0, 0) _ HN.out Tryz.underlying52 rfl (by kernel_rfl) ?_)
    | fail)))
  go_ret
  exact ⟨_, rfl, ⟨_, _, _, rfl⟩, (by repeat (first | with_reducible exact GP.out | with_reducible exact Grew.refl _ | refine Grew.alloc ?_ _ | refine Grew.set ?_ (by simp) _ | refine Grew.drewN ?_ _ | refine Grew.drew ?_))⟩
set_option maxRecDepth 100000 in
set_option maxHeartbeats 2000000 in
theorem so_64276 (w : World) : Calls Tryz.prog 16 #[.agg #[.slice none 0 0, .slice none 0 0, .slice none 0 0, .slice none 0 0, .slice none 0 0, .slice none 0 0, .slice none 0 0, .int .i64 0, .slice none 0 0], .agg #[.int .i64 64276, .int .u32 0, .int .u32 0, .int .u64 0, .int .u32 0, .int .u32 0, .int .u64 0, .int .i64 0, .int .i64 0, .bool false, .int .i64 0, .slice none 0 0, .slice none 0 0, .bool false, .slice none 0 0, .slice none 0 0, .slice none 0 0]] w fun en w' => ∃ v, en = .returned v ∧ isFn v ∧ Grew w w' := by
  have N1 : ((w.alloc (.cells #[.slice none 0 0, .slice none 0 0, .slice none 0 0, .slice none 0 0, .slice none 0 0, .slice none 0 0, .slice none 0 0, .int .i64 0, .slice none 0 0] 30)).alloc (.cells #[.int .i64 64276, .int .u32 0, .int .u32 0, .int .u64 0, .int .u32 0, .int .u32 0, .int .u64 0, .int .i64 0, .int .i64 0, .bool false, .int .i64 0, .slice none 0 0, .slice none 0 0, .bool false, .slice none 0 0, .slice none 0 0, .slice none 0 0] 52)).heap[w.heap.size + 1]? = some (.cells #[.int .i64 64276, .int .u32 0, .int .u32 0, .int .u64 0, .int .u32 0, .int .u32 0, .int .u64 0, .int .i64 0, .int .i64 0, .bool false, .int .i64 0, .slice none 0 0, .slice none 0 0, .bool false, .slice none 0 0, .slice none 0 0, .slice none 0 0] 52 (0, 0)) := by
    have := heap_alloc_last (w.alloc (.cells #[.slice none 0 0, .slice none 0 0, .slice none 0 0, .slice none 0 0, .slice none 0 0, .slice none 0 0, .slice none 0 0, .int .i64 0, .slice none 0 0] 30)) (.cells #[.int .i64 64276, .int .u32 0, .int .u32 0, .int .u64 0, .int .u32 0, .int .u32 0, .int .u64 0, .int .i64 0, .int .i64 0, .bool false, .int .i64 0, .slice none 0 0, .slice none 0 0, .bool false, .slice none 0 0, .slice none 0 0, .slice none 0 0] 52)
    rw [alloc_size] at this
    exact this
  have N0 : ((w.alloc (.cells #[.slice none 0 0, .slice none 0 0, .slice none 0 0, .slice none 0 0, .slice none 0 0, .slice none 0 0, .slice none 0 0, .int .i64 0, .slice none 0 0] 30)).alloc (.cells #[.int .i64 64276, .int .u32 0, .int .u32 0, .int .u64 0, .int .u32 0, .int .u32 0, .int .u64 0, .int .i64 0, .int .i64 0, .bool false, .int .i64 0, .slice none 0 0, .slice none 0 0, .bool false, .slice none 0 0, .slice none 0 0, .slice none 0 0] 52)).heap[w.heap.size]? = some (.cells #[.slice none 0 0, .slice none 0 0, .slice none 0 0, .slice none 0 0, .slice none 0 0, .slice none 0 0, .slice none 0 0, .int .i64 0, .slice none 0 0] 30 (0, 0)) := heap_alloc (heap_alloc_last _ _) _
  have HN := Hid.mk' N1
  have HM := Hid.mk' N0
  clear N1 N0
  have CQ : Hid (∀ X, Calls Tryz.prog 48 #[.agg #[.slice none 0 0, .slice none 0 0, .slice none 0 0, .slice none 0 0, .slice none 0 0, .slice none 0 0, .slice none 0 0, .int .i64 0, .slice none 0 0], .agg #[.int .i64 64276, .int .u32 0, .int .u32 0, .int .u64 0, .int .u32 0, .int .u32 0, .int .u64 0, .int .i64 0, .int .i64 0, .bool false, .int .i64 0, .slice none 0 0, .slice none 0 0, .bool false, .slice none 0 0, .slice none 0 0, .slice none 0 0]] X fun en w' => ∃ v, en = .returned v ∧ isFn v ∧ Grew X w') := sc_64276
  have GP : Hid (Grew w w) := Grew.refl w
  go_enter Tryz.func16, Tryz.ntmps16
  go_wp2_with (first
    | (with_reducible refine stop_load 30 rfl ?_
       unfold Stop
       refine wpList_load_row rfl 30 _ rfl (w.heap.size) (by go_simp) 30 #[.slice none 0 0, .slice none 0 0, .slice none 0 0, .slice none 0 0, .slice none 0 0, .slice none 0 0, .slice none 0 0, .int .i64 0, .slice none 0 0] (0, 0) _ HM.out Tryz.underlying30 rfl (by kernel_rfl) ?_)
    | (with_reducible refine stop_load 52 rfl ?_
       unfold Stop
       refine wpList_load_row rfl 52 _ rfl (w.heap.size + 1) (by go_simp) 52 #[.int .i64 64276, .int .u32 0, .int .u32 0, .int .u64 0, .int .u32 0, .int .u32 0, .int .u64 0, .int .i64 0, .int .i64 0, .bool false, .int .i64 0, .slice none 0 0, .slice none 0 0, .bool false, .slice none 0 0, .slice none 0 0, .slice none 0 0] (0, 0) _ HN.out Tryz.underlying52 rfl (by kernel_rfl) ?_)
    | fail)
  repeat (first
    | (with_reducible refine (CQ.out _).mono ?_
       rintro en wn ⟨v, rfl, hv, gn⟩
       have gx : Grew w wn := Grew.trans (by repeat (first | with_reducible exact GP.out | with_reducible exact Grew.refl _ | refine Grew.alloc ?_ _ | refine Grew.set ?_ (by simp) _ | refine Grew.drewN ?_ _ | refine Grew.drew ?_)) gn
       clear GP
       have GP := Hid.mk' gx
       clear gn gx
       obtain ⟨fn, fA, fB, rfl⟩ := hv
       go_wp2_with (first
    | (with_reducible refine stop_load 30 rfl ?_
       unfold Stop
       refine wpList_load_row rfl 30 _ rfl (w.heap.size) (by go_simp) 30 #[.slice none 0 0, .slice none 0 0, .slice none 0 0, .slice none 0 0, .slice none 0 0, .slice none 0 0, .slice none 0 0, .int .i64 0, .slice none 0 0] (0, 0) _ HM.out Tryz.underlying30 rfl (by kernel_rfl) ?_)
    | (with_reducible refine stop_load 52 rfl ?_
       unfold Stop
       refine wpList_load_row rfl 52 _ rfl (w.heap.size + 1) (by go_simp) 52 #[.int .i64 64276, .int .u32 0, .int .u32 0, .int .u64 0, .int .u32 0, .int .u32 0, .int .u64 0, .int .i64 0, .int .i64 0, .bool false, .int .i64 0, .slice none 0 0, .slice none 0 0, .bool false, .slice none 0 0, .slice none 0 0, .slice none 0 0] (0, 0) _ HN.out Tryz.underlying52 rfl (by kernel_rfl) ?_)
    | fail)))
  go_ret
  exact ⟨_, rfl, ⟨_, _, _, rfl⟩, (by repeat (first | with_reducible exact GP.out | with_reducible exact Grew.refl _ | refine Grew.alloc ?_ _ | refine Grew.set ?_ (by simp) _ | refine Grew.drewN ?_ _ | refine Grew.drew ?_))⟩
set_option maxRecDepth 100000 in
set_option maxHeartbeats 2000000 in
theorem so_64277 (w : World) : Calls Tryz.prog 16 #[.agg #[.slice none 0 0, .slice none 0 0, .slice none 0 0, .slice none 0 0, .slice none 0 0, .slice none 0 0, .slice none 0 0, .int .i64 0, .slice none 0 0], .agg #[.int .i64 64277, .int .u32 0, .int .u32 0, .int .u64 0, .int .u32 0, .int .u32 0, .int .u64 0, .int .i64 0, .int .i64 0, .bool false, .int .i64 0, .slice none 0 0, .slice none 0 0, .bool false, .slice none 0 0, .slice none 0 0, .slice none 0 0]] w fun en w' => ∃ v, en = .returned v ∧ isFn v ∧ Grew w w' := by
  have N1 : ((w.alloc (.cells #[.slice none 0 0, .slice none 0 0, .slice none 0 0, .slice none 0 0, .slice none 0 0, .slice none 0 0, .slice none 0 0, .int .i64 0, .slice none 0 0] 30)).alloc (.cells #[.int .i64 64277, .int .u32 0, .int .u32 0, .int .u64 0, .int .u32 0, .int .u32 0, .int .u64 0, .int .i64 0, .int .i64 0, .bool false, .int .i64 0, .slice none 0 0, .slice none 0 0, .bool false, .slice none 0 0, .slice none 0 0, .slice none 0 0] 52)).heap[w.heap.size + 1]? = some (.cells #[.int .i64 64277, .int .u32 0, .int .u32 0, .int .u64 0, .int .u32 0, .int .u32 0, .int .u64 0, .int .i64 0, .int .i64 0, .bool false, .int .i64 0, .slice none 0 0, .slice none 0 0, .bool false, .slice none 0 0, .slice none 0 0, .slice none 0 0] 52 (0, 0)) := by
    have := heap_alloc_last (w.alloc (.cells #[.slice none 0 0, .slice none 0 0, .slice none 0 0, .slice none 0 0, .slice none 0 0, .slice none 0 0, .slice none 0 0, .int .i64 0, .slice none 0 0] 30)) (.cells #[.int .i64 64277, .int .u32 0, .int .u32 0, .int .u64 0, .int .u32 0, .int .u32 0, .int .u64 0, .int .i64 0, .int .i64 0, .bool false, .int .i64 0, .slice none 0 0, .slice none 0 0, .bool false, .slice none 0 0, .slice none 0 0, .slice none 0 0] 52)
    rw [alloc_size] at this
    exact this
  have N0 : ((w.alloc (.cells #[.slice none 0 0, .slice none 0 0, .slice none 0 0, .slice none 0 0, .slice none 0 0, .slice none 0 0, .slice none 0 0, .int .i64 0, .slice none 0 0] 30)).alloc (.cells #[.int .i64 64277, .int .u32 0, .int .u32 0, .int .u64 0, .int .u32 0, .int .u32 0, .int .u64 0, .int .i64 0, .int .i64 0, .bool false, .int .i64 0, .slice none 0 0, .slice none 0 0, .bool false, .slice none 0 0, .slice none 0 0, .slice none 0 0] 52)).heap[w.heap.size]? = some (.cells #[.slice none 0 0, .slice none 0 0, .slice none 0 0, .slice none 0 0, .slice none 0 0, .slice none 0 0, .slice none 0 0, .int .i64 0, .slice none 0 0] 30 (0, 0)) := heap_alloc (heap_alloc_last _ _) _
  have HN := Hid.mk' N1
  have HM := Hid.mk' N0
  clear N1 N0
  have CQ : Hid (∀ X, Calls Tryz.prog 48 #[.agg #[.slice none 0 0, .slice none 0 0, .slice none 0 0, .slice none 0 0, .slice none 0 0, .slice none 0 0, .slice none 0 0, .int .i64 0, .slice none 0 0], .agg #[.int .i64 64277, .int .u32 0, .int .u32 0, .int .u64 0, .int .u32 0, .int .u32 0, .int .u64 0, .int .i64 0, .int .i64 0, .bool false, .int .i64 0, .slice none 0 0, .slice none 0 0, .bool false, .slice none 0 0, .slice none 0 0, .slice none 0 0]] X fun en w' => ∃ v, en = .returned v ∧ isFn v ∧ Grew X w') := sc_64277
  have GP : Hid (Grew w w) := Grew.refl w
  go_enter Tryz.func16, Tryz.ntmps16
  go_wp2_with (first
    | (with_reducible refine stop_load 30 rfl ?_
       unfold Stop
       refine wpList_load_row rfl 30 _ rfl (w.heap.size) (by go_simp) 30 #[.slice none 0 0, .slice none 0 0, .slice none 0 0, .slice none 0 0, .slice none 0 0, .slice none 0 0, .slice none 0 0, .int .i64 0, .slice none 0 0] (0, 0) _ HM.out Tryz.underlying30 rfl (by kernel_rfl) ?_)
    | (with_reducible refine stop_load 52 rfl ?_
       unfold Stop
       refine wpList_load_row rfl 52 _ rfl (w.heap.size + 1) (by go_simp) 52 #[.int .i64 64277, .int .u32 0, .int .u32 0, .int .u64 0, .int .u32 0, .int .u32 0, .int .u64 0, .int .i64 0, .int .i64 0, .bool false, .int .i64 0, .slice none 0 0, .slice none 0 0, .bool false, .slice none 0 0, .slice none 0 0, .slice none 0 0] (0, 0) _ HN.out Tryz.underlying52 rfl (by kernel_rfl) ?_)
    | fail)
  repeat (first
    | (with_reducible refine (CQ.out _).mono ?_
       rintro en wn ⟨v, rfl, hv, gn⟩
       have gx : Grew w wn := Grew.trans (by repeat (first | with_reducible exact GP.out | with_reducible exact Grew.refl _ | refine Grew.alloc ?_ _ | refine Grew.set ?_ (by simp) _ | refine Grew.drewN ?_ _ | refine Grew.drew ?_)) gn
       clear GP
       have GP := Hid.mk' gx
       clear gn gx
       obtain ⟨fn, fA, fB, rfl⟩ := hv
       go_wp2_with (first
    | (with_reducible refine stop_load 30 rfl ?_
       unfold Stop
       refine wpList_load_row rfl 30 _ rfl (w.heap.size) (by go_simp) 30 #[.slice none 0 0, .slice none 0 0, .slice none 0 0, .slice none 0 0, .slice none 0 0, .slice none 0 0, .slice none 0 0, .int .i64 0, .slice none 0 0] (0, 0) _ HM.out Tryz.underlying30 rfl (by kernel_rfl) ?_)
    | (with_reducible refine stop_load 52 rfl ?_
       unfold Stop
       refine wpList_load_row rfl 52 _ rfl (w.heap.size + 1) (by go_simp) 52 #[.int .i64 64277, .int .u32 0, .int .u32 0, .int .u64 0, .int .u32 0, .int .u32 0, .int .u64 0, .int .i64 0, .int .i64 0, .bool false, .int .i64 0, .slice none 0 0, .slice none 0 0, .bool false, .slice none 0 0, .slice none 0 0, .slice none 0 0] (0, 0) _ HN.out Tryz.underlying52 rfl (by kernel_rfl) ?_)
    | fail)))
  go_ret
  exact ⟨_, rfl, ⟨_, _, _, rfl⟩, (by repeat (first | with_reducible exact GP.out | with_reducible exact Grew.refl _ | refine Grew.alloc ?_ _ | refine Grew.set ?_ (by simp) _ | refine Grew.drewN ?_ _ | refine Grew.drew ?_))⟩
set_option maxRecDepth 100000 in
set_option maxHeartbeats 2000000 in
theorem so_64278 (w : World) : Calls Tryz.prog 16 #[.agg #[.slice none 0 0, .slice none 0 0, .slice none 0 0, .slice none 0 0, .slice none 0 0, .slice none 0 0, .slice none 0 0, .int .i64 0, .slice none 0 0], .agg #[.int .i64 64278, .int .u32 0, .int .u32 0, .int .u64 0, .int .u32 0, .int .u32 0, .int .u64 0, .int .i64 0, .int .i64 0, .bool false, .int .i64 0, .slice none 0 0, .slice none 0 0, .bool false, .slice none 0 0, .slice none 0 0, .slice none 0 0]] w fun en w' => ∃ v, en = .returned v ∧ isFn v ∧ Grew w w' := by
  have N1 : ((w.alloc (.cells #[.slice none 0 0, .slice none 0 0, .slice none 0 0, .slice none 0 0, .slice none 0 0, .slice none 0 0, .slice none 0 0, .int .i64 0, .slice none 0 0] 30)).alloc (.cells #[.int .i64 64278, .int .u32 0, .int .u32 0, .int .u64 0, .int .u32 0, .int .u32 0, .int .u64 0, .int .i64 0, .int .i64 0, .bool false, .int .i64 0, .slice none 0 0, .slice none 0 0, .bool false, .slice none 0 0, .slice none 0 0, .slice none 0 0] 52)).heap[w.heap.size + 1]? = some (.cells #[.int .i64 64278, .int .u32 0, .int .u32 0, .int .u64 0, .int .u32 0, .int .u32 0, .int .u64 0, .int .i64 0, .int .i64 0, .bool false, .int .i64 0, .slice none 0 0, .slice none 0 0, .bool false, .slice none 0 0, .slice none 0 0, .slice none 0 0] 52 (0, 0)) := by
    have := heap_alloc_last (w.alloc (.cells #[.slice none 0 0, .slice none 0 0, .slice none 0 0, .slice none 0 0, .slice none 0 0, .slice none 0 0, .slice none 0 0, .int .i64 0, .slice none 0 0] 30)) (.cells #[.int .i64 64278, .int .u32 0, .int .u32 0, .int .u64 0, .int .u32 0, .int .u32 0, .int .u64 0, .int .i64 0, .int .i64 0, .bool false, .int .i64 0, .slice none 0 0, .slice none 0 0, .bool false, .slice none 0 0, .slice none 0 0, .slice none 0 0] 52)
    rw [alloc_size] at this
    exact this
  have N0 : ((w.alloc (.cells #[.slice none 0 0, .slice none 0 0, .slice none 0 0, .slice none 0 0, .slice none 0 0, .slice none 0 0, .slice none 0 0, .int .i64 0, .slice none 0 0] 30)).alloc (.cells #[.int .i64 64278, .int .u32 0, .int .u32 0, .int .u64 0, .int .u32 0, .int .u32 0, .int .u64 0, .int .i64 0, .int .i64 0, .bool false, .int .i64 0, .slice none 0 0, .slice none 0 0, .bool false, .slice none 0 0, .slice none 0 0, .slice none 0 0] 52)).heap[w.heap.size]? = some (.cells #[.slice none 0 0, .slice none 0 0, .slice none 0 0, .slice none 0 0, .slice none 0 0, .slice none 0 0, .slice none 0 0, .int .i64 0, .slice none 0 0] 30 (0, 0)) := heap_alloc (heap_alloc_last _ _) _
  have HN := Hid.mk' N1
  have HM := Hid.mk' N0
  clear N1 N0
  have CQ : Hid (∀ X, Calls Tryz.prog 48 #[.agg #[.slice none 0 0, .slice none 0 0, .slice none 0 0, .slice none 0 0, .slice none 0 0, .slice none 0 0, .slice none 0 0, .int .i64 0, .slice none 0 0], .agg #[.int .i64 64278, .int .u32 0, .int .u32 0, .int .u64 0, .int .u32 0, .int .u32 0, .int .u64 0, .int .i64 0, .int .i64 0, .bool false, .int .i64 0, .slice none 0 0, .slice none 0 0, .bool false, .slice none 0 0, .slice none 0 0, .slice none 0 0]] X fun en w' => ∃ v, en = .returned v ∧ isFn v ∧ Grew X w') := sc_64278
  have GP : Hid (Grew w w) := Grew.refl w
  go_enter Tryz.func16, Tryz.ntmps16
  go_wp2_with (first
    | (with_reducible refine stop_load 30 rfl ?_
       unfold Stop
       refine wpList_load_row rfl 30 _ rfl (w.heap.size) (by go_simp) 30 #[.slice none 0 0, .slice none 0 0, .slice none 0 0, .slice none 0 0, .slice none 0 0, .slice none 0 0, .slice none 0 0, .int .i64 0, .slice none 0 0] (0, 0) _ HM.out Tryz.underlying30 rfl (by kernel_rfl) ?_)
    | (with_reducible refine stop_load 52 rfl ?_
       unfold Stop
       refine wpList_load_row rfl 52 _ rfl (w.heap.size + 1) (by go_simp) 52 #[.int .i64 64278, .int .u32 0, .int .u32 0, .int .u64 0, .int .u32 0, .int .u32 0, .int .u64 0, .int .i64 0, .int .i64 0, .bool false, .int .i64 0, .slice none 0 0, .slice none 0 0, .bool false, .slice none 0 0, .slice none 0 0, .slice none 0 0] (0, 0) _ HN.out Tryz.underlying52 rfl (by kernel_rfl) ?_)
    | fail)
  repeat (first
    | (with_reducible refine (CQ.out _).mono ?_
       rintro en wn ⟨v, rfl, hv, gn⟩
       have gx : Grew w wn := Grew.trans (by repeat (first | with_reducible exact GP.out | with_reducible exact Grew.refl _ | refine Grew.alloc ?_ _ | refine Grew.set ?_ (by simp) _ | refine Grew.drewN ?_ _ | refine Grew.drew ?_)) gn
       clear GP
       have GP := Hid.mk' gx
       clear gn gx
       obtain ⟨fn, fA, fB, rfl⟩ := hv
       go_wp2_with (first
    | (with_reducible refine stop_load 30 rfl ?_
       unfold Stop
       refine wpList_load_row rfl 30 _ rfl (w.heap.size) (by go_simp) 30 #[.slice none 0 0, .slice none 0 0, .slice none 0 0, .slice none 0 0, .slice none 0 0, .slice none 0 0, .slice none 0 0, .int .i64 0, .slice none 0 0] (0, 0) _ HM.out Tryz.underlying30 rfl (by kernel_rfl) ?_)
    | (with_reducible refine stop_load 52 rfl ?_
       unfold Stop
       refine wpList_load_row rfl 52 _ rfl (w.heap.size + 1) (by go_simp) 52 #[.int .i64 64278, .int .u32 0, .int .u32 0, .int .u64 0, .int .u32 0, .int .u32 0, .int .u64 0, .int .i64 0, .int .i64 0, .bool false, .int .i64 0, .slice none 0 0, .slice none 0 0, .bool false, .slice none 0 0, .slice none 0 0, .slice none 0 0] (0, 0) _ HN.out Tryz.underlying52 rfl (by kernel_rfl) ?_)
    | fail)))
  go_ret
  exact ⟨_, rfl, ⟨_, _, _, rfl⟩, (by repeat (first | with_reducible exact GP.out | with_reducible exact Grew.refl _ | refine Grew.alloc ?_ _ | refine Grew.set ?_ (by simp) _ | refine Grew.drewN ?_ _ | refine Grew.drew ?_))⟩
set_option maxRecDepth 100000 in
set_option maxHeartbeats 2000000 in
theorem so_64279 (w : World) : Calls Tryz.prog 16 #[.agg #[.slice none 0 0, .slice none 0 0, .slice none 0 0, .slice none 0 0, .slice none 0 0, .slice none 0 0, .slice none 0 0, .int .i64 0, .slice none 0 0], .agg #[.int .i64 64279, .int .u32 0, .int .u32 0, .int .u64 0, .int .u32 0, .int .u32 0, .int .u64 0, .int .i64 0, .int .i64 0, .bool false, .int .i64 0, .slice none 0 0, .slice none 0 0, .bool false, .slice none 0 0, .slice none 0 0, .slice none 0 0]] w fun en w' => ∃ v, en = .returned v ∧ isFn v ∧ Grew w w' := by
  have N1 : ((w.alloc (.cells #[.slice none 0 0, .slice none 0 0, .slice none 0 0, .slice none 0 0, .slice none 0 0, .slice none 0 0, .slice none 0 0, .int .i64 0, .slice none 0 0] 30)).alloc (.cells #[.int .i64 64279, .int .u32 0, .int .u32 0, .int .u64 0, .int .u32 0, .int .u32 0, .int .u64 0, .int .i64 0, .int .i64 0, .bool false, .int .i64 0, .slice none 0 0, .slice none 0 0, .bool false, .slice none 0 0, .slice none 0 0, .slice none 0 0] 52)).heap[w.heap.size + 1]? = some (.cells #[.int .i64 64279, .int .u32 0, .int .u32 0, .int .u64 0, .int .u32 0, .int .u32 0, .int .u64 0, .int .i64 0, .int .i64 0, .bool false, .int .i64 0, .slice none 0 0, .slice none 0 0, .bool false, .slice none 0 0, .slice none 0 0, .slice none 0 0] 52 (0, 0)) := by
    have := heap_alloc_last (w.alloc (.cells #[.slice none 0 0, .slice none 0 0, .slice none 0 0, .slice none 0 0, .slice none 0 0, .slice none 0 0, .slice none 0 0, .int .i64 0, .slice none 0 0] 30)) (.cells #[.int .i64 64279, .int .u32 0, .int .u32 0, .int .u64 0, .int .u32 0, .int .u32 0, .int .u64 0, .int .i64 0, .int .i64 0, .bool false, .int .i64 0, .slice none 0 0, .slice none 0 0, .bool false, .slice none 0 0, .slice none 0 0, .slice none 0 0] 52)
    rw [alloc_size] at this
    exact this
  have N0 : ((w.alloc (.cells #[.slice none 0 0, .slice none 0 0, .slice none 0 0, .slice none 0 0, .slice none 0 0, .slice none 0 0, .slice none 0 0, .int .i64 0, .slice none 0 0] 30)).alloc (.cells #[.int .i64 64279, .int .u32 0, .int .u32 0, .int .u64 0, .int .u32 0, .int .u32 0, .int .u64 0, .int .i64 0, .int .i64 0, .bool false, .int .i64 0, .slice none 0 0, .slice none 0 0, .bool false, .slice none 0 0, .slice none 0 0, .slice none 0 0] 52)).heap[w.heap.size]? = some (.cells #[.slice none 0 0, .slice none 0 0, .slice none 0 0, .slice none 0 0, .slice none 0 0, .slice none 0 0, .slice none 0 0, .int .i64 0, .slice none 0 0] 30 (0, 0)) := heap_alloc (heap_alloc_last _ _) _
  have HN := Hid.mk' N1
  have HM := Hid.mk' N0
  clear N1 N0
  have CQ : Hid (∀ X, Calls Tryz.prog 48 #[.agg #[.slice none 0 0, .slice none 0 0, .slice none 0 0, .slice none 0 0, .slice none 0 0, .slice none 0 0, .slice none 0 0, .int .i64 0, .slice none 0 0], .agg #[.int .i64 64279, .int .u32 0, .int .u32 0, .int .u64 0, .int .u32 0, .int .u32 0, .int .u64 0, .int .i64 0, .int .i64 0, .bool false, .int .i64 0, .slice none 0 0, .slice none 0 0, .bool false, .slice none 0 0, .slice none 0 0, .slice none 0 0]] X fun en w' => ∃ v, en = .returned v ∧ isFn v ∧ Grew X w') := sc_64279
  have GP : Hid (Grew w w) := Grew.refl w
  go_enter Tryz.func16, Tryz.ntmps16
  go_wp2_with (first
    | (with_reducible refine stop_load 30 rfl ?_
       unfold Stop
       refine wpList_load_row rfl 30 _ rfl (w.heap.size) (by go_simp) 30 #[.slice none 0 0, .slice none 0 0, .slice none 0 0, .slice none 0 0, .slice none 0 0, .slice none 0 0, .slice none 0 0, .int .i64 0, .slice none 0 0] (0, 0) _ HM.out Tryz.underlying30 rfl (by kernel_rfl) ?_)
    | (with_reducible refine stop_load 52 rfl ?_
       unfold Stop
       refine wpList_load_row rfl 52 _ rfl (w.heap.size + 1) (by go_simp) 52 #[.int .i64 64279, .int .u32 0, .int .u32 0, .int .u64 0, .int .u32 0, .int .u32 0, .int .u64 0, .int .i64 0, .int .i64 0, .bool false, .int .i64 0, .slice none 0 0, .slice none 0 0, .bool false, .slice none 0 0, .slice none 0 0, .slice none 0 0] (0, 0) _ HN.out Tryz.underlying52 rfl (by kernel_rfl) ?_)
    | fail)
  repeat (first
    | (with_reducible refine (CQ.out _).mono ?_
       rintro en wn ⟨v, rfl, hv, gn⟩
       have gx : Grew w wn := Grew.trans (by repeat (first | with_reducible exact GP.out | with_reducible exact Grew.refl _ | refine Grew.alloc ?_ _ | refine Grew.set ?_ (by simp) _ | refine Grew.drewN ?_ _ | refine Grew.drew ?_)) gn
       clear GP
       have GP := Hid.mk' gx
       clear gn gx
       obtain ⟨fn, fA, fB, rfl⟩ := hv
       go_wp2_with (first
    | (with_reducible refine stop_load 30 rfl ?_
       unfold Stop
       refine wpList_load_row rfl 30 _ rfl (w.heap.size) (by go_simp) 30 #[.slice none 0 0, .slice none 0 0, .slice none 0 0, .slice none 0 0, .slice none 0 0, .slice none 0 0, .slice none 0 0, .int .i64 0, .slice none 0 0] (0, 0) _ HM.out Tryz.underlying30 rfl (by kernel_rfl) ?_)
    | (with_reducible refine stop_load 52 rfl ?_
       unfold Stop
       refine wpList_load_row rfl 52 _ rfl (w.heap.size + 1) (by go_simp) 52 #[.int .i64 64279, .int .u32 0, .int .u32 0, .int .u64 0, .int .u32 0, .int .u32 0, .int .u64 0, .int .i64 0, .int .i64 0, .bool false, .int .i64 0, .slice none 0 0, .slice none 0 0, .bool false, .slice none 0 0, .slice none 0 0, .slice none 0 0] (0, 0) _ HN.out Tryz.underlying52 rfl (by kernel_rfl) ?_)
    | fail)))
  go_ret
  exact ⟨_, rfl, ⟨_, _, _, rfl⟩, (by repeat (first | with_reducible exact GP.out | with_reducible exact Grew.refl _ | refine Grew.alloc ?_ _ | refine Grew.set ?_ (by simp) _ | refine Grew.drewN ?_ _ | refine Grew.drew ?_))⟩
set_option maxRecDepth 100000 in
set_option maxHeartbeats 2000000 in
theorem so_64280 (w : World) : Calls Tryz.prog 16 #[.agg #[.slice none 0 0, .slice none 0 0, .slice none 0 0, .slice none 0 0, .slice none 0 0, .slice none 0 0, .slice none 0 0, .int .i64 0, .slice none 0 0], .agg #[.int .i64 64280, .int .u32 0, .int .u32 0, .int .u64 0, .int .u32 0, .int .u32 0, .int .u64 0, .int .i64 0, .int .i64 0, .bool false, .int .i64 0, .slice none 0 0, .slice none 0 0, .bool false, .slice none 0 0, .slice none 0 0, .slice none 0 0]] w fun en w' => ∃ v, en = .returned v ∧ isFn v ∧ Grew w w' := by
  have N1 : ((w.alloc (.cells #[.slice none 0 0, .slice none 0 0, .slice none 0 0, .slice none 0 0, .slice none 0 0, .slice none 0 0, .slice none 0 0, .int .i64 0, .slice none 0 0] 30)).alloc (.cells #[.int .i64 64280, .int .u32 0, .int .u32 0, .int .u64 0, .int .u32 0, .int .u32 0, .int .u64 0, .int .i64 0, .int .i64 0, .bool false, .int .i64 0, .slice none 0 0, .slice none 0 0, .bool false, .slice none 0 0, .slice none 0 0, .slice none 0 0] 52)).heap[w.heap.size + 1]? = some (.cells #[.int .i64 64280, .int .u32 0, .int .u32 0, .int .u64 0, .int .u32 0, .int .u32 0, .int .u64 0, .int .i64 0, .int .i64 0, .bool false, .int .i64 0, .slice none 0 0, .slice none 0 0, .bool false, .slice none 0 0, .slice none 0 0, .slice none 0 0] 52 (0, 0)) := by
    have := heap_alloc_last (w.alloc (.cells #[.slice none 0 0, .slice none 0 0, .slice none 0 0, .slice none 0 0, .slice none 0 0, .slice none 0 0, .slice none 0 0, .int .i64 0, .slice none 0 0] 30)) (.cells #[.int .i64 64280, .int .u32 0, .int .u32 0, .int .u64 0, .int .u32 0, .int .u32 0, .int .u64 0, .int .i64 0, .int .i64 0, .bool false, .int .i64 0, .slice none 0 0, .slice none 0 0, .bool false, .slice none 0 0, .slice none 0 0, .slice none 0 0] 52)
    rw [alloc_size] at this
    exact this
  have N0 : ((w.alloc (.cells #[.slice none 0 0, .slice none 0 0, .slice none 0 0, .slice none 0 0, .slice none 0 0, .slice none 0 0, .slice none 0 0, .int .i64 0, .slice none 0 0] 30)).alloc (.cells #[.int .i64 64280, .int .u32 0, .int .u32 0, .int .u64 0, .int .u32 0, .int .u32 0, .int .u64 0, .int .i64 0, .int .i64 0, .bool false, .int .i64 0, .slice none 0 0, .slice none 0 0, .bool false, .slice none 0 0, .slice none 0 0, .slice none 0 0] 52)).heap[w.heap.size]? = some (.cells #[.slice none 0 0, .slice none 0 0, .slice none 0 0, .slice none 0 0, .slice none 0 0, .slice none 0 0, .slice none 0 0, .int .i64 0, .slice none 0 0] 30 (0, 0)) := heap_alloc (heap_alloc_last _ _) _
  have HN := Hid.mk' N1
  have HM := Hid.mk' N0
  clear N1 N0
  have CQ : Hid (∀ X, Calls Tryz.prog 48 #[.agg #[.slice none 0 0, .slice none 0 0, .slice none 0 0, .slice none 0 0, .slice none 0 0, .slice none 0 0, .slice none 0 0, .int .i64 0, .slice none 0 0], .agg #[.int .i64 64280, .int .u32 0, .int .u32 0, .int .u64 0, .int .u32 0, .int .u32 0, .int .u64 0, .int .i64 0, .int .i64 0, .bool false, .int .i64 0, .slice none 0 0, .slice none 0 0, .bool false, .slice none 0 0, .slice none 0 0, .slice none 0 0]] X fun en w' => ∃ v, en = .returned v ∧ isFn v ∧ Grew X w') := sc_64280
  have GP : Hid (Grew w w) := Grew.refl w
  go_enter Tryz.func16, Tryz.ntmps16
  go_wp2_with (first
    | (with_reducible refine stop_load 30 rfl ?_
       unfold Stop
       refine wpList_load_row rfl 30 _ rfl (w.heap.size) (by go_simp) 30 #[.slice none 0 0, .slice none 0 0, .slice none 0 0, .slice none 0 0, .slice none 0 0, .slice none 0 0, .slice none 0 0, .int .i64 0, .slice none 0 0] (0, 0) _ HM.out Tryz.underlying30 rfl (by kernel_rfl) ?_)
    | (with_reducible refine stop_load 52 rfl ?_
       unfold Stop
       refine wpList_load_row rfl 52 _ rfl (w.heap.size + 1) (by go_simp) 52 #[.int .i64 64280, .int .u32 0, .int .u32 0, .int .u64 0, .int .u32 0, .int .u32 0, .int .u64 0, .int .i64 0, .int .i64 0, .bool false, .int .i64 0, .slice none 0 0, .slice none 0 0, .bool false, .slice none 0 0, .slice none 0 0, .slice none 0 0] (0, 0) _ HN.out Tryz.underlying52 rfl (by kernel_rfl) ?_)
    | fail)
  repeat (first
    | (with_reducible refine (CQ.out _).mono ?_
       rintro en wn ⟨v, rfl, hv, gn⟩
       have gx : Grew w wn := Grew.trans (by repeat (first | with_reducible exact GP.out | with_reducible exact Grew.refl _ | refine Grew.alloc ?_ _ | refine Grew.set ?_ (by simp) _ | refine Grew.drewN ?_ _ | refine Grew.drew ?_)) gn
       clear GP
       have GP := Hid.mk' gx
       clear gn gx
       obtain ⟨fn, fA, fB, rfl⟩ := hv
       go_wp2_with (first
    | (with_reducible refine stop_load 30 rfl ?_
       unfold Stop
       refine wpList_load_row rfl 30 _ rfl (w.heap.size) (by go_simp) 30 #[.slice none 0 0, .slice none 0 0, .slice none 0 0, .slice none 0 0, .slice none 0 0, .slice none 0 0, .slice none 0 0, .int .i64 0, .slice none 0 0] (0, 0) _ HM.out Tryz.underlying30 rfl (by kernel_rfl) ?_)
    | (with_reducible refine stop_load 52 rfl ?_
       unfold Stop
       refine wpList_load_row rfl 52 _ rfl (w.heap.size + 1) (by go_simp) 52 #[.int .i64 64280, .int .u32 0, .int .u32 0, .int .u64 0, .int .u32 0, .int .u32 0, .int .u64 0, .int .i64 0, .int .i64 0, .bool false, .int .i64 0, .slice none 0 0, .slice none 0 0, .bool false, .slice none 0 0, .slice none 0 0, .slice none 0 0] (0, 0) _ HN.out Tryz.underlying52 rfl (by kernel_rfl) ?_)
    | fail)))
  go_ret
  exact ⟨_, rfl, ⟨_, _, _, rfl⟩, (by repeat (first | with_reducible exact GP.out | with_reducible exact Grew.refl _ | refine Grew.alloc ?_ _ | refine Grew.set ?_ (by simp) _ | refine Grew.drewN ?_ _ | refine Grew.drew ?_))⟩
set_option maxRecDepth 100000 in
set_option maxHeartbeats 2000000 in
theorem so_64281 (w : World) : Calls Tryz.prog 16 #[.agg #[.slice none 0 0, .slice none 0 0, .slice none 0 0, .slice none 0 0, .slice none 0 0, .slice none 0 0, .slice none 0 0, .int .i64 0, .slice none 0 0], .agg #[.int .i64 64281, .int .u32 0, .int .u32 0, .int .u64 0, .int .u32 0, .int .u32 0, .int .u64 0, .int .i64 0, .int .i64 0, .bool false, .int .i64 0, .slice none 0 0, .slice none 0 0, .bool false, .slice none 0 0, .slice none 0 0, .slice none 0 0]] w fun en w' => ∃ v, en = .returned v ∧ isFn v ∧ Grew w w' := by
  have N1 : ((w.alloc (.cells #[.slice none 0 0, .slice none 0 0, .slice none 0 0, .slice none 0 0, .slice none 0 0, .slice none 0 0, .slice none 0 0, .int .i64 0, .slice none 0 0] 30)).alloc (.cells #[.int .i64 64281, .int .u32 0, .int .u32 0, .int .u64 0, .int .u32 0, .int .u32 0, .int .u64 0, .int .i64 0, .int .i64 0, .bool false, .int .i64 0, .slice none 0 0, .slice none 0 0, .bool false, .slice none 0 0, .slice none 0 0, .slice none 0 0] 52)).heap[w.heap.size + 1]? = some (.cells #[.int .i64 64281, .int .u32 0, .int .u32 0, .int .u64 0, .int .u32 0, .int .u32 0, .int .u64 0, .int .i64 0, .int .i64 0, .bool false, .int .i64 0, .slice none 0 0, .slice none 0 0, .bool false, .slice none 0 0, .slice none 0 0, .slice none 0 0] 52 (0, 0)) := by
    have := heap_alloc_last (w.alloc (.cells #[.slice none 0 0, .slice none 0 0, .slice none 0 0, .slice none 0 0, .slice none 0 0, .slice none 0 0, .slice none 0 0, .int .i64 0, .slice none 0 0] 30)) (.cells #[.int .i64 64281, .int .u32 0, .int .u32 0, .int .u64 0, .int .u32 0, .int .u32 0, .int .u64 0, .int .i64 0, .int .i64 0, .bool false, .int .i64 0, .slice none 0 0, .slice none 0 0, .bool false, .slice none 0 0, .slice none 0 0, .slice none 0 0] 52)
    rw [alloc_size] at this
    exact this
  have N0 : ((w.alloc (.cells #[.slice none 0 0, .slice none 0 0, .slice none 0 0, .slice none 0 0, .slice none 0 0, .slice none 0 0, .slice none 0 0, .int .i64 0, .slice none 0 0] 30)).alloc (.cells #[.int .i64 64281, .int .u32 0, .int .u32 0, .int .u64 0, .int .u32 0, .int .u32 0, .int .u64 0, .int .i64 0, .int .i64 0, .bool false, .int .i64 0, .slice none 0 0, .slice none 0 0, .bool false, .slice none 0 0, .slice none 0 0, .slice none 0 0] 52)).heap[w.heap.size]? = some (.cells #[.slice none 0 0, .slice none 0 0, .slice none 0 0, .slice none 0 0, .slice none 0 0, .slice none 0 0, .slice none 0 0, .int .i64 0, .slice none 0 0] 30 (0, 0)) := heap_alloc (heap_alloc_last _ _) _
  have HN := Hid.mk' N1
  have HM := Hid.mk' N0
  clear N1 N0
  have CQ : Hid (∀ X, Calls Tryz.prog 48 #[.agg #[.slice none 0 0, .slice none 0 0, .slice none 0 0, .slice none 0 0, .slice none 0 0, .slice none 0 0, .slice none 0 0, .int .i64 0, .slice none 0 0], .agg #[.int .i64 64281, .int .u32 0, .int .u32 0, .int .u64 0, .int .u32 0, .int .u32 0, .int .u64 0, .int .i64 0, .int .i64 0, .bool false, .int .i64 0, .slice none 0 0, .slice none 0 0, .bool false, .slice none 0 0, .slice none 0 0, .slice none 0 0]] X fun en w' => ∃ v, en = .returned v ∧ isFn v ∧ Grew X w') := sc_64281
  have GP : Hid (Grew w w) := Grew.refl w
  go_enter Tryz.func16, Tryz.ntmps16
  go_wp2_with (first
    | (with_reducible refine stop_load 30 rfl ?_
       unfold Stop
       refine wpList_load_row rfl 30 _ rfl (w.heap.size) (by go_simp) 30 #[.slice none 0 0, .slice none 0 0, .slice none 0 0, .slice none 0 0, .slice none 0 0, .slice none 0 0, .slice none 0 0, .int .i64 0, .slice none 0 0] (0, 0) _ HM.out Tryz.underlying30 rfl (by kernel_rfl) ?_)
    | (with_reducible refine stop_load 52 rfl ?_
       unfold Stop
       refine wpList_load_row rfl 52 _ rfl (w.heap.size + 1) (by go_simp) 52 #[.int .i64 64281, .int .u32 0, .int .u32 0, .int .u64 0, .int .u32 0, .int .u32 0, .int .u64 0, .int .i64 0, .int .i64 0, .bool false, .int .i64 0, .slice none 0 0, .slice none 0 0, .bool false, .slice none 0 0, .slice none 0 0, .slice none 0 0] (0, 0) _ HN.out Tryz.underlying52 rfl (by kernel_rfl) ?_)
    | fail)
  repeat (first
    | (with_reducible refine (CQ.out _).mono ?_
       rintro en wn ⟨v, rfl, hv, gn⟩
       have gx : Grew w wn := Grew.trans (by repeat (first | with_reducible exact GP.out | with_reducible exact Grew.refl _ | refine Grew.alloc ?_ _ | refine Grew.set ?_ (by simp) _ | refine Grew.drewN ?_ _ | refine Grew.drew ?_)) gn
       clear GP
       have GP := Hid.mk' gx
       clear gn gx
       obtain ⟨fn, fA, fB, rfl⟩ := hv
       go_wp2_with (first
    | (with_reducible refine stop_load 30 rfl ?_
       unfold Stop
       refine wpList_load_row rfl 30 _ rfl (w.heap.size) (by go_simp) 30 #[.slice none 0 0, .slice none 0 0, .slice none 0 0, .slice none 0 0, .slice none 0 0, .slice none 0 0, .slice none 0 0, .int .i64 0, .slice none 0 0] (0, 0) _ HM.out Tryz.underlying30 rfl (by kernel_rfl) ?_)
    | (with_reducible refine stop_load 52 rfl ?_
       unfold Stop
       refine wpList_load_row rfl 52 _ rfl (w.heap.size + 1) (by go_simp) 52 #[.int .i64 64281, .int .u32 0, .int .u32 0, .int .u64 0, .int .u32 0, .int .u32 0, .int .u64 0, .int .i64 0, .int .i64 0, .bool false, .int .i64 0, .slice none 0 0, .slice none 0 0, .bool false, .slice none 0 0, .slice none 0 0, .slice none 0 0] (0, 0) _ HN.out Tryz.underlying52 rfl (by kernel_rfl) ?_)
    | fail)))
  go_ret
  exact ⟨_, rfl, ⟨_, _, _, rfl⟩, (by repeat (first | with_reducible exact GP.out | with_reducible exact Grew.refl _ | refine Grew.alloc ?_ _ | refine Grew.set ?_ (by simp) _ | refine Grew.drewN ?_ _ | refine Grew.drew ?_))⟩
set_option maxRecDepth 100000 in
set_option maxHeartbeats 2000000 in
theorem so_64282 (w : World) : Calls Tryz.prog 16 #[.agg #[.slice none 0 0, .slice none 0 0, .slice none 0 0, .slice none 0 0, .slice none 0 0, .slice none 0 0, .slice none 0 0, .int .i64 0, .slice none 0 0], .agg #[.int .i64 64282, .int .u32 0, .int .u32 0, .int .u64 0, .int .u32 0, .int .u32 0, .int .u64 0, .int .i64 0, .int .i64 0, .bool false, .int .i64 0, .slice none 0 0, .slice none 0 0, .bool false, .slice none 0 0, .slice none 0 0, .slice none 0 0]] w fun en w' => ∃ v, en = .returned v ∧ isFn v ∧ Grew w w' := by
  have N1 : ((w.alloc (.cells #[.slice none 0 0, .slice none 0 0, .slice none 0 0, .slice none 0 0, .slice none 0 0, .slice none 0 0, .slice none 0 0, .int .i64 0, .slice none 0 0] 30)).alloc (.cells #[.int .i64 64282, .int .u32 0, .int .u32 0, .int .u64 0, .int .u32 0, .int .u32 0, .int .u64 0, .int .i64 0, .int .i64 0, .bool false, .int .i64 0, .slice none 0 0, .slice none 0 0, .bool false, .slice none 0 0, .slice none 0 0, .slice none 0 0] 52)).heap[w.heap.size + 1]? = some (.cells #[.int .i64 64282, .int .u32 0, .int .u32 0, .int .u64 0, .int .u32 0, .int .u32 0, .int .u64 0, .int .i64 0, .int .i64 0, .bool false, .int .i64 0, .slice none 0 0, .slice none 0 0, .bool false, .slice none 0 0, .slice none 0 0, .slice none 0 0] 52 (0, 0)) := by
    have := heap_alloc_last (w.alloc (.cells #[.slice none 0 0, .slice none 0 0, .slice none 0 0, .slice none 0 0, .slice none 0 0, .slice none 0 0, .slice none 0 0, .int .i64 0, .slice none 0 0] 30)) (.cells #[.int .i64 64282, .int .u32 0, .int .u32 0, .int .u64 0, .int .u32 0, .int .u32 0, .int .u64 0, .int .i64 0, .int .i64 0, .bool false, .int .i64 0, .slice none 0 0, .slice none 0 0, .bool false, .slice none 0 0, .slice none 0 0, .slice none 0 0] 52)
    rw [alloc_size] at this
    exact this
  have N0 : ((w.alloc (.cells #[.slice none 0 0, .slice none 0 0, .slice none 0 0, .slice none 0 0, .slice none 0 0, .slice none 0 0, .slice none 0 0, .int .i64 0, .slice none 0 0] 30)).alloc (.cells #[.int .i64 64282, .int .u32 0, .int .u32 0, .int .u64 0, .int .u32 0, .int .u32 0, .int .u64 0, .int .i64 0, .int .i64 0, .bool false, .int .i64 0, .slice none 0 0, .slice none 0 0, .bool false, .slice none 0 0, .slice none 0 0, .slice none 0 0] 52)).heap[w.heap.size]? = some (.cells #[.slice none 0 0, .slice none 0 0, .slice none 0 0, .slice none 0 0, .slice none 0 0, .slice none 0 0, .slice none 0 0, .int .i64 0, .slice none 0 0] 30 (0, 0)) := heap_alloc (heap_alloc_last _ _) _
  have HN := Hid.mk' N1
  have HM := Hid.mk' N0
  clear N1 N0
  have CQ : Hid (∀ X, Calls Tryz.prog 48 #[.agg #[.slice none 0 0, .slice none 0 0, .slice none 0 0, .slice none 0 0, .slice none 0 0, .slice none 0 0, .slice none 0 0, .int .i64 0, .slice none 0 0], .agg #[.int .i64 64282, .int .u32 0, .int .u32 0, .int .u64 0, .int .u32 0, .int .u32 0, .int .u64 0, .int .i64 0, .int .i64 0, .bool false, .int .i64 0, .slice none 0 0, .slice none 0 0, .bool false, .slice none 0 0, .slice none 0 0, .slice none 0 0]] X fun en w' => ∃ v, en = .returned v ∧ isFn v ∧ Grew X w') := sc_64282
  have GP : Hid (Grew w w) := Grew.refl w
  go_enter Tryz.func16, Tryz.ntmps16
  go_wp2_with (first
    | (with_reducible refine stop_load 30 rfl ?_
       unfold Stop
       refine wpList_load_row rfl 30 _ rfl (w.heap.size) (by go_simp) 30 #[.slice none 0 0, .slice none 0 0, .slice none 0 0, .slice none 0 0, .slice none 0 0, .slice none 0 0, .slice none 0 0, .int .i64 0, .slice none 0 0] (0, 0) _ HM.out Tryz.underlying30 rfl (by kernel_rfl) ?_)
    | (with_reducible refine stop_load 52 rfl ?_
       unfold Stop
       refine wpList_load_row rfl 52 _ rfl (w.heap.size + 1) (by go_simp) 52 #[.int .i64 64282, .int .u32 0, .int .u32 0, .int .u64 0, .int .u32 0, .int .u32 0, .int .u64 0, .int .i64 0, .int .i64 0, .bool false, .int .i64 0, .slice none 0 0, .slice none 0 0, .bool false, .slice none 0 0, .slice none 0 0, .slice none 0 0] (0, 0) _ HN.out Tryz.underlying52 rfl (by kernel_rfl) ?_)
    | fail)
  repeat (first
    | (with_reducible refine (CQ.out _).mono ?_
       rintro en wn ⟨v, rfl, hv, gn⟩
       have gx : Grew w wn := Grew.trans (by repeat (first | with_reducible exact GP.out | with_reducible exact Grew.refl _ | refine Grew.alloc ?_ _ | refine Grew.set ?_ (by simp) _ | refine Grew.drewN ?_ _ | refine Grew.drew ?_)) gn
       clear GP
       have GP := Hid.mk' gx
       clear gn gx
       obtain ⟨fn, fA, fB, rfl⟩ := hv
       go_wp2_with (first
    | (with_reducible refine stop_load 30 rfl ?_
       unfold Stop
       refine wpList_load_row rfl 30 _ rfl (w.heap.size) (by go_simp) 30 #[.slice none 0 0, .slice none 0 0, .slice none 0 0, .slice none 0 0, .slice none 0 0, .slice none 0 0, .slice none 0 0, .int .i64 0, .slice none 0 0] (0, 0) _ HM.out Tryz.underlying30 rfl (by kernel_rfl) ?_)
    | (with_reducible refine stop_load 52 rfl ?_
       unfold Stop
       refine wpList_load_row rfl 52 _ rfl (w.heap.size + 1) (by go_simp) 52 #[.int .i64 64282, .int .u32 0, .int .u32 0, .int .u64 0, .int .u32 0, .int .u32 0, .int .u64 0, .int .i64 0, .int .i64 0, .bool false, .int .i64 0, .slice none 0 0, .slice none 0 0, .bool false, .slice none 0 0, .slice none 0 0, .slice none 0 0] (0, 0) _ HN.out Tryz.underlying52 rfl (by kernel_rfl) ?_)
    | fail)))
  go_ret
  exact ⟨_, rfl, ⟨_, _, _, rfl⟩, (by repeat (first | with_reducible exact GP.out | with_reducible exact Grew.refl _ | refine Grew.alloc ?_ _ | refine Grew.set ?_ (by simp) _ | refine Grew.drewN ?_ _ | refine Grew.drew ?_))⟩
set_option maxRecDepth 100000 in
set_option maxHeartbeats 2000000 in
theorem so_64283 (w : World) : Calls Tryz.prog 16 #[.agg #[.slice none 0 0, .slice none 0 0, .slice none 0 0, .slice none 0 0, .slice none 0 0, .slice none 0 0, .slice none 0 0, .int .i64 0, .slice none 0 0], .agg #[.int .i64 64283, .int .u32 0, .int .u32 0, .int .u64 0, .int .u32 0, .int .u32 0, .int .u64 0, .int .i64 0, .int .i64 0, .bool false, .int .i64 0, .slice none 0 0, .slice none 0 0, .bool false, .slice none 0 0, .slice none 0 0, .slice none 0 0]] w fun en w' => ∃ v, en = .returned v ∧ isFn v ∧ Grew w w' := by
  have N1 : ((w.alloc (.cells #[.slice none 0 0, .slice none 0 0, .slice none 0 0, .slice none 0 0, .slice none 0 0, .slice none 0 0, .slice none 0 0, .int .i64 0, .slice none 0 0] 30)).alloc (.cells #[.int .i64 64283, .int .u32 0, .int .u32 0, .int .u64 0, .int .u32 0, .int .u32 0, .int .u64 0, .int .i64 0, .int .i64 0, .bool false, .int .i64 0, .slice none 0 0, .slice none 0 0, .bool false, .slice none 0 0, .slice none 0 0, .slice none 0 0] 52)).heap[w.heap.size + 1]? = some (.cells #[.int .i64 64283, .int .u32 0, .int .u32 0, .int .u64 0, .int .u32 0, .int .u32 0, .int .u64 0, .int .i64 0, .int .i64 0, .bool false, .int .i64 0, .slice none 0 0, .slice none 0 0, .bool false, .slice none 0 0, .slice none 0 0, .slice none 0 0] 52 (0, 0)) := by
    have := heap_alloc_last (w.alloc (.cells #[.slice none 0 0, .slice none 0 0, .slice none 0 0, .slice none 0 0, .slice none 0 0, .slice none 0 0, .slice none 0 0, .int .i64 0, .slice none 0 0] 30)) (.cells #[.int .i64 64283, .int .u32 0, .int .u32 0, .int .u64 0, .int .u32 0, .int .u32 0, .int .u64 0, .int .i64 0, .int .i64 0, .bool false, .int .i64 0, .slice none 0 0, .slice none 0 0, .bool false, .slice none 0 0, .slice none 0 0, .slice none 0 0] 52)
    rw [alloc_size] at this
    exact this
  have N0 : ((w.alloc (.cells #[.slice none 0 0, .slice none 0 0, .slice none 0 0, .slice none 0 0, .slice none 0 0, .slice none 0 0, .slice none 0 0, .int .i64 0, .slice none 0 0] 30)).alloc (.cells #[.int .i64 64283, .int .u32 0, .int .u32 0, .int .u64 0, .int .u32 0, .int .u32 0, .int .u64 0, .int .i64 0, .int .i64 0, .bool false, .int .i64 0, .slice none 0 0, .slice none 0 0, .bool false, .slice none 0 0, .slice none 0 0, .slice none 0 0] 52)).heap[w.heap.size]? = some (.cells #[.slice none 0 0, .slice none 0 0, .slice none 0 0, .slice none 0 0, .slice none 0 0, .slice none 0 0, .slice none 0 0, .int .i64 0, .slice none 0 0] 30 (0, 0)) := heap_alloc (heap_alloc_last _ _) _
  have HN := Hid.mk' N1
  have HM := Hid.mk' N0
  clear N1 N0
  have CQ : Hid (∀ X, Calls Tryz.prog 48 #[.agg #[.slice none 0 0, .slice none 0 0, .slice none 0 0, .slice none 0 0, .slice none 0 0, .slice none 0 0, .slice none 0 0, .int .i64 0, .slice none 0 0], .agg #[.int .i64 64283, .int .u32 0, .int .u32 0, .int .u64 0, .int .u32 0, .int .u32 0, .int .u64 0, .int .i64 0, .int .i64 0, .bool false, .int .i64 0, .slice none 0 0, .slice none 0 0, .bool false, .slice none 0 0, .slice none 0 0, .slice none 0 0]] X fun en w' => ∃ v, en = .returned v ∧ isFn v ∧ Grew X w') := sc_64283
  have GP : Hid (Grew w w) := Grew.refl w
  go_enter Tryz.func16, Tryz.ntmps16
  go_wp2_with (first
    | (with_reducible refine stop_load 30 rfl ?_
       unfold Stop
       refine wpList_load_row rfl 30 _ rfl (w.heap.size) (by go_simp) 30 #[.slice none 0 0, .slice none 0 0, .slice none 0 0, .slice none 0 0, .slice none 0 0, .slice none 0 0, .slice none 0 0, .int .i64 0, .slice none 0 0] (0, 0) _ HM.out Tryz.underlying30 rfl (by kernel_rfl) ?_)
    | (with_reducible refine stop_load 52 rfl ?_
       unfold Stop
       refine wpList_load_row rfl 52 _ rfl (w.heap.size + 1) (by go_simp) 52 #[.int .i64 64283, .int .u32 0, .int .u32 0, .int .u64 0, .int .u32 0, .int .u32 0, .int .u64 0, .int .i64 0, .int .i64 0, .bool false, .int .i64 0, .slice none 0 0, .slice none 0 0, .bool false, .slice none 0 0, .slice none 0 0, .slice none 0 0] (0, 0) _ HN.out Tryz.underlying52 rfl (by kernel_rfl) ?_)
    | fail)
  repeat (first
    | (with_reducible refine (CQ.out _).mono ?_
       rintro en wn ⟨v, rfl, hv, gn⟩
       have gx : Grew w wn := Grew.trans (by repeat (first | with_reducible exact GP.out | with_reducible exact Grew.refl _ | refine Grew.alloc ?_ _ | refine Grew.set ?_ (by simp) _ | refine Grew.drewN ?_ _ | refine Grew.drew ?_)) gn
       clear GP
       have GP := Hid.mk' gx
       clear gn gx
       obtain ⟨fn, fA, fB, rfl⟩ := hv
       go_wp2_with (first
    | (with_reducible refine stop_load 30 rfl ?_
       unfold Stop
       refine wpList_load_row rfl 30 _ rfl (w.heap.size) (by go_simp) 30 #[.slice none 0 0, .slice none 0 0, .slice none 0 0, .slice none 0 0, .slice none 0 0, .slice none 0 0, .slice none 0 0, .int .i64 0, .slice none 0 0] (0, 0) _ HM.out Tryz.underlying30 rfl (by kernel_rfl) ?_)
    | (with_reducible refine stop_load 52 rfl ?_
       unfold Stop
       refine wpList_load_row rfl 52 _ rfl (w.heap.size + 1) (by go_simp) 52 #[.int .i64 64283, .int .u32 0, .int .u32 0, .int .u64 0, .int .u32 0, .int .u32 0, .int .u64 0, .int .i64 0, .int .i64 0, .bool false, .int .i64 0, .slice none 0 0, .slice none 0 0, .bool false, .slice none 0 0, .slice none 0 0, .slice none 0 0] (0, 0) _ HN.out Tryz.underlying52 rfl (by kernel_rfl) ?_)
    | fail)))
  go_ret
  exact ⟨_, rfl, ⟨_, _, _, rfl⟩, (by repeat (first | with_reducible exact GP.out | with_reducible exact Grew.refl _ | refine Grew.alloc ?_ _ | refine Grew.set ?_ (by simp) _ | refine Grew.drewN ?_ _ | refine Grew.drew ?_))⟩
set_option maxRecDepth 100000 in
set_option maxHeartbeats 2000000 in
theorem so_64284 (w : World) : Calls Tryz.prog 16 #[.agg #[.slice none 0 0, .slice none 0 0, .slice none 0 0, .slice none 0 0, .slice none 0 0, .slice none 0 0, .slice none 0 0, .int .i64 0, .slice none 0 0], .agg #[.int .i64 64284, .int .u32 0, .int .u32 0, .int .u64 0, .int .u32 0, .int .u32 0, .int .u64 0, .int .i64 0, .int .i64 0, .bool false, .int .i64 0, .slice none 0 0, .slice none 0 0, .bool false, .slice none 0 0, .slice none 0 0, .slice none 0 0]] w fun en w' => ∃ v, en = .returned v ∧ isFn v ∧ Grew w w' := by
  have N1 : ((w.alloc (.cells #[.slice none 0 0, .slice none 0 0, .slice none 0 0, .slice none 0 0, .slice none 0 0, .slice none 0 0, .slice none 0 0, .int .i64 0, .slice none 0 0] 30)).alloc (.cells #[.int .i64 64284, .int .u32 0, .int .u32 0, .int .u64 0, .int .u32 0, .int .u32 0, .int .u64 0, .int .i64 0, .int .i64 0, .bool false, .int .i64 0, .slice none 0 0, .slice none 0 0, .bool false, .slice none 0 0, .slice none 0 0, .slice none 0 0] 52)).heap[w.heap.size + 1]? = some (.cells #[.int .i64 64284, .int .u32 0, .int .u32 0, .int .u64 0, .int .u32 0, .int .u32 0, .int .u64 0, .int .i64 0, .int .i64 0, .bool false, .int .i64 0, .slice none 0 0, .slice none 0 0, .bool false, .slice none 0 0, .slice none 0 0, .slice none 0 0] 52 (0, 0)) := by
    have := heap_alloc_last (w.alloc (.cells #[.slice none 0 0, .slice none 0 0, .slice none 0 0, .slice none 0 0, .slice none 0 0, .slice none 0 0, .slice none 0 0, .int .i64 0, .slice none 0 0] 30)) (.cells #[.int .i64 64284, .int .u32 0, .int .u32 0, .int .u64 0, .int .u32 0, .int .u32 0, .int .u64 0, .int .i64 0, .int .i64 0, .bool false, .int .i64 0, .slice none 0 0, .slice none 0 0, .bool false, .slice none 0 0, .slice none 0 0, .slice none 0 0] 52)
    rw [alloc_size] at this
    exact this
  have N0 : ((w.alloc (.cells #[.slice none 0 0, .slice none 0 0, .slice none 0 0, .slice none 0 0, .slice none 0 0, .slice none 0 0, .slice none 0 0, .int .i64 0, .slice none 0 0] 30)).alloc (.cells #[.int .i64 64284, .int .u32 0, .int .u32 0, .int .u64 0, .int .u32 0, .int .u32 0, .int .u64 0, .int .i64 0, .int .i64 0, .bool false, .int .i64 0, .slice none 0 0, .slice none 0 0, .bool false, .slice none 0 0, .slice none 0 0, .slice none 0 0] 52)).heap[w.heap.size]? = some (.cells #[.slice none 0 0, .slice none 0 0, .slice none 0 0, .slice none 0 0, .slice none 0 0, .slice none 0 0, .slice none 0 0, .int .i64 0, .slice none 0 0] 30 (0, 0)) := heap_alloc (heap_alloc_last _ _) _
  have HN := Hid.mk' N1
  have HM := Hid.mk' N0
  clear N1 N0
  have CQ : Hid (∀ X, Calls Tryz.prog 48 #[.agg #[.slice none 0 0, .slice none 0 0, .slice none 0 0, .slice none 0 0, .slice none 0 0, .slice none 0 0, .slice none 0 0, .int .i64 0, .slice none 0 0], .agg #[.int .i64 64284, .int .u32 0, .int .u32 0, .int .u64 0, .int .u32 0, .int .u32 0, .int .u64 0, .int .i64 0, .int .i64 0, .bool false, .int .i64 0, .slice none 0 0, .slice none 0 0, .bool false, .slice none 0 0, .slice none 0 0, .slice none 0 0]] X fun en w' => ∃ v, en = .returned v ∧ isFn v ∧ Grew X w') := sc_64284
  have GP : Hid (Grew w w) := Grew.refl w
  go_enter Tryz.func16, Tryz.ntmps16
  go_wp2_with (first
    | (with_reducible refine stop_load 30 rfl ?_
       unfold Stop
       refine wpList_load_row rfl 30 _ rfl (w.heap.size) (by go_simp) 30 #[.slice none 0 0, .slice none 0 0, .slice none 0 0, .slice none 0 0, .slice none 0 0, .slice none 0 0, .slice none 0 0, .int .i64 0, .slice none 0 0] (0, 0) _ HM.out Tryz.underlying30 rfl (by kernel_rfl) ?_)
    | (with_reducible refine stop_load 52 rfl ?_
       unfold Stop
       refine wpList_load_row rfl 52 _ rfl (w.heap.size + 1) (by go_simp) 52 #[.int .i64 64284, .int .u32 0, .int .u32 0, .int .u64 0, .int .u32 0, .int .u32 0, .int .u64 0, .int .i64 0, .int .i64 0, .bool false, .int .i64 0, .slice none 0 0, .slice none 0 0, .bool false, .slice none 0 0, .slice none 0 0, .slice none 0 0] (0, 0) _ HN.out Tryz.underlying52 rfl (by kernel_rfl) ?_)
    | fail)
  repeat (first
    | (with_reducible refine (CQ.out _).mono ?_
       rintro en wn ⟨v, rfl, hv, gn⟩
       have gx : Grew w wn := Grew.trans (by repeat (first | with_reducible exact GP.out | with_reducible exact Grew.refl _ | refine Grew.alloc ?_ _ | refine Grew.set ?_ (by simp) _ | refine Grew.drewN ?_ _ | refine Grew.drew ?_)) gn
       clear GP
       have GP := Hid.mk' gx
       clear gn gx
       obtain ⟨fn, fA, fB, rfl⟩ := hv
       go_wp2_with (first
    | (with_reducible refine stop_load 30 rfl ?_
       unfold Stop
       refine wpList_load_row rfl 30 _ rfl (w.heap.size) (by go_simp) 30 #[.slice none 0 0, .slice none 0 0, .slice none 0 0, .slice none 0 0, .slice none 0 0, .slice none 0 0, .slice none 0 0, .int .i64 0, .slice none 0 0] (0, 0) _ HM.out Tryz.underlying30 rfl (by kernel_rfl) ?_)
    | (with_reducible refine stop_load 52 rfl ?_
       unfold Stop
       refine wpList_load_row rfl 52 _ rfl (w.heap.size + 1) (by go_simp) 52 #[.int .i64 64284, .int .u32 0, .int .u32 0, .int .u64 0, .int .u32 0, .int .u32 0, .int .u64 0, .int .i64 0, .int .i64 0, .bool false, .int .i64 0, .slice none 0 0, .slice none 0 0, .bool false, .slice none 0 0, .slice none 0 0, .slice none 0 0] (0, 0) _ HN.out Tryz.underlying52 rfl (by kernel_rfl) ?_)
    | fail)))
  go_ret
  exact ⟨_, rfl, ⟨_, _, _, rfl⟩, (by repeat (first | with_reducible exact GP.out | with_reducible exact Grew.refl _ | refine Grew.alloc ?_ _ | refine Grew.set ?_ (by simp) _ | refine Grew.drewN ?_ _ | refine Grew.drew ?_))⟩
set_option maxRecDepth 100000 in
set_option maxHeartbeats 2000000 in
theorem so_64285 (w : World) : Calls Tryz.prog 16 #[.agg #[.slice none 0 0, .slice none 0 0, .slice none 0 0, .slice none 0 0, .slice none 0 0, .slice none 0 0, .slice none 0 0, .int .i64 0, .slice none 0 0], .agg #[.int .i64 64285, .int .u32 0, .int .u32 0, .int .u64 0, .int .u32 0, .int .u32 0, .int .u64 0, .int .i64 0, .int .i64 0, .bool false, .int .i64 0, .slice none 0 0, .slice none 0 0, .bool false, .slice none 0 0, .slice none 0 0, .slice none 0 0]] w fun en w' => ∃ v, en = .returned v ∧ isFn v ∧ Grew w w' := by
  have N1 : ((w.alloc (.cells #[.slice none 0 0, .slice none 0 0, .slice none 0 0, .slice none 0 0, .slice none 0 0, .slice none 0 0, .slice none 0 0, .int .i64 0, .slice none 0 0] 30)).alloc (.cells #[.int .i64 64285, .int .u32 0, .int .u32 0, .int .u64 0, .int .u32 0, .int .u32 0, .int .u64 0, .int .i64 0, .int .i64 0, .bool false, .int .i64 0, .slice none 0 0, .slice none 0 0, .bool false, .slice none 0 0, .slice none 0 0, .slice none 0 0] 52)).heap[w.heap.size + 1]? = some (.cells #[.int .i64 64285, .int .u32 0, .int .u32 0, .int .u64 0, .int .u32 0, .int .u32 0, .int .u64 0, .int .i64 0, .int .i64 0, .bool false, .int .i64 0, .slice none 0 0, .slice none 0 0, .bool false, .slice none 0 0, .slice none 0 0, .slice none 0 0] 52 (0, 0)) := by
    have := heap_alloc_last (w.alloc (.cells #[.slice none 0 0, .slice none 0 0, .slice none 0 0, .slice none 0 0, .slice none 0 0, .slice none 0 0, .slice none 0 0, .int .i64 0, .slice none 0 0] 30)) (.cells #[.int .i64 64285, .int .u32 0, .int .u32 0, .int .u64 0, .int .u32 0, .int .u32 0, .int .u64 0, .int .i64 0, .int .i64 0, .bool false, .int .i64 0, .slice none 0 0, .slice none 0 0, .bool false, .slice none 0 0, .slice none 0 0, .slice none 0 0] 52)
    rw [alloc_size] at this
    exact this
  have N0 : ((w.alloc (.cells #[.slice none 0 0, .slice none 0 0, .slice none 0 0, .slice none 0 0, .slice none 0 0, .slice none 0 0, .slice none 0 0, .int .i64 0, .slice none 0 0] 30)).alloc (.cells #[.int .i64 64285, .int .u32 0, .int .u32 0, .int .u64 0, .int .u32 0, .int .u32 0, .int .u64 0, .int .i64 0, .int .i64 0, .bool false, .int .i64 0, .slice none 0 0, .slice none 0 0, .bool false, .slice none 0 0, .slice none 0 0, .slice none 0 0] 52)).heap[w.heap.size]? = some (.cells #[.slice none 0 0, .slice none 0 0, .slice none 0 0, .slice none 0 0, .slice none 0 0, .slice none 0 0, .slice none 0 0, .int .i64 0, .slice none 0 0] 30 (0, 0)) := heap_alloc (heap_alloc_last _ _) _
  have HN := Hid.mk' N1
  have HM := Hid.mk' N0
  clear N1 N0
  have CQ : Hid (∀ X, Calls Tryz.prog 48 #[.agg #[.slice none 0 0, .slice none 0 0, .slice none 0 0, .slice none 0 0, .slice none 0 0, .slice none 0 0, .slice none 0 0, .int .i64 0, .slice none 0 0], .agg #[.int .i64 64285, .int .u32 0, .int .u32 0, .int .u64 0, .int .u32 0, .int .u32 0, .int .u64 0, .int .i64 0, .int .i64 0, .bool false, .int .i64 0, .slice none 0 0, .slice none 0 0, .bool false, .slice none 0 0, .slice none 0 0, .slice none 0 0]] X fun en w' => ∃ v, en = .returned v ∧ isFn v ∧ Grew X w') := sc_64285
  have GP : Hid (Grew w w) := Grew.refl w
  go_enter Tryz.func16, Tryz.ntmps16
  go_wp2_with (first
    | (with_reducible refine stop_load 30 rfl ?_
       unfold Stop
       refine wpList_load_row rfl 30 _ rfl (w.heap.size) (by go_simp) 30 #[.slice none 0 0, .slice none 0 0, .slice none 0 0, .slice none 0 0, .slice none 0 0, .slice none 0 0, .slice none 0 0, .int .i64 0, .slice none 0 0] (0, 0) _ HM.out Tryz.underlying30 rfl (by kernel_rfl) ?_)
    | (with_reducible refine stop_load 52 rfl ?_
       unfold Stop
       refine wpList_load_row rfl 52 _ rfl (w.heap.size + 1) (by go_simp) 52 #[.int .i64 64285, .int .u32 0, .int .u32 0, .int .u64 0, .int .u32 0, .int .u32 0, .int .u64 0, .int .i64 0, .int .i64 0, .bool false, .int .i64 0, .slice none 0 0, .slice none 0 0, .bool false, .slice none 0 0, .slice none 0 0, .slice none 0 0] (0, 0) _ HN.out Tryz.underlying52 rfl (by kernel_rfl) ?_)
    | fail)
  repeat (first
    | (with_reducible refine (CQ.out _).mono ?_
       rintro en wn ⟨v, rfl, hv, gn⟩
       have gx : Grew w wn := Grew.trans (by repeat (first | with_reducible exact GP.out | with_reducible exact Grew.refl _ | refine Grew.alloc ?_ _ | refine Grew.set ?_ (by simp) _ | refine Grew.drewN ?_ _ | refine Grew.drew ?_)) gn
       clear GP
       have GP := Hid.mk' gx
       clear gn gx
       obtain ⟨fn, fA, fB, rfl⟩ := hv
       go_wp2_with (first
    | (with_reducible refine stop_load 30 rfl ?_
       unfold Stop
       refine wpList_load_row rfl 30 _ rfl (w.heap.size) (by go_simp) 30 #[.slice none 0 0, .slice none 0 0, .slice none 0 0, .slice none 0 0, .slice none 0 0, .slice none 0 0, .slice none 0 0, .int .i64 0, .slice none 0 0] (0, 0) _ HM.out Tryz.underlying30 rfl (by kernel_rfl) ?_)
    | (with_reducible refine stop_load 52 rfl ?_
       unfold Stop
       refine wpList_load_row rfl 52 _ rfl (w.heap.size + 1) (by go_simp) 52 #[.int .i64 64285, .int .u32 0, .int .u32 0, .int .u64 0, .int .u32 0, .int .u32 0, .int .u64 0, .int .i64 0, .int .i64 0, .bool false, .int .i64 0, .slice none 0 0, .slice none 0 0, .bool false, .slice none 0 0, .slice none 0 0, .slice none 0 0] (0, 0) _ HN.out Tryz.underlying52 rfl (by kernel_rfl) ?_)
    | fail)))
  go_ret
  exact ⟨_, rfl, ⟨_, _, _, rfl⟩, (by repeat (first | with_reducible exact GP.out | with_reducible exact Grew.refl _ | refine Grew.alloc ?_ _ | refine Grew.set ?_ (by simp) _ | refine Grew.drewN ?_ _ | refine Grew.drew ?_))⟩
set_option maxRecDepth 100000 in
set_option maxHeartbeats 2000000 in
theorem so_64286 (w : World) : Calls Tryz.prog 16 #[.agg #[.slice none 0 0, .slice none 0 0, .slice none 0 0, .slice none 0 0, .slice none 0 0, .slice none 0 0, .slice none 0 0, .int .i64 0, .slice none 0 0], .agg #[.int .i64 64286, .int .u32 0, .int .u32 0, .int .u64 0, .int .u32 0, .int .u32 0, .int .u64 0, .int .i64 0, .int .i64 0, .bool false, .int .i64 0, .slice none 0 0, .slice none 0 0, .bool false, .slice none 0 0, .slice none 0 0, .slice none 0 0]] w fun en w' => ∃ v, en = .returned v ∧ isFn v ∧ Grew w w' := by
  have N1 : ((w.alloc (.cells #[.slice none 0 0, .slice none 0 0, .slice none 0 0, .slice none 0 0, .slice none 0 0, .slice none 0 0, .slice none 0 0, .int .i64 0, .slice none 0 0] 30)).alloc (.cells #[.int .i64 64286, .int .u32 0, .int .u32 0, .int .u64 0, .int .u32 0, .int .u32 0, .int .u64 0, .int .i64 0, .int .i64 0, .bool false, .int .i64 0, .slice none 0 0, .slice none 0 0, .bool false, .slice none 0 0, .slice none 0 0, .slice none 0 0] 52)).heap[w.heap.size + 1]? = some (.cells #[.int .i64 64286, .int .u32 0, .int .u32 0, .int .u64 0, .int .u32 0, .int .u32 0, .int .u64 0, .int .i64 0, .int .i64 0, .bool false, .int .i64 0, .slice none 0 0, .slice none 0 0, .bool false, .slice none 0 0, .slice none 0 0, .slice none 0 0] 52 (0, 0)) := by
    have := heap_alloc_last (w.alloc (.cells #[.slice none 0 0, .slice none 0 0, .slice none 0 0, .slice none 0 0, .slice none 0 0, .slice none 0 0, .slice none 0 0, .int .i64 0, .slice none 0 0] 30)) (.cells #[.int .i64 64286, .int .u32 0, .int .u32 0, .int .u64 0, .int .u32 0, .int .u32 0, .int .u64 0, .int .i64 0, .int .i64 0, .bool false, .int .i64 0, .slice none 0 0, .slice none 0 0, .bool false, .slice none 0 0, .slice none 0 0, .slice none 0 0] 52)
    rw [alloc_size] at this
    exact this
  have N0 : ((w.alloc (.cells #[.slice none 0 0, .slice none 0 0, .slice none 0 0, .slice none 0 0, .slice none 0 0, .slice none 0 0, .slice none 0 0, .int .i64 0, .slice none 0 0] 30)).alloc (.cells #[.int .i64 64286, .int .u32 0, .int .u32 0, .int .u64 0, .int .u32 0, .int .u32 0, .int .u64 0, .int .i64 0, .int .i64 0, .bool false, .int .i64 0, .slice none 0 0, .slice none 0 0, .bool false, .slice none 0 0, .slice none 0 0, .slice none 0 0] 52)).heap[w.heap.size]? = some (.cells #[.slice none 0 0, .slice none 0 0, .slice none 0 0, .slice none 0 0, .slice none 0 0, .slice none 0 0, .slice none 0 0, .int .i64 0, .slice none 0 0] 30 (0, 0)) := heap_alloc (heap_alloc_last _ _) _
  have HN := Hid.mk' N1
  have HM := Hid.mk' N0
  clear N1 N0
  have CQ : Hid (∀ X, Calls Tryz.prog 48 #[.agg #[.slice none 0 0, .slice none 0 0, .slice none 0 0, .slice none 0 0, .slice none 0 0, .slice none 0 0, .slice none 0 0, .int .i64 0, .slice none 0 0], .agg #[.int .i64 64286, .int .u32 0, .int .u32 0, .int .u64 0, .int .u32 0, .int .u32 0, .int .u64 0, .int .i64 0, .int .i64 0, .bool false, .int .i64 0, .slice none 0 0, .slice none 0 0, .bool false, .slice none 0 0, .slice none 0 0, .slice none 0 0]] X fun en w' => ∃ v, en = .returned v ∧ isFn v ∧ Grew X w') := sc_64286
  have GP : Hid (Grew w w) := Grew.refl w
  go_enter Tryz.func16, Tryz.ntmps16
  go_wp2_with (first
    | (with_reducible refine stop_load 30 rfl ?_
       unfold Stop
       refine wpList_load_row rfl 30 _ rfl (w.heap.size) (by go_simp) 30 #[.slice none 0 0, .slice none 0 0, .slice none 0 0, .slice none 0 0, .slice none 0 0, .slice none 0 0, .slice none 0 0, .int .i64 0, .slice none 0 0] (0, 0) _ HM.out Tryz.underlying30 rfl (by kernel_rfl) ?_)
    | (with_reducible refine stop_load 52 rfl ?_
       unfold Stop
       refine wpList_load_row rfl 52 _ rfl (w.heap.size + 1) (by go_simp) 52 #[.int .i64 64286, .int .u32 0, .int .u32 0, .int .u64 0, .int .u32 0, .int .u32 0, .int .u64 0, .int .i64 0, .int .i64 0, .bool false, .int .i64 0, .slice none 0 0, .slice none 0 0, .bool false, .slice none 0 0, .slice none 0 0, .slice none 0 0] (0, 0) _ HN.out Tryz.underlying52 rfl (by kernel_rfl) ?_)
    | fail)
  repeat (first
    | (with_reducible refine (CQ.out _).mono ?_
       rintro en wn ⟨v, rfl, hv, gn⟩
       have gx : Grew w wn := Grew.trans (by repeat (first | with_reducible exact GP.out | with_reducible exact Grew.refl _ | refine Grew.alloc ?_ _ | refine Grew.set ?_ (by simp) _ | refine Grew.drewN ?_ _ | refine Grew.drew ?_)) gn
       clear GP
       have GP := Hid.mk' gx
       clear gn gx
       obtain ⟨fn, fA, fB, rfl⟩ := hv
       go_wp2_with (first
    | (with_reducible refine stop_load 30 rfl ?_
       unfold Stop
       refine wpList_load_row rfl 30 _ rfl (w.heap.size) (by go_simp) 30 #[.slice none 0 0, .slice none 0 0, .slice none 0 0, .slice none 0 0, .slice none 0 0, .slice none 0 0, .slice none 0 0, .int .i64 0, .slice none 0 0] (0, 0) _ HM.out Tryz.underlying30 rfl (by kernel_rfl) ?_)
    | (with_reducible refine stop_load 52 rfl ?_
       unfold Stop
       refine wpList_load_row rfl 52 _ rfl (w.heap.size + 1) (by go_simp) 52 #[.int .i64 64286, .int .u32 0, .int .u32 0, .int .u64 0, .int .u32 0, .int .u32 0, .int .u64 0, .int .i64 0, .int .i64 0, .bool false, .int .i64 0, .slice none 0 0, .slice none 0 0, .bool false, .slice none 0 0, .slice none 0 0, .slice none 0 0] (0, 0) _ HN.out Tryz.underlying52 rfl (by kernel_rfl) ?_)
    | fail)))
  go_ret
  exact ⟨_, rfl, ⟨_, _, _, rfl⟩, (by repeat (first | with_reducible exact GP.out | with_reducible exact Grew.refl _ | refine Grew.alloc ?_ _ | refine Grew.set ?_ (by simp) _ | refine Grew.drewN ?_ _ | refine Grew.drew ?_))⟩
end Go.Proofs.YtikbfhhebhhglaaGreatDoor
