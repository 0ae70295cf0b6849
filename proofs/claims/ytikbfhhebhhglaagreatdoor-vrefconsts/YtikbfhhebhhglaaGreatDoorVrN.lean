/-
  vref's table of steps: which opcodes have none; the predicate of Ops; no statement is proved here.
-/
import Derived.Test.YtikbfhhebhhglaaGreatDoorVrS
namespace Go.Proofs.YtikbfhhebhhglaaGreatDoor
open Go.RowKit
set_option linter.unusedVariables false
set_option linter.unusedSimpArgs false

theorem ne_of_VR {op c : Int} (h : inVR op = false) (hc : inVR c = true) : (op == c) = false := by
  rw [beq_eq_false_iff_ne]
  intro e
  rw [e, hc] at h
  cases h
set_option maxRecDepth 100000 in
set_option maxHeartbeats 4000000 in
theorem sc_no (op : Int) (h : inVR op = false) (w : World) : Calls Tryz.prog 48 #[.agg #[.slice none 0 0, .slice none 0 0, .slice none 0 0, .slice none 0 0, .slice none 0 0, .slice none 0 0, .slice none 0 0, .int .i64 0, .slice none 0 0], .agg #[.int .i64 op, .int .u32 0, .int .u32 0, .int .u64 0, .int .u32 0, .int .u32 0, .int .u64 0, .int .i64 0, .int .i64 0, .bool false, .int .i64 0, .slice none 0 0, .slice none 0 0, .bool false, .slice none 0 0, .slice none 0 0, .slice none 0 0]] w fun en w' => en = .returned .nilFunc ∧ Grew w w' := by
  have hd : ∀ c, inVR c = true → (op == c) = false := fun c hc => ne_of_VR h hc
  have e64276 := hd 64276 (by decide)
  have e64277 := hd 64277 (by decide)
  have e64278 := hd 64278 (by decide)
  have e64279 := hd 64279 (by decide)
  have e64280 := hd 64280 (by decide)
  have e64281 := hd 64281 (by decide)
  have e64282 := hd 64282 (by decide)
  have e64283 := hd 64283 (by decide)
  have e64284 := hd 64284 (by decide)
  have e64285 := hd 64285 (by decide)
  have e64286 := hd 64286 (by decide)
  clear hd h
  go_enter Tryz.func48, Tryz.ntmps48
  go_wp2_with fail
  go_ret
  exact ⟨rfl, (by repeat (first | with_reducible exact Grew.refl _ | refine Grew.alloc ?_ _ | refine Grew.set ?_ (by simp) _ | refine Grew.drewN ?_ _ | refine Grew.drew ?_))⟩
set_option maxRecDepth 100000 in
set_option maxHeartbeats 4000000 in
theorem so_no (op : Int) (h : inVR op = false) (w : World) : Calls Tryz.prog 16 #[.agg #[.slice none 0 0, .slice none 0 0, .slice none 0 0, .slice none 0 0, .slice none 0 0, .slice none 0 0, .slice none 0 0, .int .i64 0, .slice none 0 0], .agg #[.int .i64 op, .int .u32 0, .int .u32 0, .int .u64 0, .int .u32 0, .int .u32 0, .int .u64 0, .int .i64 0, .int .i64 0, .bool false, .int .i64 0, .slice none 0 0, .slice none 0 0, .bool false, .slice none 0 0, .slice none 0 0, .slice none 0 0]] w fun en w' => en = .returned .nilFunc ∧ Grew w w' := by
  have N1 : ((w.alloc (.cells #[.slice none 0 0, .slice none 0 0, .slice none 0 0, .slice none 0 0, .slice none 0 0, .slice none 0 0, .slice none 0 0, .int .i64 0, .slice none 0 0] 30)).alloc (.cells #[.int .i64 op, .int .u32 0, .int .u32 0, .int .u64 0, .int .u32 0, .int .u32 0, .int .u64 0, .int .i64 0, .int .i64 0, .bool false, .int .i64 0, .slice none 0 0, .slice none 0 0, .bool false, .slice none 0 0, .slice none 0 0, .slice none 0 0] 52)).heap[w.heap.size + 1]? = some (.cells #[.int .i64 op, .int .u32 0, .int .u32 0, .int .u64 0, .int .u32 0, .int .u32 0, .int .u64 0, .int .i64 0, .int .i64 0, .bool false, .int .i64 0, .slice none 0 0, .slice none 0 0, .bool false, .slice none 0 0, .slice none 0 0, .slice none 0 0] 52 (0, 0)) := by
    have := heap_alloc_last (w.alloc (.cells #[.slice none 0 0, .slice none 0 0, .slice none 0 0, .slice none 0 0, .slice none 0 0, .slice none 0 0, .slice none 0 0, .int .i64 0, .slice none 0 0] 30)) (.cells #[.int .i64 op, .int .u32 0, .int .u32 0, .int .u64 0, .int .u32 0, .int .u32 0, .int .u64 0, .int .i64 0, .int .i64 0, .bool false, .int .i64 0, .slice none 0 0, .slice none 0 0, .bool false, .slice none 0 0, .slice none 0 0, .slice none 0 0] 52)
    rw [alloc_size] at this
    exact this
  have N0 : ((w.alloc (.cells #[.slice none 0 0, .slice none 0 0, .slice none 0 0, .slice none 0 0, .slice none 0 0, .slice none 0 0, .slice none 0 0, .int .i64 0, .slice none 0 0] 30)).alloc (.cells #[.int .i64 op, .int .u32 0, .int .u32 0, .int .u64 0, .int .u32 0, .int .u32 0, .int .u64 0, .int .i64 0, .int .i64 0, .bool false, .int .i64 0, .slice none 0 0, .slice none 0 0, .bool false, .slice none 0 0, .slice none 0 0, .slice none 0 0] 52)).heap[w.heap.size]? = some (.cells #[.slice none 0 0, .slice none 0 0, .slice none 0 0, .slice none 0 0, .slice none 0 0, .slice none 0 0, .slice none 0 0, .int .i64 0, .slice none 0 0] 30 (0, 0)) := heap_alloc (heap_alloc_last _ _) _
  have HN := Hid.mk' N1
  have HM := Hid.mk' N0
  clear N1 N0
  have CQ : Hid (∀ X, Calls Tryz.prog 48 #[.agg #[.slice none 0 0, .slice none 0 0, .slice none 0 0, .slice none 0 0, .slice none 0 0, .slice none 0 0, .slice none 0 0, .int .i64 0, .slice none 0 0], .agg #[.int .i64 op, .int .u32 0, .int .u32 0, .int .u64 0, .int .u32 0, .int .u32 0, .int .u64 0, .int .i64 0, .int .i64 0, .bool false, .int .i64 0, .slice none 0 0, .slice none 0 0, .bool false, .slice none 0 0, .slice none 0 0, .slice none 0 0]] X fun en w' => en = .returned .nilFunc ∧ Grew X w') := fun X => sc_no op h X
  have hd : ∀ c, inVR c = true → (op == c) = false := fun c hc => ne_of_VR h hc
  have e208 := hd 208 (by decide)
  have e209 := hd 209 (by decide)
  have e210 := hd 210 (by decide)
  have e211 := hd 211 (by decide)
  have e212 := hd 212 (by decide)
  have e64256 := hd 64256 (by decide)
  have e64257 := hd 64257 (by decide)
  have e64258 := hd 64258 (by decide)
  have e64259 := hd 64259 (by decide)
  have e64260 := hd 64260 (by decide)
  have e64261 := hd 64261 (by decide)
  have e64262 := hd 64262 (by decide)
  have e64263 := hd 64263 (by decide)
  have e64264 := hd 64264 (by decide)
  have e64265 := hd 64265 (by decide)
  have e64266 := hd 64266 (by decide)
  have e64267 := hd 64267 (by decide)
  have e64268 := hd 64268 (by decide)
  have e64269 := hd 64269 (by decide)
  have e64270 := hd 64270 (by decide)
  have e64271 := hd 64271 (by decide)
  have e64272 := hd 64272 (by decide)
  have e64273 := hd 64273 (by decide)
  have e64274 := hd 64274 (by decide)
  have e64275 := hd 64275 (by decide)
  clear hd h
  have GP : Hid (Grew w w) := Grew.refl w
  go_enter Tryz.func16, Tryz.ntmps16
  go_wp2_with (first
    | (with_reducible refine stop_load 30 rfl ?_
       unfold Stop
       refine wpList_load_row rfl 30 _ rfl (w.heap.size) (by go_simp) 30 #[.slice none 0 0, .slice none 0 0, .slice none 0 0, .slice none 0 0, .slice none 0 0, .slice none 0 0, .slice none 0 0, .int .i64 0, .slice none 0 0] (0, 0) _ HM.out Tryz.underlying30 rfl (by kernel_rfl) ?_)
    | (with_reducible refine stop_load 52 rfl ?_
       unfold Stop
       refine wpList_load_row rfl 52 _ rfl (w.heap.size + 1) (by go_simp) 52 #[.int .i64 op, .int .u32 0, .int .u32 0, .int .u64 0, .int .u32 0, .int .u32 0, .int .u64 0, .int .i64 0, .int .i64 0, .bool false, .int .i64 0, .slice none 0 0, .slice none 0 0, .bool false, .slice none 0 0, .slice none 0 0, .slice none 0 0] (0, 0) _ HN.out Tryz.underlying52 rfl (by kernel_rfl) ?_)
    | fail)
  refine (CQ.out _).mono ?_
  rintro en wn ⟨rfl, gn⟩
  have gx : Grew w wn := Grew.trans (by repeat (first | with_reducible exact GP.out | with_reducible exact Grew.refl _ | refine Grew.alloc ?_ _ | refine Grew.set ?_ (by simp) _ | refine Grew.drewN ?_ _ | refine Grew.drew ?_)) gn
  clear GP
  have GP := Hid.mk' gx
  clear gn gx
  go_wp2_with fail
  go_ret
  exact ⟨rfl, GP.out⟩
theorem so_all (op : Int) (h : inVR op = true) (w : World) : Calls Tryz.prog 16 #[.agg #[.slice none 0 0, .slice none 0 0, .slice none 0 0, .slice none 0 0, .slice none 0 0, .slice none 0 0, .slice none 0 0, .int .i64 0, .slice none 0 0], .agg #[.int .i64 op, .int .u32 0, .int .u32 0, .int .u64 0, .int .u32 0, .int .u32 0, .int .u64 0, .int .i64 0, .int .i64 0, .bool false, .int .i64 0, .slice none 0 0, .slice none 0 0, .bool false, .slice none 0 0, .slice none 0 0, .slice none 0 0]] w fun en w' => ∃ v, en = .returned v ∧ isFn v ∧ Grew w w' := by
  have hl : op ∈ ([208, 209, 210, 211, 212, 64256, 64257, 64258, 64259, 64260, 64261, 64262, 64263, 64264, 64265, 64266, 64267, 64268, 64269, 64270, 64271, 64272, 64273, 64274, 64275, 64276, 64277, 64278, 64279, 64280, 64281, 64282, 64283, 64284, 64285, 64286] : List Int) := by
    unfold inVR at h
    simp only [Bool.or_eq_true, Bool.and_eq_true, decide_eq_true_eq] at h
    simp only [List.mem_cons, List.mem_nil_iff, or_false]
    omega
  simp only [List.mem_cons, List.mem_nil_iff, or_false] at hl
  rcases hl with rfl | rfl | rfl | rfl | rfl | rfl | rfl | rfl | rfl | rfl | rfl | rfl | rfl | rfl | rfl | rfl | rfl | rfl | rfl | rfl | rfl | rfl | rfl | rfl | rfl | rfl | rfl | rfl | rfl | rfl | rfl | rfl | rfl | rfl | rfl | rfl
  · exact so_208 w
  · exact so_209 w
  · exact so_210 w
  · exact so_211 w
  · exact so_212 w
  · exact so_64256 w
  · exact so_64257 w
  · exact so_64258 w
  · exact so_64259 w
  · exact so_64260 w
  · exact so_64261 w
  · exact so_64262 w
  · exact so_64263 w
  · exact so_64264 w
  · exact so_64265 w
  · exact so_64266 w
  · exact so_64267 w
  · exact so_64268 w
  · exact so_64269 w
  · exact so_64270 w
  · exact so_64271 w
  · exact so_64272 w
  · exact so_64273 w
  · exact so_64274 w
  · exact so_64275 w
  · exact so_64276 w
  · exact so_64277 w
  · exact so_64278 w
  · exact so_64279 w
  · exact so_64280 w
  · exact so_64281 w
  · exact so_64282 w
  · exact so_64283 w
  · exact so_64284 w
  · exact so_64285 w
  · exact so_64286 w
theorem eq_fnn (n : Nat) (A B : Array Value) (w : World) : (binOp .eql 72 (.func (.func n) A B) .nilFunc).run Tryz.prog w = .ok (.bool false) w := by kernel_rfl
theorem eq_fn0 (w : World) : (binOp .eql 72 .nilFunc .nilFunc).run Tryz.prog w = .ok (.bool true) w := by kernel_rfl
set_option maxRecDepth 100000 in
set_option maxHeartbeats 2000000 in
theorem ops1_any (w : World) (op : Int) : Calls Tryz.prog 15 #[.int .i64 op] w fun en w' => en = .returned (.bool (!inVR op)) ∧ Grew w w' := by
  cases h : inVR op with
  | false =>
    have CQ : Hid (∀ X, Calls Tryz.prog 16 #[.agg #[.slice none 0 0, .slice none 0 0, .slice none 0 0, .slice none 0 0, .slice none 0 0, .slice none 0 0, .slice none 0 0, .int .i64 0, .slice none 0 0], .agg #[.int .i64 op, .int .u32 0, .int .u32 0, .int .u64 0, .int .u32 0, .int .u32 0, .int .u64 0, .int .i64 0, .int .i64 0, .bool false, .int .i64 0, .slice none 0 0, .slice none 0 0, .bool false, .slice none 0 0, .slice none 0 0, .slice none 0 0]] X fun en w' => en = .returned .nilFunc ∧ Grew X w') := fun X => so_no op h X
    have E0 := eq_fn0
    clear h
    go_enter Tryz.func15, Tryz.ntmps15
    go_wp2_with fail
    refine (CQ.out _).mono ?_
    rintro en wn ⟨rfl, gn⟩
    have GP := Hid.mk' gn
    clear gn CQ
    go_wp2_with fail
    go_ret
    exact ⟨rfl, GP.out⟩
  | true =>
    have CQ : Hid (∀ X, Calls Tryz.prog 16 #[.agg #[.slice none 0 0, .slice none 0 0, .slice none 0 0, .slice none 0 0, .slice none 0 0, .slice none 0 0, .slice none 0 0, .int .i64 0, .slice none 0 0], .agg #[.int .i64 op, .int .u32 0, .int .u32 0, .int .u64 0, .int .u32 0, .int .u32 0, .int .u64 0, .int .i64 0, .int .i64 0, .bool false, .int .i64 0, .slice none 0 0, .slice none 0 0, .bool false, .slice none 0 0, .slice none 0 0, .slice none 0 0]] X fun en w' => ∃ v, en = .returned v ∧ isFn v ∧ Grew X w') := fun X => so_all op h X
    have E1 := eq_fnn
    clear h
    go_enter Tryz.func15, Tryz.ntmps15
    go_wp2_with fail
    refine (CQ.out _).mono ?_
    rintro en wn ⟨v, rfl, hv, gn⟩
    have GP := Hid.mk' gn
    obtain ⟨fn, fA, fB, rfl⟩ := hv
    clear gn CQ
    go_wp2_with fail
    go_ret
    exact ⟨rfl, GP.out⟩
end Go.Proofs.YtikbfhhebhhglaaGreatDoor
