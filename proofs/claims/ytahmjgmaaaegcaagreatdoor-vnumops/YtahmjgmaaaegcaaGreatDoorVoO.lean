/-
  vnum's Ops, Addr, Least, and the document's; no statement is proved here.
-/
import Derived.Test.YtahmjgmaaaegcaaGreatDoorVoM
import Derived.Test.YtahmjgmaaaegcaaGreatDoorFindW
namespace Go.Proofs.YtahmjgmaaaegcaaGreatDoor
open Go.RowKit
set_option linter.unusedVariables false
set_option linter.unusedSimpArgs false

theorem rform_any (op : Int) (h0 : -9223372036854775808 ≤ op) (h1 : op ≤ 9223372036854775807) (w : World) : Calls Tryz.prog 24 #[.int .i64 op] w fun e w' => e = .returned (.string (BA (formD op))) ∧ Grew w w' := refForm_any op h0 h1 w
set_option maxRecDepth 100000 in
set_option maxHeartbeats 2000000 in
theorem takesKnown_any (op : Int) (h0 : -9223372036854775808 ≤ op) (h1 : op ≤ 9223372036854775807) (w : World) : Calls Tryz.prog 6 #[.int .i64 op] w fun en w' => en = .returned (.bool (inVL op)) ∧ Grew w w' := by
  have hI := inVL_takes op
  have C1 := takes_any op w
  have C2 : Hid (∀ W, Calls Tryz.prog 24 #[.int .i64 op] W fun e w' => e = .returned (.string (BA (formD op))) ∧ Grew W w') := fun W => rform_any op h0 h1 W
  have hz := BA_empty (formD op)
  rw [← hz] at hI
  have HI : Hid (inVL op = (takesB op && !(BA (formD op)).toList.isEmpty)) := hI
  clear hI hz h0 h1
  generalize BA (formD op) = X at *
  cases ht : takesB op with
  | true =>
    rw [ht] at C1
    go_enter Tryz.func6, Tryz.ntmps6
    go_wp2_with fail
    refine C1.mono ?_
    rintro e w1 ⟨rfl, hw⟩
    obtain rfl := hw.symm
    clear hw C1
    go_wp2_with fail
    refine (C2.out _).mono ?_
    rintro e w2 ⟨rfl, g2⟩
    have G2 : Hid (Grew w w2) := g2
    clear g2 C2
    go_wp2_with fail
    go_ret
    refine ⟨?_, G2.out⟩
    rw [HI.out, ht]
    simp
  | false =>
    rw [ht] at C1
    go_enter Tryz.func6, Tryz.ntmps6
    go_wp2_with fail
    refine C1.mono ?_
    rintro e w1 ⟨rfl, hw⟩
    obtain rfl := hw.symm
    clear hw C1
    go_wp2_with fail
    go_ret
    refine ⟨?_, Grew.refl _⟩
    rw [HI.out, ht]
    simp
def LMc (wd : Bool) (a b : Int) (h : Bool) : Value := .agg #[.bool wd, .int .u64 a, .int .u64 b, .bool h]
def adT (wd : Bool) : Value := TI (if wd then 2 else 1)
set_option maxRecDepth 100000 in
set_option maxHeartbeats 2000000 in
theorem saddr_any (wd : Bool) (a b : Int) (h : Bool) (w : World) : Calls Tryz.prog 25 #[.agg #[.bool wd, .int .u64 a, .int .u64 b, .bool h]] w fun en w' => en = .returned (adT wd) ∧ Grew w w' := by
  have C1 : Hid (∀ W, Calls Tryz.prog 64 #[] W fun en w' => en = .returned (TI 1) ∧ Grew W w') := i32_any
  unfold TI at C1
  cases wd with
  | true =>
    go_enter Tryz.func25, Tryz.ntmps25
    go_wp2_with fail
    refine bodyPost_ret (v := adT true) (by simp [adT, TI, results, Tryz.results25, go_sem]) rfl ?_
    exact ⟨rfl, by repeat (first | with_reducible exact Grew.refl _ | refine Grew.alloc ?_ _ | refine Grew.set ?_ (by simp) _)⟩
  | false =>
    go_enter Tryz.func25, Tryz.ntmps25
    go_wp2_with fail
    refine (C1.out _).mono ?_
    rintro e w1 ⟨rfl, g1⟩
    obtain ⟨gg, hl, n0, n1, n2, z0, z1, z2⟩ := vfresh3 g1
    have G1 : Hid (Grew w w1) := ((Grew.refl w).alloc _).trans gg
    clear g1 gg C1
    rw [alloc_size] at *
    go_wp2_with fail
    refine bodyPost_ret (v := adT false) (by simp [adT, TI, results, Tryz.results25, go_sem, n0, n1, n2]) rfl ?_
    exact ⟨rfl, ((G1.out.set (p := ⟨w.heap.size + 1, 0, none⟩) (Nat.le_succ _) _).set (p := ⟨w.heap.size + 1, 1, none⟩) (Nat.le_succ _) _).set (p := ⟨w.heap.size + 1, 2, none⟩) (Nat.le_succ _) _⟩
set_option maxRecDepth 100000 in
set_option maxHeartbeats 2000000 in
theorem addr_any (wd : Bool) (a b : Int) (h : Bool) (w : World) : Calls Tryz.prog 7 #[.agg #[.bool wd, .int .u64 a, .int .u64 b, .bool h]] w fun en w' => en = .returned (adT wd) ∧ Grew w w' := by
  have C1 : Hid (∀ W, Calls Tryz.prog 25 #[.agg #[.bool wd, .int .u64 a, .int .u64 b, .bool h]] W fun en w' => en = .returned (adT wd) ∧ Grew W w') := fun W => saddr_any wd a b h W
  unfold adT TI at C1 ⊢
  generalize (if wd then (2 : Int) else 1) = q at *
  go_enter Tryz.func7, Tryz.ntmps7
  go_wp2_with fail
  refine (C1.out _).mono ?_
  rintro e w1 ⟨rfl, g1⟩
  obtain ⟨gg, hl, n0, n1, n2, z0, z1, z2⟩ := vfresh3 g1
  have G1 : Hid (Grew w w1) := ((Grew.refl w).alloc _).trans gg
  clear g1 gg C1
  rw [alloc_size] at *
  go_wp2_with fail
  refine bodyPost_ret (v := .agg #[.int .i64 q, .bool false, .int .i64 0]) (by simp [results, Tryz.results7, go_sem, n0, n1, n2]) rfl ?_
  exact ⟨rfl, ((G1.out.set (p := ⟨w.heap.size + 1, 0, none⟩) (Nat.le_succ _) _).set (p := ⟨w.heap.size + 1, 1, none⟩) (Nat.le_succ _) _).set (p := ⟨w.heap.size + 1, 2, none⟩) (Nat.le_succ _) _⟩
set_option maxRecDepth 100000 in
set_option maxHeartbeats 2000000 in
theorem rnum_any (n : Int) (w : World) : Calls Tryz.prog 26 #[.int .i64 n] w fun en w' => en = .returned (TI n) ∧ Grew w w' := by
  go_enter Tryz.func26, Tryz.ntmps26
  go_wp2_with fail
  refine bodyPost_ret (v := TI n) (by simp [TI, results, Tryz.results26, go_sem]) rfl ?_
  exact ⟨rfl, by repeat (first | with_reducible exact Grew.refl _ | refine Grew.alloc ?_ _ | refine Grew.set ?_ (by simp) _)⟩
set_option maxRecDepth 100000 in
set_option maxHeartbeats 2000000 in
theorem raddr_any (wd : Bool) (a b : Int) (h : Bool) (w : World) : Calls Tryz.prog 8 #[.agg #[.bool wd, .int .u64 a, .int .u64 b, .bool h]] w fun en w' => en = .returned (adT wd) ∧ Grew w w' := by
  have C1 : Hid (∀ n W, Calls Tryz.prog 26 #[.int .i64 n] W fun en w' => en = .returned (TI n) ∧ Grew W w') := rnum_any
  unfold TI at C1
  cases wd with
  | true =>
    go_enter Tryz.func8, Tryz.ntmps8
    go_wp2_with fail
    refine (C1.out 2 _).mono ?_
    rintro e w1 ⟨rfl, g1⟩
    obtain ⟨gg, hl, n0, n1, n2, z0, z1, z2⟩ := vfresh3 g1
    have G1 : Hid (Grew w w1) := ((Grew.refl w).alloc _).trans gg
    clear g1 gg C1
    rw [alloc_size] at *
    go_wp2_with fail
    refine bodyPost_ret (v := adT true) (by simp [adT, TI, results, Tryz.results8, go_sem, n0, n1, n2]) rfl ?_
    exact ⟨rfl, ((G1.out.set (p := ⟨w.heap.size + 1, 0, none⟩) (Nat.le_succ _) _).set (p := ⟨w.heap.size + 1, 1, none⟩) (Nat.le_succ _) _).set (p := ⟨w.heap.size + 1, 2, none⟩) (Nat.le_succ _) _⟩
  | false =>
    go_enter Tryz.func8, Tryz.ntmps8
    go_wp2_with fail
    refine (C1.out 1 _).mono ?_
    rintro e w1 ⟨rfl, g1⟩
    obtain ⟨gg, hl, n0, n1, n2, z0, z1, z2⟩ := vfresh3 g1
    have G1 : Hid (Grew w w1) := ((Grew.refl w).alloc _).trans gg
    clear g1 gg C1
    rw [alloc_size] at *
    go_wp2_with fail
    refine bodyPost_ret (v := adT false) (by simp [adT, TI, results, Tryz.results8, go_sem, n0, n1, n2]) rfl ?_
    exact ⟨rfl, ((G1.out.set (p := ⟨w.heap.size + 1, 0, none⟩) (Nat.le_succ _) _).set (p := ⟨w.heap.size + 1, 1, none⟩) (Nat.le_succ _) _).set (p := ⟨w.heap.size + 1, 2, none⟩) (Nat.le_succ _) _⟩
end Go.Proofs.YtahmjgmaaaegcaaGreatDoor
