/-
  The walk of the document's Within; no statement is proved here.
-/
import Derived.Test.YtpkccnoipbgnmaaDBytes
namespace Go.Proofs.Ytpkccnoipbgnmaa
open Go.RowKit
set_option linter.unusedVariables false

set_option maxHeartbeats 2000000 in
theorem dwithin_bad (bd : Nat) (f t pl wy n : Int) (a : Option Addr) (len cap : Nat) (w : World) (h : w.heap[bd]? = some (dcur (.slice a len cap) f t pl wy)) (hw : ¬ wy = 0) :
    Calls Try.prog 31 #[.pointer (some ⟨bd, 0, none⟩), .int .u32 n] w fun en w' => ∃ b', en = .returned (.pointer (some ⟨b', 0, none⟩)) ∧ w.heap.size ≤ b' ∧ w'.heap[b']? = some (dcur (.slice a len cap) f t pl wy) ∧ Put bd (dcur (.slice a len cap) f t pl wy) w w' := by
  have hp := Put.refl h
  have c0 := cell_of h 0
  have c1 := cell_of h 1
  have c2 := cell_of h 2
  have c3 := cell_of h 3
  have c4 := cell_of h 4
  simp at c0 c1 c2 c3 c4
  have hw1 : (wy == 0) = false := by simpa using hw
  have hw2 : (wy != 0) = true := by simpa using hw
  clear h hw
  go_enter Try.func31, Try.ntmps31
  go_wp2_with fail
  go_quiet (fail)
  go_wp2_with fail
  go_region
  go_wp2
  go_ret
  exact ⟨_, rfl, Nat.le_refl _, new_obj _ _, ((hp.drewN _).alloc _)⟩
set_option maxHeartbeats 2000000 in
theorem dwithin_good (bd : Nat) (f t pl n : Int) (a : Option Addr) (len cap : Nat) (w : World) (h : w.heap[bd]? = some (dcur (.slice a len cap) f t pl 0)) (hf : 0 ≤ f) (hft : f ≤ t) (ht : t ≤ 140737488351232) (hn : 0 ≤ n) (hn' : n ≤ 4294967295) (hs : n ≤ t - f) :
    Calls Try.prog 31 #[.pointer (some ⟨bd, 0, none⟩), .int .u32 n] w fun en w' => ∃ b', en = .returned (.pointer (some ⟨b', 0, none⟩)) ∧ w.heap.size ≤ b' ∧ w'.heap[b']? = some (dcur (.slice a len cap) f (f + n) 0 0) ∧ Put bd (dcur (.slice a len cap) (f + n) t pl 0) w w' := by
  have hp := Put.refl h
  have hlt := lt_of_obj h
  have c0 := cell_of h 0
  have c1 := cell_of h 1
  have c2 := cell_of h 2
  have c4 := cell_of h 4
  have f1 := free_of h 1
  simp at c0 c1 c2 c4
  have hd : decide (t - f < n) = false := decide_eq_false (by omega)
  have cA : ∀ m o, ((w.drewN m).alloc o).cell? ⟨bd, 1, none⟩ = some (.int .i64 f) := fun m o => (cell_of ((hp.drewN m).alloc o).now 1)
  have fA : ∀ m o, ((w.drewN m).alloc o).frozen? ⟨bd, 1, none⟩ = false := fun m o => (free_of ((hp.drewN m).alloc o).now 1)
  clear h
  go_enter Try.func31, Try.ntmps31
  go_wp2_with fail
  go_quiet (fail)
  go_wp2_with fail
  go_region
  go_wp2
  go_ret
  refine ⟨_, rfl, Nat.le_refl _, ?_, ((hp.drewN _).alloc _).setOwn 1 _⟩
  rw [Below.heap_setCell _ _ _ _ (by show _ ≠ bd; omega)]
  exact new_obj _ _
set_option maxHeartbeats 2000000 in
theorem dwithin_short (bd : Nat) (f t pl n : Int) (a : Option Addr) (len cap : Nat) (w : World) (h : w.heap[bd]? = some (dcur (.slice a len cap) f t pl 0)) (hf : 0 ≤ f) (hft : f ≤ t) (ht : t ≤ 140737488351232) (hn : 0 ≤ n) (hn' : n ≤ 4294967295) (hs : t - f < n) :
    Calls Try.prog 31 #[.pointer (some ⟨bd, 0, none⟩), .int .u32 n] w fun en w' => ∃ b', en = .returned (.pointer (some ⟨b', 0, none⟩)) ∧ w.heap.size ≤ b' ∧ w'.heap[b']? = some (dcur (.slice a len cap) f t t 3) ∧ Put bd (dcur (.slice a len cap) f t t 3) w w' := by
  have hp := Put.refl h
  have c1 := cell_of h 1
  have c2 := cell_of h 2
  have c4 := cell_of h 4
  simp at c1 c2 c4
  have hd : decide (t - f < n) = true := decide_eq_true (by omega)
  clear h
  go_enter Try.func31, Try.ntmps31
  go_wp2_with fail
  go_quiet (fail)
  go_wp2_with fail
  refine (dfail_good bd _ f t pl t 3 _ (by exact (hp.drewN _).now)).mono ?_
  rintro en w1 ⟨rfl, hq⟩
  have hs1 : w.heap.size ≤ w1.heap.size := hq.size
  have d0 := cell_of hq.now 0
  have d1 := cell_of hq.now 1
  have d2 := cell_of hq.now 2
  have d3 := cell_of hq.now 3
  have d4 := cell_of hq.now 4
  simp at d0 d1 d2 d3 d4
  have HQ : Hid (Put bd (dcur (.slice a len cap) f t t 3) w w1) := (hp.drewN _).trans hq
  clear hq hp c1 c2 c4 hd
  go_wp2_with fail
  go_region
  go_wp2
  go_ret
  exact ⟨_, rfl, hs1, new_obj _ _, HQ.out.drew.alloc _⟩
end Go.Proofs.Ytpkccnoipbgnmaa
