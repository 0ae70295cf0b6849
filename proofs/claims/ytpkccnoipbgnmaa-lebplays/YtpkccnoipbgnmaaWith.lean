/-
  The walks of the cursor's Within and of New; no statement is proved here.
-/
import Derived.Test.YtpkccnoipbgnmaaDRest
import Derived.Test.YtpkccnoipbgnmaaCopied
namespace Go.Proofs.Ytpkccnoipbgnmaa
open Go.RowKit
set_option linter.unusedVariables false

theorem new_obj2 (w : World) (o1 o2 : Obj) : ((w.alloc o1).alloc o2).heap[w.heap.size + 1]? = some o2 := by
  have := new_obj (w.alloc o1) o2
  simpa using this
set_option maxRecDepth 100000 in
set_option maxHeartbeats 2000000 in
theorem within_bad (bc : Nat) (f t pl wy n : Int) (a : Option Addr) (len cap : Nat) (w : World) (h : w.heap[bc]? = some (ccur (.slice a len cap) f t pl wy)) (hw : ¬ wy = 0) :
    Calls Try.prog 30 #[.pointer (some ⟨bc, 0, none⟩), .int .u32 n] w fun en w' => ∃ b', en = .returned (.pointer (some ⟨b', 0, none⟩)) ∧ w.heap.size ≤ b' ∧ w'.heap[b']? = some (ccur (.slice a len cap) f t pl wy) ∧ Put bc (ccur (.slice a len cap) f t pl wy) w w' := by
  have G := isMade_yes bc _ f t pl wy w h
  have TK := take_bad bc _ f t pl wy n w h hw
  clear h hw
  go_enter Try.func30, Try.ntmps30
  go_wp2_with fail
  refine G.mono ?_
  rintro en w1 ⟨rfl, rfl⟩
  clear G
  go_wp2_with fail
  refine TK.mono ?_
  rintro en w1 ⟨rfl, hq⟩
  clear TK
  have hs1 := hq.size
  have hb1 : bc < w1.heap.size := Nat.lt_of_lt_of_le hq.old hs1
  have d0 := cell_of hq.now 0
  have d1 := cell_of hq.now 1
  have d2 := cell_of hq.now 2
  have d3 := cell_of hq.now 3
  have d4 := cell_of hq.now 4
  have d5 := cell_of hq.now 5
  simp at d0 d1 d2 d3 d4 d5
  go_wp2_with fail
  go_ret
  exact ⟨_, rfl, by omega, new_obj2 _ _ _, (hq.alloc _).alloc _⟩
set_option maxRecDepth 100000 in
set_option maxHeartbeats 2000000 in
theorem within_good (bc : Nat) (f t pl n : Int) (a : Option Addr) (len cap : Nat) (w : World) (h : w.heap[bc]? = some (ccur (.slice a len cap) f t pl 0)) (hf : 0 ≤ f) (hft : f ≤ t) (ht : t ≤ 140737488351232) (hn : 0 ≤ n) (hn' : n ≤ 4294967295) (hs : n ≤ t - f) :
    Calls Try.prog 30 #[.pointer (some ⟨bc, 0, none⟩), .int .u32 n] w fun en w' => ∃ b', en = .returned (.pointer (some ⟨b', 0, none⟩)) ∧ w.heap.size ≤ b' ∧ w'.heap[b']? = some (ccur (.slice a len cap) f (f + n) 0 0) ∧ Put bc (ccur (.slice a len cap) (f + n) t pl 0) w w' := by
  have G := isMade_yes bc _ f t pl 0 w h
  have TK := take_good bc f t pl n a len cap w h hf hft ht hn hn' hs
  clear h
  go_enter Try.func30, Try.ntmps30
  go_wp2_with fail
  refine G.mono ?_
  rintro en w1 ⟨rfl, rfl⟩
  clear G
  go_wp2_with fail
  refine TK.mono ?_
  rintro en w1 ⟨rfl, hq⟩
  clear TK
  have hs1 := hq.size
  go_wp2_with fail
  go_ret
  exact ⟨_, rfl, by omega, new_obj2 _ _ _, (hq.alloc _).alloc _⟩
set_option maxRecDepth 100000 in
set_option maxHeartbeats 2000000 in
theorem within_short (bc : Nat) (f t pl n : Int) (a : Option Addr) (len cap : Nat) (w : World) (h : w.heap[bc]? = some (ccur (.slice a len cap) f t pl 0)) (hf : 0 ≤ f) (hft : f ≤ t) (ht : t ≤ 140737488351232) (hn : 0 ≤ n) (hn' : n ≤ 4294967295) (hs : t - f < n) :
    Calls Try.prog 30 #[.pointer (some ⟨bc, 0, none⟩), .int .u32 n] w fun en w' => ∃ b', en = .returned (.pointer (some ⟨b', 0, none⟩)) ∧ w.heap.size ≤ b' ∧ w'.heap[b']? = some (ccur (.slice a len cap) f t t 3) ∧ Put bc (ccur (.slice a len cap) f t t 3) w w' := by
  have G := isMade_yes bc _ f t pl 0 w h
  have TK := take_short bc _ f t pl n w h hf hft ht hn hn' hs
  clear h
  go_enter Try.func30, Try.ntmps30
  go_wp2_with fail
  refine G.mono ?_
  rintro en w1 ⟨rfl, rfl⟩
  clear G
  go_wp2_with fail
  refine TK.mono ?_
  rintro en w1 ⟨rfl, hq⟩
  clear TK
  have hs1 := hq.size
  have hb1 : bc < w1.heap.size := Nat.lt_of_lt_of_le hq.old hs1
  have d0 := cell_of hq.now 0
  have d1 := cell_of hq.now 1
  have d2 := cell_of hq.now 2
  have d3 := cell_of hq.now 3
  have d4 := cell_of hq.now 4
  have d5 := cell_of hq.now 5
  simp at d0 d1 d2 d3 d4 d5
  go_wp2_with fail
  go_ret
  exact ⟨_, rfl, by omega, new_obj2 _ _ _, (hq.alloc _).alloc _⟩

/- New. -/
set_option maxRecDepth 100000 in
set_option maxHeartbeats 1000000 in
theorem new_any (v : Value) (l : List Int) (w : World) (hR : Reads w v l) (hlen : l.length ≤ 140737488351232) :
    Calls Try.prog 25 #[v] w fun en w' => ∃ b' v', en = .returned (.pointer (some ⟨b', 0, none⟩)) ∧ w.heap.size ≤ b' ∧ w'.heap[b']? = some (ccur v' 0 l.length 0 0) ∧ Has w.heap.size w w' v' l := by
  obtain ⟨ad, cap, rfl⟩ := hR.len
  have hl : ([] : List Int).length + l.length ≤ 140737488355328 := by simp; omega
  have HL : Hid (([] : List Int).length + l.length ≤ 140737488355328) := hl
  have HR : Hid (Reads w (.slice ad l.length cap) l) := hR
  clear hl hR
  go_enter Try.func25, Try.ntmps25
  go_wp2_with (at_builtin; refine wp_appS rfl _ _ rfl rfl rfl (Has.nil w) HR.out HL.out ?_; intro v1 w1 g1; rw [List.nil_append] at g1; obtain ⟨a1, c1, hv1⟩ := g1.reads.len; subst hv1)
  go_ret
  exact ⟨_, _, rfl, g1.2.2, new_obj _ _, g1.alloc _⟩
end Go.Proofs.Ytpkccnoipbgnmaa
