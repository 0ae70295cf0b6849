/-
  The walks of frame.Rank, of an order's takes, of copied and of the reader's preamble; no statement is proved here.
-/
import Derived.Test.YtclamdpbdafmcaaReader
import Derived.Test.YtclamdpbdafmcaaSplitM
import Derived.Deep.Onto
namespace Go.Proofs.Ytclamdpbdafmcaa
open Go.RowKit
set_option linter.unusedVariables false

def RT : Array Value := #[.int .i64 0, .int .i64 1, .int .i64 2, .int .i64 3, .int .i64 4, .int .i64 5, .int .i64 7, .int .i64 8, .int .i64 9, .int .i64 10, .int .i64 12, .int .i64 13, .int .i64 11, .int .i64 6]
theorem RT_size : RT.size = 14 := rfl
theorem RT_store (w : World) : (storeCells ⟨w.heap.size, 0, none⟩ RT.toList).run Try.prog (w.alloc (.cells #[.int .i64 0, .int .i64 0, .int .i64 0, .int .i64 0, .int .i64 0, .int .i64 0, .int .i64 0, .int .i64 0, .int .i64 0, .int .i64 0, .int .i64 0, .int .i64 0, .int .i64 0, .int .i64 0] 84)) = .ok () (w.alloc (.cells RT 84)) :=
  run_storeCells_new w 84 _ RT (by kernel_rfl) rfl (by kernel_rfl)
theorem RT_cell (w : World) (k : Nat) (h : k < 14) : (w.alloc (.cells RT 84)).cell? ⟨w.heap.size, k, none⟩ = some (.int .i64 (rank k)) := by
  rw [cell_of (heap_alloc_last w _), rank_nat k h]
  have : ∀ k < 14, RT[k]? = some (.int .i64 (ranks.getD k 0)) := by
    intro k hk
    have : k = 0 ∨ k = 1 ∨ k = 2 ∨ k = 3 ∨ k = 4 ∨ k = 5 ∨ k = 6 ∨ k = 7 ∨ k = 8 ∨ k = 9 ∨ k = 10 ∨ k = 11 ∨ k = 12 ∨ k = 13 := by omega
    rcases this with rfl | rfl | rfl | rfl | rfl | rfl | rfl | rfl | rfl | rfl | rfl | rfl | rfl | rfl <;> rfl
  exact this k h
set_option maxRecDepth 100000 in
set_option maxHeartbeats 1000000 in
theorem rank_any (id : Int) (w : World) :
    Calls Try.prog 24 #[.int .i64 id] w fun e w' => e = .returned (.int .i64 (rank id)) ∧ Grew w w' := by
  have k1 := RT_size
  have k2 := RT_store w
  by_cases h0 : 0 ≤ id
  · by_cases h1 : id < 14
    · obtain ⟨k, rfl⟩ : ∃ k : Nat, id = k := ⟨id.toNat, by omega⟩
      have hk : k < 14 := by omega
      have hc := RT_cell w k hk
      have d0 : decide ((k : Int) < 0) = false := by simp
      have d1 : decide (14 ≤ (k : Int)) = false := by simp; omega
      generalize rank (k : Int) = r at *
      go_enter Try.func24, Try.ntmps24
      go_wp2_with (refine wpList_build_is rfl 84 _ rfl RT (by kernel_rfl) ?_)
      go_ret
      exact ⟨rfl, (Grew.refl w).alloc _⟩
    · rw [rank_no (by omega)]
      have d0 : decide (id < 0) = false := by simp; omega
      have d1 : decide (14 ≤ id) = true := by simp; omega
      go_enter Try.func24, Try.ntmps24
      go_wp2_with (refine wpList_build_is rfl 84 _ rfl RT (by kernel_rfl) ?_)
      go_ret
      exact ⟨rfl, (Grew.refl w).alloc _⟩
  · rw [rank_no (by omega)]
    have d0 : decide (id < 0) = true := by simp; omega
    go_enter Try.func24, Try.ntmps24
    go_wp2_with (refine wpList_build_is rfl 84 _ rfl RT (by kernel_rfl) ?_)
    go_ret
    exact ⟨rfl, (Grew.refl w).alloc _⟩

/- The order's block. -/
def ord (last : Int) : Obj := .cells #[.int .i64 last] 81 (0, 0)
theorem NoB.ord {w : World} {b : Nat} {p : Int} (h : w.heap[b]? = some (ord p)) : NoB w b := by
  intro j m
  rw [cell_of h]
  rcases j with _ | j <;> simp
theorem takes_free (bo : Nat) (last : Int) (w : World) :
    Calls Try.prog 61 #[.pointer (some ⟨bo, 0, none⟩), .int .i64 0] w fun en w' => en = .returned (.bool true) ∧ w' = w := by
  go_enter Try.func61, Try.ntmps61
  go_wp2_with fail
  go_ret
  exact ⟨rfl, rfl⟩
theorem takes_no (bo : Nat) (last r : Int) (w : World) (h : w.heap[bo]? = some (ord last)) (hr : r ≠ 0) (hl : r ≤ last) :
    Calls Try.prog 61 #[.pointer (some ⟨bo, 0, none⟩), .int .i64 r] w fun en w' => en = .returned (.bool false) ∧ w' = w := by
  have c0 := cell_of h 0
  simp at c0
  have hr' : (r == 0) = false := beq_eq_false_iff_ne.2 hr
  clear h hr
  go_enter Try.func61, Try.ntmps61
  go_wp2_with fail
  go_ret
  exact ⟨rfl, rfl⟩
theorem takes_yes (bo : Nat) (last r : Int) (w : World) (h : w.heap[bo]? = some (ord last)) (hr : r ≠ 0) (hl : ¬ r ≤ last) :
    Calls Try.prog 61 #[.pointer (some ⟨bo, 0, none⟩), .int .i64 r] w fun en w' => en = .returned (.bool true) ∧ Turn [bo] w w' ∧ w'.heap[bo]? = some (ord r) := by
  have c0 := cell_of h 0
  have z0 := free_of h 0
  simp at c0
  have hr' : (r == 0) = false := beq_eq_false_iff_ne.2 hr
  have HH : Hid (w.heap[bo]? = some (ord last)) := h
  clear h hr
  go_enter Try.func61, Try.ntmps61
  go_wp2_with fail
  go_ret
  exact ⟨rfl, (Turn.refl _ _).set (by simp) _, by rw [heap_set HH.out]; rfl⟩

/- A section's value. -/
def secV (id : Int) (name : ByteArray) (d : Value) (p : Int) : Value := .agg #[.int .i64 id, .string name, d, .int .i64 p]
theorem Has.turn {base : Nat} {w0 w w' : World} {v : Value} {l : List Int} {S : List Nat} (h : Has base w0 w v l) (ht : Turn S w w') (hS : ∀ b ∈ S, base ≤ b) (hv : ∀ k, v.ownBlock = some k → k ∉ S) : Has base w0 w' v l := by
  obtain ⟨⟨hl, ho⟩, h1, h2⟩ := h
  refine ⟨⟨hl, ?_⟩, ?_, Nat.le_trans h2 ht.size⟩
  · rcases ho with ho | ⟨g, cap, cur, rfl, hg, hh, h3⟩
    · exact Or.inl ho
    · exact Or.inr ⟨g, cap, cur, rfl, hg, ht.other hh (hv g rfl), h3⟩
  · exact h1.trans ⟨ht.os, ht.tape, ht.output, ht.size, fun k hk => ht.block k (by omega) (fun hx => by have := hS k hx; omega)⟩
theorem Has.low {base base' : Nat} {w0 w1 w v} {l : List Int} (h : Has base w1 w v l) (hb : base' ≤ base) (hg : Below base' w0 w1) : Has base' w0 w v l := by
  obtain ⟨ho, h1, h2⟩ := h
  exact ⟨ho.mono hb, hg.trans (h1.mono hb), Nat.le_trans hb h2⟩
set_option maxRecDepth 100000 in
set_option maxHeartbeats 1000000 in
theorem copied_any (id : Int) (name : ByteArray) (v : Value) (l : List Int) (p : Int) (w : World) (hR : Reads w v l) (hlen : l.length ≤ 140737488351232) :
    Calls Try.prog 47 #[secV id name v p] w fun e w' => ∃ v', e = .returned (secV id name v' p) ∧ Has w.heap.size w w' v' l := by
  obtain ⟨a, cap, rfl⟩ := hR.len
  obtain ⟨W2, hW2⟩ : ∃ W2, W2 = (w.alloc (.cells #[.int .i64 id, .string name, .slice a l.length cap, .int .i64 p] 45)).alloc (.cells #[.int .i64 0, .string ⟨#[]⟩, .slice none 0 0, .int .i64 0] 45) := ⟨_, rfl⟩
  have hA : W2.heap[w.heap.size]? = some (.cells #[.int .i64 id, .string name, .slice a l.length cap, .int .i64 p] 45 (0, 0)) := by rw [hW2]; exact heap_alloc (heap_alloc_last _ _) _
  have hB : W2.heap[w.heap.size + 1]? = some (.cells #[.int .i64 0, .string ⟨#[]⟩, .slice none 0 0, .int .i64 0] 45 (0, 0)) := by
    rw [hW2]; have := heap_alloc_last (w.alloc (.cells #[.int .i64 id, .string name, .slice a l.length cap, .int .i64 p] 45)) (.cells #[.int .i64 0, .string ⟨#[]⟩, .slice none 0 0, .int .i64 0] 45)
    simpa using this
  have hsz2 : W2.heap.size = w.heap.size + 2 := by rw [hW2]; simp
  have hG2 : Grew w W2 := by rw [hW2]; exact ((Grew.refl w).alloc _).alloc _
  have HR : Hid (Reads W2 (.slice a l.length cap) l) := hG2.reads hR
  have HN := Has.nil W2
  have e0 := cell_of hA 0
  have e1 := cell_of hA 1
  have e2 := cell_of hA 2
  have e3 := cell_of hA 3
  simp at e0 e1 e2 e3
  clear hR
  unfold secV
  go_enter Try.func47, Try.ntmps47
  go_wp2_with (at_builtin; rw [← hW2]; refine wp_appS rfl _ _ rfl rfl rfl HN HR.out (by simp; omega) ?_; intro v' w1 hh1; rw [List.nil_append] at hh1; obtain ⟨a', c', rfl⟩ := hh1.reads.len; have hA1 := (hh1.below.block w.heap.size (by omega)).trans hA; have hB1 := (hh1.below.block (w.heap.size + 1) (by omega)).trans hB; clear e0 e1 e2 e3 hW2 hA hB; have e0 := cell_of hA1 0; have e1 := cell_of hA1 1; have e2 := cell_of hA1 2; have e3 := cell_of hA1 3; have f0 := cell_of hB1 0; have f1 := cell_of hB1 1; have f2 := cell_of hB1 2; have f3 := cell_of hB1 3; have z2 := free_of hA1 2; have y0 := free_of hB1 0; have y1 := free_of hB1 1; have y2 := free_of hB1 2; have y3 := free_of hB1 3; simp at e0 e1 e2 e3 f0 f1 f2 f3; clear hA1 hB1)
  refine bodyPost_ret (v := .agg #[.int .i64 id, .string name, .slice a' l.length c', .int .i64 p]) (by simp [results, Try.results47, go_sem, f0, f1, f2, f3]) rfl ⟨_, rfl, ?_⟩
  have hlt : ∀ k, (Value.slice a' l.length c').ownBlock = some k → k ∉ [w.heap.size, w.heap.size + 1] := by
    intro k hk hm
    have := hh1.1.lt k hk
    simp at hm
    omega
  refine (hh1.low (base' := w.heap.size) (w0 := w) (by omega) hG2.1).turn (S := [w.heap.size, w.heap.size + 1]) ?_ (by simp) hlt
  have T := Turn.refl [w.heap.size, w.heap.size + 1] w1
  repeat (first | exact T | refine Turn.set ?_ (by simp) _)
end Go.Proofs.Ytclamdpbdafmcaa
