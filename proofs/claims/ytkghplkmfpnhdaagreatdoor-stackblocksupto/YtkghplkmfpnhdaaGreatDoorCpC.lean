/-
  stack's copied at each of its types; no statement is proved here.
-/
import Derived.Test.YtkghplkmfpnhdaaGreatDoorCpK
namespace Go.Proofs.YtkghplkmfpnhdaaGreatDoor
open Go.RowKit
set_option linter.unusedVariables false
set_option linter.unusedSimpArgs false

/- A new row that holds these cells, and nothing old has changed. -/
def NewRow (e : TypeId) (n : Nat) (cs : List Value) (w : World) (en : Ending) (w' : World) : Prop :=
  ∃ g, en = .returned (.slice (some ⟨g, 0, none⟩) n n) ∧ w.heap.size ≤ g ∧ w'.heap[g]? = some (.cells cs.toArray e (0, 0)) ∧ Grew w w'
theorem infoR : (Tryz.prog.info? 103).map (fun i => (i.zero, i.size, i.bytes)) = some (some (.agg #[.slice none 0 0, .bool false]), 2, 32) := by kernel_rfl
theorem size_of {e : TypeId} {z : Value} {k b : Nat} (h : (Tryz.prog.info? e).map (fun i => (i.zero, i.size, i.bytes)) = some (some z, k, b)) : (Tryz.prog.info? e).map (·.size) = some k := by
  obtain ⟨i, h0, h1, h2, h3⟩ := info_parts h
  rw [h0]; simp [h2]
theorem run_makeK {w : World} {t e : TypeId} {z : Value} {k b n : Nat} (hu : Tryz.prog.underlying t = some (.slice e)) (h : (Tryz.prog.info? e).map (fun i => (i.zero, i.size, i.bytes)) = some (some z, k, b)) (hb : b ≤ 1000) (hn : n ≤ 8388608) :
    (Instr.makeSlice t (.int .i64 (n : Int)) (.int .i64 (n : Int))).run Tryz.prog w = .ok (.slice (some ⟨w.heap.size, 0, none⟩) n n) (w.alloc (.cells (madeCells z.cells (n * k)) e)) := by
  obtain ⟨i, h0, h1, h2, h3⟩ := info_parts h
  have hm : i.bytes * n ≤ 1000 * 8388608 := Nat.mul_le_mul (by omega) hn
  have hm2 : (i.bytes : Int) * (n : Int) ≤ 281474976710656 := by
    have : ((i.bytes * n : Nat) : Int) ≤ 281474976710656 := by omega
    rwa [Int.natCast_mul] at this
  have hr := run_make (P := Tryz.prog) w t e i z hu h0 h1 .i64 .i64 n n (by omega) (Int.le_refl _) hm2 (by omega)
  simp only [Int.toNat_natCast, h2] at hr
  exact hr
set_option maxRecDepth 100000 in
theorem copiedV_any {w : World} {v : Value} {n : Nat} {cs : List Value} (h : Raw 3 w v n cs) (hn : n ≤ 8388608) :
    Calls Tryz.prog 46 #[v] w (NewRow 44 n cs w) := by
  obtain ⟨a, cap, hv, hle, hmx⟩ := h.one
  subst hv
  have hm := run_makeK (w := w) (n := n) Tryz.underlying23 infoV (by decide) hn
  obtain ⟨C, hC⟩ : ∃ C, madeCells (Value.cells (.agg #[.int .i64 0, .bool false, .int .i64 0])) (n * 3) = C := ⟨_, rfl⟩
  rw [hC] at hm
  have hz : C.size = n * 3 := by rw [← hC]; exact size_madeCells _ _
  have hcp := run_copy_k Tryz.prog (w.alloc (.cells C 44)) 23 23 3 44 w.heap.size n 3 (.slice a n cap) C 44 cs Tryz.underlying23 (size_of infoV) (heap_alloc_last _ _) hz (h.grew ((Grew.refl w).alloc _))
  have G1 : Hid (Grew w ((w.alloc (.cells C 44)).setRow w.heap.size cs.toArray)) := setRow_grew ((Grew.refl w).alloc _) (Nat.le_refl _) _
  have B1 : Hid (((w.alloc (.cells C 44)).setRow w.heap.size cs.toArray).heap[w.heap.size]? = some (.cells cs.toArray 44 (0, 0))) := setRow_heap _ _ _ _ _ _ (heap_alloc_last _ _)
  generalize (w.alloc (.cells C 44)).setRow w.heap.size cs.toArray = W1 at *
  clear h hC
  go_enter Tryz.func46, Tryz.ntmps46
  go_wp2_with fail
  go_ret
  exact ⟨w.heap.size, rfl, Nat.le_refl _, B1.out, G1.out⟩
set_option maxRecDepth 100000 in
theorem copiedI_any {w : World} {v : Value} {n : Nat} {cs : List Value} (h : Raw 1 w v n cs) (hn : n ≤ 8388608) :
    Calls Tryz.prog 58 #[v] w (NewRow 3 n cs w) := by
  obtain ⟨a, cap, hv, hle, hmx⟩ := h.one
  subst hv
  have hm := run_makeK (w := w) (n := n) Tryz.underlying105 infoI (by decide) hn
  obtain ⟨C, hC⟩ : ∃ C, madeCells (Value.cells (.int .i64 0)) (n * 1) = C := ⟨_, rfl⟩
  rw [hC] at hm
  have hz : C.size = n * 1 := by rw [← hC]; exact size_madeCells _ _
  have hcp := run_copy_k Tryz.prog (w.alloc (.cells C 3)) 105 105 3 3 w.heap.size n 1 (.slice a n cap) C 3 cs Tryz.underlying105 (size_of infoI) (heap_alloc_last _ _) hz (h.grew ((Grew.refl w).alloc _))
  have G1 : Hid (Grew w ((w.alloc (.cells C 3)).setRow w.heap.size cs.toArray)) := setRow_grew ((Grew.refl w).alloc _) (Nat.le_refl _) _
  have B1 : Hid (((w.alloc (.cells C 3)).setRow w.heap.size cs.toArray).heap[w.heap.size]? = some (.cells cs.toArray 3 (0, 0))) := setRow_heap _ _ _ _ _ _ (heap_alloc_last _ _)
  generalize (w.alloc (.cells C 3)).setRow w.heap.size cs.toArray = W1 at *
  clear h hC
  go_enter Tryz.func58, Tryz.ntmps58
  go_wp2_with fail
  go_ret
  exact ⟨w.heap.size, rfl, Nat.le_refl _, B1.out, G1.out⟩
set_option maxRecDepth 100000 in
theorem copiedF_any {w : World} {v : Value} {n : Nat} {cs : List Value} (h : Raw 4 w v n cs) (hn : n ≤ 8388608) :
    Calls Tryz.prog 59 #[v] w (NewRow 115 n cs w) := by
  obtain ⟨a, cap, hv, hle, hmx⟩ := h.one
  subst hv
  have hm := run_makeK (w := w) (n := n) Tryz.underlying106 infoF (by decide) hn
  obtain ⟨C, hC⟩ : ∃ C, madeCells (Value.cells (.agg #[.int .i64 0, .bool false, .int .i64 0, .bool false])) (n * 4) = C := ⟨_, rfl⟩
  rw [hC] at hm
  have hz : C.size = n * 4 := by rw [← hC]; exact size_madeCells _ _
  have hcp := run_copy_k Tryz.prog (w.alloc (.cells C 115)) 106 106 3 115 w.heap.size n 4 (.slice a n cap) C 115 cs Tryz.underlying106 (size_of infoF) (heap_alloc_last _ _) hz (h.grew ((Grew.refl w).alloc _))
  have G1 : Hid (Grew w ((w.alloc (.cells C 115)).setRow w.heap.size cs.toArray)) := setRow_grew ((Grew.refl w).alloc _) (Nat.le_refl _) _
  have B1 : Hid (((w.alloc (.cells C 115)).setRow w.heap.size cs.toArray).heap[w.heap.size]? = some (.cells cs.toArray 115 (0, 0))) := setRow_heap _ _ _ _ _ _ (heap_alloc_last _ _)
  generalize (w.alloc (.cells C 115)).setRow w.heap.size cs.toArray = W1 at *
  clear h hC
  go_enter Tryz.func59, Tryz.ntmps59
  go_wp2_with fail
  go_ret
  exact ⟨w.heap.size, rfl, Nat.le_refl _, B1.out, G1.out⟩
set_option maxRecDepth 100000 in
theorem copiedS_any {w : World} {v : Value} {n : Nat} {cs : List Value} (h : Raw 6 w v n cs) (hn : n ≤ 8388608) :
    Calls Tryz.prog 57 #[v] w (NewRow 110 n cs w) := by
  obtain ⟨a, cap, hv, hle, hmx⟩ := h.one
  subst hv
  have hm := run_makeK (w := w) (n := n) Tryz.underlying101 infoS (by decide) hn
  obtain ⟨C, hC⟩ : ∃ C, madeCells (Value.cells (.agg #[.bool false, .slice none 0 0, .int .i64 0, .slice none 0 0, .slice none 0 0, .slice none 0 0])) (n * 6) = C := ⟨_, rfl⟩
  rw [hC] at hm
  have hz : C.size = n * 6 := by rw [← hC]; exact size_madeCells _ _
  have hcp := run_copy_k Tryz.prog (w.alloc (.cells C 110)) 101 101 3 110 w.heap.size n 6 (.slice a n cap) C 110 cs Tryz.underlying101 (size_of infoS) (heap_alloc_last _ _) hz (h.grew ((Grew.refl w).alloc _))
  have G1 : Hid (Grew w ((w.alloc (.cells C 110)).setRow w.heap.size cs.toArray)) := setRow_grew ((Grew.refl w).alloc _) (Nat.le_refl _) _
  have B1 : Hid (((w.alloc (.cells C 110)).setRow w.heap.size cs.toArray).heap[w.heap.size]? = some (.cells cs.toArray 110 (0, 0))) := setRow_heap _ _ _ _ _ _ (heap_alloc_last _ _)
  generalize (w.alloc (.cells C 110)).setRow w.heap.size cs.toArray = W1 at *
  clear h hC
  go_enter Tryz.func57, Tryz.ntmps57
  go_wp2_with fail
  go_ret
  exact ⟨w.heap.size, rfl, Nat.le_refl _, B1.out, G1.out⟩
set_option maxRecDepth 100000 in
theorem copiedR_any {w : World} {v : Value} {n : Nat} {cs : List Value} (h : Raw 2 w v n cs) (hn : n ≤ 8388608) :
    Calls Tryz.prog 56 #[v] w (NewRow 103 n cs w) := by
  obtain ⟨a, cap, hv, hle, hmx⟩ := h.one
  subst hv
  have hm := run_makeK (w := w) (n := n) Tryz.underlying22 infoR (by decide) hn
  obtain ⟨C, hC⟩ : ∃ C, madeCells (Value.cells (.agg #[.slice none 0 0, .bool false])) (n * 2) = C := ⟨_, rfl⟩
  rw [hC] at hm
  have hz : C.size = n * 2 := by rw [← hC]; exact size_madeCells _ _
  have hcp := run_copy_k Tryz.prog (w.alloc (.cells C 103)) 22 22 3 103 w.heap.size n 2 (.slice a n cap) C 103 cs Tryz.underlying22 (size_of infoR) (heap_alloc_last _ _) hz (h.grew ((Grew.refl w).alloc _))
  have G1 : Hid (Grew w ((w.alloc (.cells C 103)).setRow w.heap.size cs.toArray)) := setRow_grew ((Grew.refl w).alloc _) (Nat.le_refl _) _
  have B1 : Hid (((w.alloc (.cells C 103)).setRow w.heap.size cs.toArray).heap[w.heap.size]? = some (.cells cs.toArray 103 (0, 0))) := setRow_heap _ _ _ _ _ _ (heap_alloc_last _ _)
  generalize (w.alloc (.cells C 103)).setRow w.heap.size cs.toArray = W1 at *
  clear h hC
  go_enter Tryz.func56, Tryz.ntmps56
  go_wp2_with fail
  go_ret
  exact ⟨w.heap.size, rfl, Nat.le_refl _, B1.out, G1.out⟩
end Go.Proofs.YtkghplkmfpnhdaaGreatDoor
