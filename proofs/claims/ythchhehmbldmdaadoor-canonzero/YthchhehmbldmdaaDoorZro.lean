/-
  A table that no call made; no statement is proved here.
-/
import Derived.Test.YthchhehmbldmdaaDoorTbl
namespace Go.Proofs.YthchhehmbldmdaaDoor
open Go.RowKit
set_option linter.unusedVariables false
set_option linter.unusedSimpArgs false

/- No call made the table that p points at. -/
def Unm (p : Option Addr) (w : World) : Prop := ∀ W, Grew w W → Calls Tryd.prog 24 #[.pointer p] W fun en w' => en = .returned (.bool false) ∧ Grew W w'
theorem Unm.nil (w : World) : Unm none w := fun W g => (made_nil W).mono fun en w' ⟨h1, h2⟩ => ⟨h1, by rw [h2]; exact Grew.refl _⟩
theorem Unm.zero {w : World} {b : Nat} (h : w.cell? ⟨b, 0, none⟩ = some (.map none)) : Unm (some ⟨b, 0, none⟩) w := fun W g => made_zero (cell_grew h g)
theorem Unm.grew {p : Option Addr} {w w' : World} (h : Unm p w) (g : Grew w w') : Unm p w' := fun W g' => h W (g.trans g')
set_option maxRecDepth 100000 in
theorem addZ {p : Option Addr} {w : World} (h : Unm p w) (a : Option Addr) (n c : Nat) : Calls Tryd.prog 9 #[.pointer p, .slice a n c] w fun en w' => en = .returned (.tuple #[NILS, .int .i64 0, .int .i64 7]) ∧ Grew w w' := by
  have H : Hid (Unm p w) := h
  clear h
  go_enter Tryd.func9, Tryd.ntmps9
  go_wp2_with fail
  refine (H.out w (Grew.refl w)).mono ?_
  rintro en w1 ⟨rfl, g1⟩
  have G1 : Hid (Grew w w1) := g1
  clear g1 H
  go_wp2_with fail
  go_ret3
  exact ⟨rfl, G1.out⟩
set_option maxRecDepth 100000 in
theorem countZ {p : Option Addr} {w : World} (h : Unm p w) : Calls Tryd.prog 17 #[.pointer p] w fun en w' => en = .returned (.int .i64 0) ∧ Grew w w' := by
  have H : Hid (Unm p w) := h
  clear h
  go_enter Tryd.func17, Tryd.ntmps17
  go_wp2_with fail
  refine (H.out w (Grew.refl w)).mono ?_
  rintro en w1 ⟨rfl, g1⟩
  have G1 : Hid (Grew w w1) := g1
  clear g1 H
  go_wp2_with fail
  go_ret
  exact ⟨rfl, G1.out⟩
set_option maxRecDepth 100000 in
theorem copyZ {p : Option Addr} {w : World} (h : Unm p w) : Calls Tryd.prog 18 #[.pointer p] w fun en w' => en = .returned (.pointer none) ∧ Grew w w' := by
  have H : Hid (Unm p w) := h
  clear h
  go_enter Tryd.func18, Tryd.ntmps18
  go_wp2_with fail
  refine (H.out w (Grew.refl w)).mono ?_
  rintro en w1 ⟨rfl, g1⟩
  have G1 : Hid (Grew w w1) := g1
  clear g1 H
  go_wp2_with fail
  go_ret
  exact ⟨rfl, G1.out⟩
def ITEM0 : Value := .agg #[.bool false, NILS, .int .i64 0, NILS, NILS, NILS, .int .i64 0, .int .i64 0]
def SUB0 : Value := .agg #[.bool false, NILS, .int .i64 0, NILS, NILS, NILS]
set_option maxRecDepth 100000 in
set_option maxHeartbeats 2000000 in
theorem findZ {p : Option Addr} {w : World} {id : Int} (h : Unm p w) : Calls Tryd.prog 35 #[.pointer p, .int .i64 id] w fun en w' => en = .returned (.tuple #[ITEM0, .int .i64 7]) ∧ Grew w w' := by
  unfold ITEM0
  have H : Hid (Unm p w) := h
  clear h
  go_enter Tryd.func35, Tryd.ntmps35
  go_wp2_with fail
  have G0 : Grew w (w.alloc (.cells #[.bool false, NILS, .int .i64 0, NILS, NILS, NILS, .int .i64 0, .int .i64 0] 84)) := (Grew.refl w).alloc _
  have B0 : (w.alloc (.cells #[.bool false, NILS, .int .i64 0, NILS, NILS, NILS, .int .i64 0, .int .i64 0] 84)).heap[w.heap.size]? = some (.cells #[.bool false, NILS, .int .i64 0, NILS, NILS, NILS, .int .i64 0, .int .i64 0] 84 (0, 0)) := heap_alloc_last _ _
  refine (H.out _ G0).mono ?_
  rintro en w1 ⟨rfl, g1⟩
  have B1 := g1.other B0
  have G1 : Hid (Grew w w1) := G0.trans g1
  have HB : Hid (w1.heap[w.heap.size]? = some (.cells #[.bool false, NILS, .int .i64 0, NILS, NILS, NILS, .int .i64 0, .int .i64 0] 84 (0, 0))) := B1
  have c0 := cell_of B1 0
  have c1 := cell_of B1 1
  have c2 := cell_of B1 2
  have c3 := cell_of B1 3
  have c4 := cell_of B1 4
  have c5 := cell_of B1 5
  have c6 := cell_of B1 6
  have c7 := cell_of B1 7
  have z0 := free_of B1 0
  have z1 := free_of B1 1
  have z2 := free_of B1 2
  have z3 := free_of B1 3
  have z4 := free_of B1 4
  have z5 := free_of B1 5
  have z6 := free_of B1 6
  have z7 := free_of B1 7
  simp at c0 c1 c2 c3 c4 c5 c6 c7
  have hl := lt_of_obj B1
  clear g1 G0 B0 B1 H
  go_wp2_with fail
  have e0 : (w1.setCell ⟨w.heap.size, 0, none⟩ (.bool false)).heap[w.heap.size]? = some (.cells #[.bool false, NILS, .int .i64 0, NILS, NILS, NILS, .int .i64 0, .int .i64 0] 84 (0, 0)) := heap_set HB.out 0 _
  have e1 : ((w1.setCell ⟨w.heap.size, 0, none⟩ (.bool false)).setCell ⟨w.heap.size, 1, none⟩ (NILS)).heap[w.heap.size]? = some (.cells #[.bool false, NILS, .int .i64 0, NILS, NILS, NILS, .int .i64 0, .int .i64 0] 84 (0, 0)) := heap_set e0 1 _
  have e2 : (((w1.setCell ⟨w.heap.size, 0, none⟩ (.bool false)).setCell ⟨w.heap.size, 1, none⟩ (NILS)).setCell ⟨w.heap.size, 2, none⟩ (.int .i64 0)).heap[w.heap.size]? = some (.cells #[.bool false, NILS, .int .i64 0, NILS, NILS, NILS, .int .i64 0, .int .i64 0] 84 (0, 0)) := heap_set e1 2 _
  have e3 : ((((w1.setCell ⟨w.heap.size, 0, none⟩ (.bool false)).setCell ⟨w.heap.size, 1, none⟩ (NILS)).setCell ⟨w.heap.size, 2, none⟩ (.int .i64 0)).setCell ⟨w.heap.size, 3, none⟩ (NILS)).heap[w.heap.size]? = some (.cells #[.bool false, NILS, .int .i64 0, NILS, NILS, NILS, .int .i64 0, .int .i64 0] 84 (0, 0)) := heap_set e2 3 _
  have e4 : (((((w1.setCell ⟨w.heap.size, 0, none⟩ (.bool false)).setCell ⟨w.heap.size, 1, none⟩ (NILS)).setCell ⟨w.heap.size, 2, none⟩ (.int .i64 0)).setCell ⟨w.heap.size, 3, none⟩ (NILS)).setCell ⟨w.heap.size, 4, none⟩ (NILS)).heap[w.heap.size]? = some (.cells #[.bool false, NILS, .int .i64 0, NILS, NILS, NILS, .int .i64 0, .int .i64 0] 84 (0, 0)) := heap_set e3 4 _
  have e5 : ((((((w1.setCell ⟨w.heap.size, 0, none⟩ (.bool false)).setCell ⟨w.heap.size, 1, none⟩ (NILS)).setCell ⟨w.heap.size, 2, none⟩ (.int .i64 0)).setCell ⟨w.heap.size, 3, none⟩ (NILS)).setCell ⟨w.heap.size, 4, none⟩ (NILS)).setCell ⟨w.heap.size, 5, none⟩ (NILS)).heap[w.heap.size]? = some (.cells #[.bool false, NILS, .int .i64 0, NILS, NILS, NILS, .int .i64 0, .int .i64 0] 84 (0, 0)) := heap_set e4 5 _
  have e6 : (((((((w1.setCell ⟨w.heap.size, 0, none⟩ (.bool false)).setCell ⟨w.heap.size, 1, none⟩ (NILS)).setCell ⟨w.heap.size, 2, none⟩ (.int .i64 0)).setCell ⟨w.heap.size, 3, none⟩ (NILS)).setCell ⟨w.heap.size, 4, none⟩ (NILS)).setCell ⟨w.heap.size, 5, none⟩ (NILS)).setCell ⟨w.heap.size, 6, none⟩ (.int .i64 0)).heap[w.heap.size]? = some (.cells #[.bool false, NILS, .int .i64 0, NILS, NILS, NILS, .int .i64 0, .int .i64 0] 84 (0, 0)) := heap_set e5 6 _
  have e7 : ((((((((w1.setCell ⟨w.heap.size, 0, none⟩ (.bool false)).setCell ⟨w.heap.size, 1, none⟩ (NILS)).setCell ⟨w.heap.size, 2, none⟩ (.int .i64 0)).setCell ⟨w.heap.size, 3, none⟩ (NILS)).setCell ⟨w.heap.size, 4, none⟩ (NILS)).setCell ⟨w.heap.size, 5, none⟩ (NILS)).setCell ⟨w.heap.size, 6, none⟩ (.int .i64 0)).setCell ⟨w.heap.size, 7, none⟩ (.int .i64 0)).heap[w.heap.size]? = some (.cells #[.bool false, NILS, .int .i64 0, NILS, NILS, NILS, .int .i64 0, .int .i64 0] 84 (0, 0)) := heap_set e6 7 _
  have q0 := cell_of e7 0
  have q1 := cell_of e7 1
  have q2 := cell_of e7 2
  have q3 := cell_of e7 3
  have q4 := cell_of e7 4
  have q5 := cell_of e7 5
  have q6 := cell_of e7 6
  have q7 := cell_of e7 7
  simp only [List.getElem?_toArray, List.getElem?_cons_zero, List.getElem?_cons_succ] at q0 q1 q2 q3 q4 q5 q6 q7
  have g9 : Grew w ((((((((w1.setCell ⟨w.heap.size, 0, none⟩ (.bool false)).setCell ⟨w.heap.size, 1, none⟩ (NILS)).setCell ⟨w.heap.size, 2, none⟩ (.int .i64 0)).setCell ⟨w.heap.size, 3, none⟩ (NILS)).setCell ⟨w.heap.size, 4, none⟩ (NILS)).setCell ⟨w.heap.size, 5, none⟩ (NILS)).setCell ⟨w.heap.size, 6, none⟩ (.int .i64 0)).setCell ⟨w.heap.size, 7, none⟩ (.int .i64 0)) := by
    repeat refine Grew.set ?_ (Nat.le_refl _) _
    exact G1.out
  generalize ((((((((w1.setCell ⟨w.heap.size, 0, none⟩ (.bool false)).setCell ⟨w.heap.size, 1, none⟩ (NILS)).setCell ⟨w.heap.size, 2, none⟩ (.int .i64 0)).setCell ⟨w.heap.size, 3, none⟩ (NILS)).setCell ⟨w.heap.size, 4, none⟩ (NILS)).setCell ⟨w.heap.size, 5, none⟩ (NILS)).setCell ⟨w.heap.size, 6, none⟩ (.int .i64 0)).setCell ⟨w.heap.size, 7, none⟩ (.int .i64 0)) = W9 at *
  refine bodyPost_ret (v := .tuple #[.agg #[.bool false, NILS, .int .i64 0, NILS, NILS, NILS, .int .i64 0, .int .i64 0], .int .i64 7]) (by simp [results, Tryd.results35, go_sem, q0, q1, q2, q3, q4, q5, q6, q7]) rfl ?_
  exact ⟨rfl, g9⟩
set_option maxRecDepth 100000 in
set_option maxHeartbeats 1000000 in
theorem groupZ {p : Option Addr} {w : World} {id : Int} (h : Unm p w) : Calls Tryd.prog 16 #[.pointer p, .int .i64 id] w fun en w' => en = .returned (.tuple #[.int .i64 0, .int .i64 0, .int .i64 7]) ∧ Grew w w' := by
  have H : Hid (Calls Tryd.prog 35 #[.pointer p, .int .i64 id] w fun en w' => en = .returned (.tuple #[ITEM0, .int .i64 7]) ∧ Grew w w') := findZ h
  unfold ITEM0 at H
  clear h
  go_enter Tryd.func16, Tryd.ntmps16
  go_wp2_with fail
  refine H.out.mono ?_
  rintro en w1 ⟨rfl, g1⟩
  have G1 : Hid (Grew w w1) := g1
  clear g1 H
  go_wp2_with fail
  go_region
  all_goals go_wp2_with fail
  all_goals go_ret3
  all_goals refine ⟨rfl, ?_⟩
  all_goals repeat (first | exact G1.out | refine Grew.alloc ?_ _ | refine Grew.drew ?_ | refine Grew.drewN ?_ _)
set_option maxRecDepth 100000 in
set_option maxHeartbeats 2000000 in
theorem typeZ {p : Option Addr} {w : World} {id : Int} (h : Unm p w) : Calls Tryd.prog 15 #[.pointer p, .int .i64 id] w fun en w' => en = .returned (.tuple #[SUB0, .int .i64 7]) ∧ Grew w w' := by
  have H : Hid (∀ W, Grew w W → Calls Tryd.prog 35 #[.pointer p, .int .i64 id] W fun en w' => en = .returned (.tuple #[ITEM0, .int .i64 7]) ∧ Grew W w') := fun W g => findZ (h.grew g)
  unfold ITEM0 at H
  unfold SUB0
  clear h
  go_enter Tryd.func15, Tryd.ntmps15
  go_wp2_with fail
  have G0 : Grew w (w.alloc (.cells #[.bool false, NILS, .int .i64 0, NILS, NILS, NILS] 59)) := (Grew.refl w).alloc _
  have B0 : (w.alloc (.cells #[.bool false, NILS, .int .i64 0, NILS, NILS, NILS] 59)).heap[w.heap.size]? = some (.cells #[.bool false, NILS, .int .i64 0, NILS, NILS, NILS] 59 (0, 0)) := heap_alloc_last _ _
  refine (H.out _ G0).mono ?_
  rintro en w1 ⟨rfl, g1⟩
  have B1 := g1.other B0
  have G1 : Hid (Grew w w1) := G0.trans g1
  have HB : Hid (w1.heap[w.heap.size]? = some (.cells #[.bool false, NILS, .int .i64 0, NILS, NILS, NILS] 59 (0, 0))) := B1
  have c0 := cell_of B1 0
  have c1 := cell_of B1 1
  have c2 := cell_of B1 2
  have c3 := cell_of B1 3
  have c4 := cell_of B1 4
  have c5 := cell_of B1 5
  have z0 := free_of B1 0
  have z1 := free_of B1 1
  have z2 := free_of B1 2
  have z3 := free_of B1 3
  have z4 := free_of B1 4
  have z5 := free_of B1 5
  simp at c0 c1 c2 c3 c4 c5
  have hl := lt_of_obj B1
  clear g1 G0 B0 B1 H
  go_wp2_with fail
  have e0 : (w1.setCell ⟨w.heap.size, 0, none⟩ (.bool false)).heap[w.heap.size]? = some (.cells #[.bool false, NILS, .int .i64 0, NILS, NILS, NILS] 59 (0, 0)) := heap_set HB.out 0 _
  have e1 : ((w1.setCell ⟨w.heap.size, 0, none⟩ (.bool false)).setCell ⟨w.heap.size, 1, none⟩ (NILS)).heap[w.heap.size]? = some (.cells #[.bool false, NILS, .int .i64 0, NILS, NILS, NILS] 59 (0, 0)) := heap_set e0 1 _
  have e2 : (((w1.setCell ⟨w.heap.size, 0, none⟩ (.bool false)).setCell ⟨w.heap.size, 1, none⟩ (NILS)).setCell ⟨w.heap.size, 2, none⟩ (.int .i64 0)).heap[w.heap.size]? = some (.cells #[.bool false, NILS, .int .i64 0, NILS, NILS, NILS] 59 (0, 0)) := heap_set e1 2 _
  have e3 : ((((w1.setCell ⟨w.heap.size, 0, none⟩ (.bool false)).setCell ⟨w.heap.size, 1, none⟩ (NILS)).setCell ⟨w.heap.size, 2, none⟩ (.int .i64 0)).setCell ⟨w.heap.size, 3, none⟩ (NILS)).heap[w.heap.size]? = some (.cells #[.bool false, NILS, .int .i64 0, NILS, NILS, NILS] 59 (0, 0)) := heap_set e2 3 _
  have e4 : (((((w1.setCell ⟨w.heap.size, 0, none⟩ (.bool false)).setCell ⟨w.heap.size, 1, none⟩ (NILS)).setCell ⟨w.heap.size, 2, none⟩ (.int .i64 0)).setCell ⟨w.heap.size, 3, none⟩ (NILS)).setCell ⟨w.heap.size, 4, none⟩ (NILS)).heap[w.heap.size]? = some (.cells #[.bool false, NILS, .int .i64 0, NILS, NILS, NILS] 59 (0, 0)) := heap_set e3 4 _
  have e5 : ((((((w1.setCell ⟨w.heap.size, 0, none⟩ (.bool false)).setCell ⟨w.heap.size, 1, none⟩ (NILS)).setCell ⟨w.heap.size, 2, none⟩ (.int .i64 0)).setCell ⟨w.heap.size, 3, none⟩ (NILS)).setCell ⟨w.heap.size, 4, none⟩ (NILS)).setCell ⟨w.heap.size, 5, none⟩ (NILS)).heap[w.heap.size]? = some (.cells #[.bool false, NILS, .int .i64 0, NILS, NILS, NILS] 59 (0, 0)) := heap_set e4 5 _
  have g9 : Grew w ((((((w1.setCell ⟨w.heap.size, 0, none⟩ (.bool false)).setCell ⟨w.heap.size, 1, none⟩ (NILS)).setCell ⟨w.heap.size, 2, none⟩ (.int .i64 0)).setCell ⟨w.heap.size, 3, none⟩ (NILS)).setCell ⟨w.heap.size, 4, none⟩ (NILS)).setCell ⟨w.heap.size, 5, none⟩ (NILS)) := by
    repeat refine Grew.set ?_ (Nat.le_refl _) _
    exact G1.out
  generalize ((((((w1.setCell ⟨w.heap.size, 0, none⟩ (.bool false)).setCell ⟨w.heap.size, 1, none⟩ (NILS)).setCell ⟨w.heap.size, 2, none⟩ (.int .i64 0)).setCell ⟨w.heap.size, 3, none⟩ (NILS)).setCell ⟨w.heap.size, 4, none⟩ (NILS)).setCell ⟨w.heap.size, 5, none⟩ (NILS)) = W9 at *
  have f5 := heap_alloc e5 (.cells #[.bool false, NILS, .int .i64 0, NILS, NILS, NILS, .int .i64 0, .int .i64 0] 84)
  have q0 := cell_of f5 0
  have q1 := cell_of f5 1
  have q2 := cell_of f5 2
  have q3 := cell_of f5 3
  have q4 := cell_of f5 4
  have q5 := cell_of f5 5
  simp only [List.getElem?_toArray, List.getElem?_cons_zero, List.getElem?_cons_succ] at q0 q1 q2 q3 q4 q5
  have g10 : Grew w (W9.alloc (.cells #[.bool false, NILS, .int .i64 0, NILS, NILS, NILS, .int .i64 0, .int .i64 0] 84)) := g9.alloc _
  generalize W9.alloc (.cells #[.bool false, NILS, .int .i64 0, NILS, NILS, NILS, .int .i64 0, .int .i64 0] 84) = W10 at *
  refine bodyPost_ret (v := .tuple #[.agg #[.bool false, NILS, .int .i64 0, NILS, NILS, NILS], .int .i64 7]) (by simp [results, Tryd.results15, go_sem, q0, q1, q2, q3, q4, q5]) rfl ?_
  exact ⟨rfl, g10⟩
end Go.Proofs.YthchhehmbldmdaaDoor
