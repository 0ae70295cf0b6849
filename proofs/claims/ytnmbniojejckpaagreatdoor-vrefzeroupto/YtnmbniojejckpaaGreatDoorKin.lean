/-
  Sub's table of families; no statement is proved here.
-/
import Derived.Test.YtnmbniojejckpaaGreatDoorRgL
import Derived.Deep.Onto
set_option maxRecDepth 100000
set_option maxHeartbeats 8000000
namespace Go.Proofs.YtnmbniojejckpaaGreatDoor
open Go.RowKit
set_option linter.unusedVariables false
set_option linter.unusedSimpArgs false
theorem wpList_build_is {P : Program} {ops : Array Oper} {rest : List Oper} {o : Oper} {a : Act} {w : World} {Q : Exit → Act → World → Prop} (hg : o.guard = none) (t : TypeId) (parts : Array (Nat × Operand)) (ho : o.op = .build t parts) (cells : Array Value)
    (hf : P.built t (parts.map fun (i, x) => (i, a.eval x)).toList = some cells)
    (h : wpList P ops Q rest (a.put o.dst (.agg cells)) w) : wpList P ops Q (o :: rest) a w :=
  wpList_build hg t parts ho (by rw [hf]; rfl) (by rw [hf]; exact h)
def kinP : Int → Option (Int × Int × Int)
  | -1 => some (0, -1, -2)
  | -2 => some (0, -1, -2)
  | -3 => some (0, -3, -4)
  | -4 => some (0, -3, -4)
  | -5 => some (0, -5, -10)
  | -6 => some (-5, -5, -10)
  | -7 => some (-6, -5, -10)
  | -8 => some (-6, -5, -10)
  | -9 => some (-6, -5, -10)
  | -10 => some (0, -5, -10)
  | -11 => some (0, -11, -12)
  | -12 => some (0, -11, -12)
  | _ => none
def kinT (k : Int × Int × Int) : Value := .agg #[.int .i64 k.1, .int .i64 k.2.1, .int .i64 k.2.2]
def kinV : Option (Int × Int × Int) → Value
  | none => .tuple #[.agg #[.int .i64 0, .int .i64 0, .int .i64 0], .bool false]
  | some k => .tuple #[kinT k, .bool true]
theorem kinP_no {h : Int} (hh : h < -12 ∨ -1 < h) : kinP h = none := by
  unfold kinP
  split <;> first | omega | rfl
def KT : Array Value := #[.int .i64 0, .int .i64 0, .int .i64 0, .int .i64 0, .int .i64 (-1), .int .i64 (-2), .int .i64 0, .int .i64 (-1), .int .i64 (-2), .int .i64 0, .int .i64 (-3), .int .i64 (-4), .int .i64 0, .int .i64 (-3), .int .i64 (-4), .int .i64 0, .int .i64 (-5), .int .i64 (-10), .int .i64 (-5), .int .i64 (-5), .int .i64 (-10), .int .i64 (-6), .int .i64 (-5), .int .i64 (-10), .int .i64 (-6), .int .i64 (-5), .int .i64 (-10), .int .i64 (-6), .int .i64 (-5), .int .i64 (-10), .int .i64 0, .int .i64 (-5), .int .i64 (-10), .int .i64 0, .int .i64 (-11), .int .i64 (-12), .int .i64 0, .int .i64 (-11), .int .i64 (-12)]
theorem KT_store (w : World) : (storeCells ⟨w.heap.size, 0, none⟩ KT.toList).run Tryz.prog (w.alloc (.cells #[.int .i64 0, .int .i64 0, .int .i64 0, .int .i64 0, .int .i64 0, .int .i64 0, .int .i64 0, .int .i64 0, .int .i64 0, .int .i64 0, .int .i64 0, .int .i64 0, .int .i64 0, .int .i64 0, .int .i64 0, .int .i64 0, .int .i64 0, .int .i64 0, .int .i64 0, .int .i64 0, .int .i64 0, .int .i64 0, .int .i64 0, .int .i64 0, .int .i64 0, .int .i64 0, .int .i64 0, .int .i64 0, .int .i64 0, .int .i64 0, .int .i64 0, .int .i64 0, .int .i64 0, .int .i64 0, .int .i64 0, .int .i64 0, .int .i64 0, .int .i64 0, .int .i64 0] 205)) = .ok () (w.alloc (.cells KT 205)) :=
  run_storeCells_new w 205 _ KT (by kernel_rfl) rfl (by kernel_rfl)
theorem KT_size : KT.size = 39 := rfl
/- The world in which the table lies. -/
theorem kin_world (w : World) : ∃ W : World, W = (w.alloc (.cells #[.int .i64 0, .int .i64 0, .int .i64 0] 185)).alloc (.cells KT 205) ∧
    (storeCells ⟨w.heap.size + 1, 0, none⟩ KT.toList).run Tryz.prog ((w.alloc (.cells #[.int .i64 0, .int .i64 0, .int .i64 0] 185)).alloc (.cells #[.int .i64 0, .int .i64 0, .int .i64 0, .int .i64 0, .int .i64 0, .int .i64 0, .int .i64 0, .int .i64 0, .int .i64 0, .int .i64 0, .int .i64 0, .int .i64 0, .int .i64 0, .int .i64 0, .int .i64 0, .int .i64 0, .int .i64 0, .int .i64 0, .int .i64 0, .int .i64 0, .int .i64 0, .int .i64 0, .int .i64 0, .int .i64 0, .int .i64 0, .int .i64 0, .int .i64 0, .int .i64 0, .int .i64 0, .int .i64 0, .int .i64 0, .int .i64 0, .int .i64 0, .int .i64 0, .int .i64 0, .int .i64 0, .int .i64 0, .int .i64 0, .int .i64 0] 205)) = .ok () W ∧
    W.heap[w.heap.size]? = some (.cells #[.int .i64 0, .int .i64 0, .int .i64 0] 185 (0, 0)) ∧ W.heap[w.heap.size + 1]? = some (.cells KT 205 (0, 0)) ∧ Grew w W ∧ W.heap.size = w.heap.size + 2 := by
  refine ⟨_, rfl, ?_, ?_, ?_, ((Grew.refl w).alloc _).alloc _, by simp⟩
  · have := KT_store (w.alloc (.cells #[.int .i64 0, .int .i64 0, .int .i64 0] 185))
    rw [World.size_alloc] at this
    exact this
  · exact heap_alloc (heap_alloc_last w _) _
  · have := heap_alloc_last (w.alloc (.cells #[.int .i64 0, .int .i64 0, .int .i64 0] 185)) (.cells KT 205)
    rw [World.size_alloc] at this
    exact this
theorem kin_set {w W : World} {a b c : Int} (g : Grew w W) (h : W.heap[w.heap.size]? = some (.cells #[.int .i64 0, .int .i64 0, .int .i64 0] 185 (0, 0))) :
    Grew w (((W.setCell ⟨w.heap.size, 0, none⟩ (.int .i64 a)).setCell ⟨w.heap.size, 1, none⟩ (.int .i64 b)).setCell ⟨w.heap.size, 2, none⟩ (.int .i64 c)) ∧
    ∀ j, (((W.setCell ⟨w.heap.size, 0, none⟩ (.int .i64 a)).setCell ⟨w.heap.size, 1, none⟩ (.int .i64 b)).setCell ⟨w.heap.size, 2, none⟩ (.int .i64 c)).cell? ⟨w.heap.size, j, none⟩ = #[Value.int .i64 a, .int .i64 b, .int .i64 c][j]? := by
  refine ⟨((g.set (Nat.le_refl _) _).set (Nat.le_refl _) _).set (Nat.le_refl _) _, fun j => ?_⟩
  rw [cell_of (heap_set (heap_set (heap_set h 0 _) 1 _) 2 _)]
  rfl
theorem kinOf_1 (w : World) : Calls Tryz.prog 142 #[.int .i64 (-1)] w fun en w' => en = .returned (.tuple #[.agg #[.int .i64 0, .int .i64 (-1), .int .i64 (-2)], .bool true]) ∧ Grew w w' := by
  obtain ⟨W, hW, hS, hA, hB, hG, hz⟩ := kin_world w
  have k1 := KT_size
  have c0 : W.cell? ⟨w.heap.size + 1, 3, none⟩ = some (.int .i64 0) := cell_of hB 3
  have c1 : W.cell? ⟨w.heap.size + 1, 4, none⟩ = some (.int .i64 (-1)) := cell_of hB 4
  have c2 : W.cell? ⟨w.heap.size + 1, 5, none⟩ = some (.int .i64 (-2)) := cell_of hB 5
  have a0 := cell_of hA 0
  have a1 := cell_of hA 1
  have a2 := cell_of hA 2
  have z0 := free_of hA 0
  have z1 := free_of hA 1
  have z2 := free_of hA 2
  simp at a0 a1 a2
  have hd : W.heap.size = w.heap.size + 2 := hz
  have K : Hid (Grew w W ∧ W.heap[w.heap.size]? = some (.cells #[.int .i64 0, .int .i64 0, .int .i64 0] 185 (0, 0))) := ⟨hG, hA⟩
  clear hW hA hB hG hz
  go_enter Tryz.func142, Tryz.ntmps142
  go_wp2_with (refine wpList_build_is rfl 205 _ rfl KT (by kernel_rfl) ?_)
  obtain ⟨g, hc⟩ := kin_set (a := 0) (b := -1) (c := -2) K.out.1 K.out.2
  have e0 := hc 0
  have e1 := hc 1
  have e2 := hc 2
  simp at e0 e1 e2
  have G : Hid (Grew w (((W.setCell ⟨w.heap.size, 0, none⟩ (.int .i64 (0))).setCell ⟨w.heap.size, 1, none⟩ (.int .i64 (-1))).setCell ⟨w.heap.size, 2, none⟩ (.int .i64 (-2)))) := g
  clear K hc g a0 a1 a2 z0 z1 z2 c0 c1 c2 hS
  generalize (((W.setCell ⟨w.heap.size, 0, none⟩ (.int .i64 (0))).setCell ⟨w.heap.size, 1, none⟩ (.int .i64 (-1))).setCell ⟨w.heap.size, 2, none⟩ (.int .i64 (-2))) = V at *
  refine bodyPost_ret (v := .tuple #[.agg #[.int .i64 0, .int .i64 (-1), .int .i64 (-2)], .bool true]) (by simp [results, Tryz.results142, go_sem, e0, e1, e2]) rfl ⟨rfl, G.out⟩
theorem kinOf_2 (w : World) : Calls Tryz.prog 142 #[.int .i64 (-2)] w fun en w' => en = .returned (.tuple #[.agg #[.int .i64 0, .int .i64 (-1), .int .i64 (-2)], .bool true]) ∧ Grew w w' := by
  obtain ⟨W, hW, hS, hA, hB, hG, hz⟩ := kin_world w
  have k1 := KT_size
  have c0 : W.cell? ⟨w.heap.size + 1, 6, none⟩ = some (.int .i64 0) := cell_of hB 6
  have c1 : W.cell? ⟨w.heap.size + 1, 7, none⟩ = some (.int .i64 (-1)) := cell_of hB 7
  have c2 : W.cell? ⟨w.heap.size + 1, 8, none⟩ = some (.int .i64 (-2)) := cell_of hB 8
  have a0 := cell_of hA 0
  have a1 := cell_of hA 1
  have a2 := cell_of hA 2
  have z0 := free_of hA 0
  have z1 := free_of hA 1
  have z2 := free_of hA 2
  simp at a0 a1 a2
  have hd : W.heap.size = w.heap.size + 2 := hz
  have K : Hid (Grew w W ∧ W.heap[w.heap.size]? = some (.cells #[.int .i64 0, .int .i64 0, .int .i64 0] 185 (0, 0))) := ⟨hG, hA⟩
  clear hW hA hB hG hz
  go_enter Tryz.func142, Tryz.ntmps142
  go_wp2_with (refine wpList_build_is rfl 205 _ rfl KT (by kernel_rfl) ?_)
  obtain ⟨g, hc⟩ := kin_set (a := 0) (b := -1) (c := -2) K.out.1 K.out.2
  have e0 := hc 0
  have e1 := hc 1
  have e2 := hc 2
  simp at e0 e1 e2
  have G : Hid (Grew w (((W.setCell ⟨w.heap.size, 0, none⟩ (.int .i64 (0))).setCell ⟨w.heap.size, 1, none⟩ (.int .i64 (-1))).setCell ⟨w.heap.size, 2, none⟩ (.int .i64 (-2)))) := g
  clear K hc g a0 a1 a2 z0 z1 z2 c0 c1 c2 hS
  generalize (((W.setCell ⟨w.heap.size, 0, none⟩ (.int .i64 (0))).setCell ⟨w.heap.size, 1, none⟩ (.int .i64 (-1))).setCell ⟨w.heap.size, 2, none⟩ (.int .i64 (-2))) = V at *
  refine bodyPost_ret (v := .tuple #[.agg #[.int .i64 0, .int .i64 (-1), .int .i64 (-2)], .bool true]) (by simp [results, Tryz.results142, go_sem, e0, e1, e2]) rfl ⟨rfl, G.out⟩
theorem kinOf_3 (w : World) : Calls Tryz.prog 142 #[.int .i64 (-3)] w fun en w' => en = .returned (.tuple #[.agg #[.int .i64 0, .int .i64 (-3), .int .i64 (-4)], .bool true]) ∧ Grew w w' := by
  obtain ⟨W, hW, hS, hA, hB, hG, hz⟩ := kin_world w
  have k1 := KT_size
  have c0 : W.cell? ⟨w.heap.size + 1, 9, none⟩ = some (.int .i64 0) := cell_of hB 9
  have c1 : W.cell? ⟨w.heap.size + 1, 10, none⟩ = some (.int .i64 (-3)) := cell_of hB 10
  have c2 : W.cell? ⟨w.heap.size + 1, 11, none⟩ = some (.int .i64 (-4)) := cell_of hB 11
  have a0 := cell_of hA 0
  have a1 := cell_of hA 1
  have a2 := cell_of hA 2
  have z0 := free_of hA 0
  have z1 := free_of hA 1
  have z2 := free_of hA 2
  simp at a0 a1 a2
  have hd : W.heap.size = w.heap.size + 2 := hz
  have K : Hid (Grew w W ∧ W.heap[w.heap.size]? = some (.cells #[.int .i64 0, .int .i64 0, .int .i64 0] 185 (0, 0))) := ⟨hG, hA⟩
  clear hW hA hB hG hz
  go_enter Tryz.func142, Tryz.ntmps142
  go_wp2_with (refine wpList_build_is rfl 205 _ rfl KT (by kernel_rfl) ?_)
  obtain ⟨g, hc⟩ := kin_set (a := 0) (b := -3) (c := -4) K.out.1 K.out.2
  have e0 := hc 0
  have e1 := hc 1
  have e2 := hc 2
  simp at e0 e1 e2
  have G : Hid (Grew w (((W.setCell ⟨w.heap.size, 0, none⟩ (.int .i64 (0))).setCell ⟨w.heap.size, 1, none⟩ (.int .i64 (-3))).setCell ⟨w.heap.size, 2, none⟩ (.int .i64 (-4)))) := g
  clear K hc g a0 a1 a2 z0 z1 z2 c0 c1 c2 hS
  generalize (((W.setCell ⟨w.heap.size, 0, none⟩ (.int .i64 (0))).setCell ⟨w.heap.size, 1, none⟩ (.int .i64 (-3))).setCell ⟨w.heap.size, 2, none⟩ (.int .i64 (-4))) = V at *
  refine bodyPost_ret (v := .tuple #[.agg #[.int .i64 0, .int .i64 (-3), .int .i64 (-4)], .bool true]) (by simp [results, Tryz.results142, go_sem, e0, e1, e2]) rfl ⟨rfl, G.out⟩
theorem kinOf_4 (w : World) : Calls Tryz.prog 142 #[.int .i64 (-4)] w fun en w' => en = .returned (.tuple #[.agg #[.int .i64 0, .int .i64 (-3), .int .i64 (-4)], .bool true]) ∧ Grew w w' := by
  obtain ⟨W, hW, hS, hA, hB, hG, hz⟩ := kin_world w
  have k1 := KT_size
  have c0 : W.cell? ⟨w.heap.size + 1, 12, none⟩ = some (.int .i64 0) := cell_of hB 12
  have c1 : W.cell? ⟨w.heap.size + 1, 13, none⟩ = some (.int .i64 (-3)) := cell_of hB 13
  have c2 : W.cell? ⟨w.heap.size + 1, 14, none⟩ = some (.int .i64 (-4)) := cell_of hB 14
  have a0 := cell_of hA 0
  have a1 := cell_of hA 1
  have a2 := cell_of hA 2
  have z0 := free_of hA 0
  have z1 := free_of hA 1
  have z2 := free_of hA 2
  simp at a0 a1 a2
  have hd : W.heap.size = w.heap.size + 2 := hz
  have K : Hid (Grew w W ∧ W.heap[w.heap.size]? = some (.cells #[.int .i64 0, .int .i64 0, .int .i64 0] 185 (0, 0))) := ⟨hG, hA⟩
  clear hW hA hB hG hz
  go_enter Tryz.func142, Tryz.ntmps142
  go_wp2_with (refine wpList_build_is rfl 205 _ rfl KT (by kernel_rfl) ?_)
  obtain ⟨g, hc⟩ := kin_set (a := 0) (b := -3) (c := -4) K.out.1 K.out.2
  have e0 := hc 0
  have e1 := hc 1
  have e2 := hc 2
  simp at e0 e1 e2
  have G : Hid (Grew w (((W.setCell ⟨w.heap.size, 0, none⟩ (.int .i64 (0))).setCell ⟨w.heap.size, 1, none⟩ (.int .i64 (-3))).setCell ⟨w.heap.size, 2, none⟩ (.int .i64 (-4)))) := g
  clear K hc g a0 a1 a2 z0 z1 z2 c0 c1 c2 hS
  generalize (((W.setCell ⟨w.heap.size, 0, none⟩ (.int .i64 (0))).setCell ⟨w.heap.size, 1, none⟩ (.int .i64 (-3))).setCell ⟨w.heap.size, 2, none⟩ (.int .i64 (-4))) = V at *
  refine bodyPost_ret (v := .tuple #[.agg #[.int .i64 0, .int .i64 (-3), .int .i64 (-4)], .bool true]) (by simp [results, Tryz.results142, go_sem, e0, e1, e2]) rfl ⟨rfl, G.out⟩
theorem kinOf_5 (w : World) : Calls Tryz.prog 142 #[.int .i64 (-5)] w fun en w' => en = .returned (.tuple #[.agg #[.int .i64 0, .int .i64 (-5), .int .i64 (-10)], .bool true]) ∧ Grew w w' := by
  obtain ⟨W, hW, hS, hA, hB, hG, hz⟩ := kin_world w
  have k1 := KT_size
  have c0 : W.cell? ⟨w.heap.size + 1, 15, none⟩ = some (.int .i64 0) := cell_of hB 15
  have c1 : W.cell? ⟨w.heap.size + 1, 16, none⟩ = some (.int .i64 (-5)) := cell_of hB 16
  have c2 : W.cell? ⟨w.heap.size + 1, 17, none⟩ = some (.int .i64 (-10)) := cell_of hB 17
  have a0 := cell_of hA 0
  have a1 := cell_of hA 1
  have a2 := cell_of hA 2
  have z0 := free_of hA 0
  have z1 := free_of hA 1
  have z2 := free_of hA 2
  simp at a0 a1 a2
  have hd : W.heap.size = w.heap.size + 2 := hz
  have K : Hid (Grew w W ∧ W.heap[w.heap.size]? = some (.cells #[.int .i64 0, .int .i64 0, .int .i64 0] 185 (0, 0))) := ⟨hG, hA⟩
  clear hW hA hB hG hz
  go_enter Tryz.func142, Tryz.ntmps142
  go_wp2_with (refine wpList_build_is rfl 205 _ rfl KT (by kernel_rfl) ?_)
  obtain ⟨g, hc⟩ := kin_set (a := 0) (b := -5) (c := -10) K.out.1 K.out.2
  have e0 := hc 0
  have e1 := hc 1
  have e2 := hc 2
  simp at e0 e1 e2
  have G : Hid (Grew w (((W.setCell ⟨w.heap.size, 0, none⟩ (.int .i64 (0))).setCell ⟨w.heap.size, 1, none⟩ (.int .i64 (-5))).setCell ⟨w.heap.size, 2, none⟩ (.int .i64 (-10)))) := g
  clear K hc g a0 a1 a2 z0 z1 z2 c0 c1 c2 hS
  generalize (((W.setCell ⟨w.heap.size, 0, none⟩ (.int .i64 (0))).setCell ⟨w.heap.size, 1, none⟩ (.int .i64 (-5))).setCell ⟨w.heap.size, 2, none⟩ (.int .i64 (-10))) = V at *
  refine bodyPost_ret (v := .tuple #[.agg #[.int .i64 0, .int .i64 (-5), .int .i64 (-10)], .bool true]) (by simp [results, Tryz.results142, go_sem, e0, e1, e2]) rfl ⟨rfl, G.out⟩
theorem kinOf_6 (w : World) : Calls Tryz.prog 142 #[.int .i64 (-6)] w fun en w' => en = .returned (.tuple #[.agg #[.int .i64 (-5), .int .i64 (-5), .int .i64 (-10)], .bool true]) ∧ Grew w w' := by
  obtain ⟨W, hW, hS, hA, hB, hG, hz⟩ := kin_world w
  have k1 := KT_size
  have c0 : W.cell? ⟨w.heap.size + 1, 18, none⟩ = some (.int .i64 (-5)) := cell_of hB 18
  have c1 : W.cell? ⟨w.heap.size + 1, 19, none⟩ = some (.int .i64 (-5)) := cell_of hB 19
  have c2 : W.cell? ⟨w.heap.size + 1, 20, none⟩ = some (.int .i64 (-10)) := cell_of hB 20
  have a0 := cell_of hA 0
  have a1 := cell_of hA 1
  have a2 := cell_of hA 2
  have z0 := free_of hA 0
  have z1 := free_of hA 1
  have z2 := free_of hA 2
  simp at a0 a1 a2
  have hd : W.heap.size = w.heap.size + 2 := hz
  have K : Hid (Grew w W ∧ W.heap[w.heap.size]? = some (.cells #[.int .i64 0, .int .i64 0, .int .i64 0] 185 (0, 0))) := ⟨hG, hA⟩
  clear hW hA hB hG hz
  go_enter Tryz.func142, Tryz.ntmps142
  go_wp2_with (refine wpList_build_is rfl 205 _ rfl KT (by kernel_rfl) ?_)
  obtain ⟨g, hc⟩ := kin_set (a := -5) (b := -5) (c := -10) K.out.1 K.out.2
  have e0 := hc 0
  have e1 := hc 1
  have e2 := hc 2
  simp at e0 e1 e2
  have G : Hid (Grew w (((W.setCell ⟨w.heap.size, 0, none⟩ (.int .i64 (-5))).setCell ⟨w.heap.size, 1, none⟩ (.int .i64 (-5))).setCell ⟨w.heap.size, 2, none⟩ (.int .i64 (-10)))) := g
  clear K hc g a0 a1 a2 z0 z1 z2 c0 c1 c2 hS
  generalize (((W.setCell ⟨w.heap.size, 0, none⟩ (.int .i64 (-5))).setCell ⟨w.heap.size, 1, none⟩ (.int .i64 (-5))).setCell ⟨w.heap.size, 2, none⟩ (.int .i64 (-10))) = V at *
  refine bodyPost_ret (v := .tuple #[.agg #[.int .i64 (-5), .int .i64 (-5), .int .i64 (-10)], .bool true]) (by simp [results, Tryz.results142, go_sem, e0, e1, e2]) rfl ⟨rfl, G.out⟩
theorem kinOf_7 (w : World) : Calls Tryz.prog 142 #[.int .i64 (-7)] w fun en w' => en = .returned (.tuple #[.agg #[.int .i64 (-6), .int .i64 (-5), .int .i64 (-10)], .bool true]) ∧ Grew w w' := by
  obtain ⟨W, hW, hS, hA, hB, hG, hz⟩ := kin_world w
  have k1 := KT_size
  have c0 : W.cell? ⟨w.heap.size + 1, 21, none⟩ = some (.int .i64 (-6)) := cell_of hB 21
  have c1 : W.cell? ⟨w.heap.size + 1, 22, none⟩ = some (.int .i64 (-5)) := cell_of hB 22
  have c2 : W.cell? ⟨w.heap.size + 1, 23, none⟩ = some (.int .i64 (-10)) := cell_of hB 23
  have a0 := cell_of hA 0
  have a1 := cell_of hA 1
  have a2 := cell_of hA 2
  have z0 := free_of hA 0
  have z1 := free_of hA 1
  have z2 := free_of hA 2
  simp at a0 a1 a2
  have hd : W.heap.size = w.heap.size + 2 := hz
  have K : Hid (Grew w W ∧ W.heap[w.heap.size]? = some (.cells #[.int .i64 0, .int .i64 0, .int .i64 0] 185 (0, 0))) := ⟨hG, hA⟩
  clear hW hA hB hG hz
  go_enter Tryz.func142, Tryz.ntmps142
  go_wp2_with (refine wpList_build_is rfl 205 _ rfl KT (by kernel_rfl) ?_)
  obtain ⟨g, hc⟩ := kin_set (a := -6) (b := -5) (c := -10) K.out.1 K.out.2
  have e0 := hc 0
  have e1 := hc 1
  have e2 := hc 2
  simp at e0 e1 e2
  have G : Hid (Grew w (((W.setCell ⟨w.heap.size, 0, none⟩ (.int .i64 (-6))).setCell ⟨w.heap.size, 1, none⟩ (.int .i64 (-5))).setCell ⟨w.heap.size, 2, none⟩ (.int .i64 (-10)))) := g
  clear K hc g a0 a1 a2 z0 z1 z2 c0 c1 c2 hS
  generalize (((W.setCell ⟨w.heap.size, 0, none⟩ (.int .i64 (-6))).setCell ⟨w.heap.size, 1, none⟩ (.int .i64 (-5))).setCell ⟨w.heap.size, 2, none⟩ (.int .i64 (-10))) = V at *
  refine bodyPost_ret (v := .tuple #[.agg #[.int .i64 (-6), .int .i64 (-5), .int .i64 (-10)], .bool true]) (by simp [results, Tryz.results142, go_sem, e0, e1, e2]) rfl ⟨rfl, G.out⟩
theorem kinOf_8 (w : World) : Calls Tryz.prog 142 #[.int .i64 (-8)] w fun en w' => en = .returned (.tuple #[.agg #[.int .i64 (-6), .int .i64 (-5), .int .i64 (-10)], .bool true]) ∧ Grew w w' := by
  obtain ⟨W, hW, hS, hA, hB, hG, hz⟩ := kin_world w
  have k1 := KT_size
  have c0 : W.cell? ⟨w.heap.size + 1, 24, none⟩ = some (.int .i64 (-6)) := cell_of hB 24
  have c1 : W.cell? ⟨w.heap.size + 1, 25, none⟩ = some (.int .i64 (-5)) := cell_of hB 25
  have c2 : W.cell? ⟨w.heap.size + 1, 26, none⟩ = some (.int .i64 (-10)) := cell_of hB 26
  have a0 := cell_of hA 0
  have a1 := cell_of hA 1
  have a2 := cell_of hA 2
  have z0 := free_of hA 0
  have z1 := free_of hA 1
  have z2 := free_of hA 2
  simp at a0 a1 a2
  have hd : W.heap.size = w.heap.size + 2 := hz
  have K : Hid (Grew w W ∧ W.heap[w.heap.size]? = some (.cells #[.int .i64 0, .int .i64 0, .int .i64 0] 185 (0, 0))) := ⟨hG, hA⟩
  clear hW hA hB hG hz
  go_enter Tryz.func142, Tryz.ntmps142
  go_wp2_with (refine wpList_build_is rfl 205 _ rfl KT (by kernel_rfl) ?_)
  obtain ⟨g, hc⟩ := kin_set (a := -6) (b := -5) (c := -10) K.out.1 K.out.2
  have e0 := hc 0
  have e1 := hc 1
  have e2 := hc 2
  simp at e0 e1 e2
  have G : Hid (Grew w (((W.setCell ⟨w.heap.size, 0, none⟩ (.int .i64 (-6))).setCell ⟨w.heap.size, 1, none⟩ (.int .i64 (-5))).setCell ⟨w.heap.size, 2, none⟩ (.int .i64 (-10)))) := g
  clear K hc g a0 a1 a2 z0 z1 z2 c0 c1 c2 hS
  generalize (((W.setCell ⟨w.heap.size, 0, none⟩ (.int .i64 (-6))).setCell ⟨w.heap.size, 1, none⟩ (.int .i64 (-5))).setCell ⟨w.heap.size, 2, none⟩ (.int .i64 (-10))) = V at *
  refine bodyPost_ret (v := .tuple #[.agg #[.int .i64 (-6), .int .i64 (-5), .int .i64 (-10)], .bool true]) (by simp [results, Tryz.results142, go_sem, e0, e1, e2]) rfl ⟨rfl, G.out⟩
theorem kinOf_9 (w : World) : Calls Tryz.prog 142 #[.int .i64 (-9)] w fun en w' => en = .returned (.tuple #[.agg #[.int .i64 (-6), .int .i64 (-5), .int .i64 (-10)], .bool true]) ∧ Grew w w' := by
  obtain ⟨W, hW, hS, hA, hB, hG, hz⟩ := kin_world w
  have k1 := KT_size
  have c0 : W.cell? ⟨w.heap.size + 1, 27, none⟩ = some (.int .i64 (-6)) := cell_of hB 27
  have c1 : W.cell? ⟨w.heap.size + 1, 28, none⟩ = some (.int .i64 (-5)) := cell_of hB 28
  have c2 : W.cell? ⟨w.heap.size + 1, 29, none⟩ = some (.int .i64 (-10)) := cell_of hB 29
  have a0 := cell_of hA 0
  have a1 := cell_of hA 1
  have a2 := cell_of hA 2
  have z0 := free_of hA 0
  have z1 := free_of hA 1
  have z2 := free_of hA 2
  simp at a0 a1 a2
  have hd : W.heap.size = w.heap.size + 2 := hz
  have K : Hid (Grew w W ∧ W.heap[w.heap.size]? = some (.cells #[.int .i64 0, .int .i64 0, .int .i64 0] 185 (0, 0))) := ⟨hG, hA⟩
  clear hW hA hB hG hz
  go_enter Tryz.func142, Tryz.ntmps142
  go_wp2_with (refine wpList_build_is rfl 205 _ rfl KT (by kernel_rfl) ?_)
  obtain ⟨g, hc⟩ := kin_set (a := -6) (b := -5) (c := -10) K.out.1 K.out.2
  have e0 := hc 0
  have e1 := hc 1
  have e2 := hc 2
  simp at e0 e1 e2
  have G : Hid (Grew w (((W.setCell ⟨w.heap.size, 0, none⟩ (.int .i64 (-6))).setCell ⟨w.heap.size, 1, none⟩ (.int .i64 (-5))).setCell ⟨w.heap.size, 2, none⟩ (.int .i64 (-10)))) := g
  clear K hc g a0 a1 a2 z0 z1 z2 c0 c1 c2 hS
  generalize (((W.setCell ⟨w.heap.size, 0, none⟩ (.int .i64 (-6))).setCell ⟨w.heap.size, 1, none⟩ (.int .i64 (-5))).setCell ⟨w.heap.size, 2, none⟩ (.int .i64 (-10))) = V at *
  refine bodyPost_ret (v := .tuple #[.agg #[.int .i64 (-6), .int .i64 (-5), .int .i64 (-10)], .bool true]) (by simp [results, Tryz.results142, go_sem, e0, e1, e2]) rfl ⟨rfl, G.out⟩
theorem kinOf_10 (w : World) : Calls Tryz.prog 142 #[.int .i64 (-10)] w fun en w' => en = .returned (.tuple #[.agg #[.int .i64 0, .int .i64 (-5), .int .i64 (-10)], .bool true]) ∧ Grew w w' := by
  obtain ⟨W, hW, hS, hA, hB, hG, hz⟩ := kin_world w
  have k1 := KT_size
  have c0 : W.cell? ⟨w.heap.size + 1, 30, none⟩ = some (.int .i64 0) := cell_of hB 30
  have c1 : W.cell? ⟨w.heap.size + 1, 31, none⟩ = some (.int .i64 (-5)) := cell_of hB 31
  have c2 : W.cell? ⟨w.heap.size + 1, 32, none⟩ = some (.int .i64 (-10)) := cell_of hB 32
  have a0 := cell_of hA 0
  have a1 := cell_of hA 1
  have a2 := cell_of hA 2
  have z0 := free_of hA 0
  have z1 := free_of hA 1
  have z2 := free_of hA 2
  simp at a0 a1 a2
  have hd : W.heap.size = w.heap.size + 2 := hz
  have K : Hid (Grew w W ∧ W.heap[w.heap.size]? = some (.cells #[.int .i64 0, .int .i64 0, .int .i64 0] 185 (0, 0))) := ⟨hG, hA⟩
  clear hW hA hB hG hz
  go_enter Tryz.func142, Tryz.ntmps142
  go_wp2_with (refine wpList_build_is rfl 205 _ rfl KT (by kernel_rfl) ?_)
  obtain ⟨g, hc⟩ := kin_set (a := 0) (b := -5) (c := -10) K.out.1 K.out.2
  have e0 := hc 0
  have e1 := hc 1
  have e2 := hc 2
  simp at e0 e1 e2
  have G : Hid (Grew w (((W.setCell ⟨w.heap.size, 0, none⟩ (.int .i64 (0))).setCell ⟨w.heap.size, 1, none⟩ (.int .i64 (-5))).setCell ⟨w.heap.size, 2, none⟩ (.int .i64 (-10)))) := g
  clear K hc g a0 a1 a2 z0 z1 z2 c0 c1 c2 hS
  generalize (((W.setCell ⟨w.heap.size, 0, none⟩ (.int .i64 (0))).setCell ⟨w.heap.size, 1, none⟩ (.int .i64 (-5))).setCell ⟨w.heap.size, 2, none⟩ (.int .i64 (-10))) = V at *
  refine bodyPost_ret (v := .tuple #[.agg #[.int .i64 0, .int .i64 (-5), .int .i64 (-10)], .bool true]) (by simp [results, Tryz.results142, go_sem, e0, e1, e2]) rfl ⟨rfl, G.out⟩
theorem kinOf_11 (w : World) : Calls Tryz.prog 142 #[.int .i64 (-11)] w fun en w' => en = .returned (.tuple #[.agg #[.int .i64 0, .int .i64 (-11), .int .i64 (-12)], .bool true]) ∧ Grew w w' := by
  obtain ⟨W, hW, hS, hA, hB, hG, hz⟩ := kin_world w
  have k1 := KT_size
  have c0 : W.cell? ⟨w.heap.size + 1, 33, none⟩ = some (.int .i64 0) := cell_of hB 33
  have c1 : W.cell? ⟨w.heap.size + 1, 34, none⟩ = some (.int .i64 (-11)) := cell_of hB 34
  have c2 : W.cell? ⟨w.heap.size + 1, 35, none⟩ = some (.int .i64 (-12)) := cell_of hB 35
  have a0 := cell_of hA 0
  have a1 := cell_of hA 1
  have a2 := cell_of hA 2
  have z0 := free_of hA 0
  have z1 := free_of hA 1
  have z2 := free_of hA 2
  simp at a0 a1 a2
  have hd : W.heap.size = w.heap.size + 2 := hz
  have K : Hid (Grew w W ∧ W.heap[w.heap.size]? = some (.cells #[.int .i64 0, .int .i64 0, .int .i64 0] 185 (0, 0))) := ⟨hG, hA⟩
  clear hW hA hB hG hz
  go_enter Tryz.func142, Tryz.ntmps142
  go_wp2_with (refine wpList_build_is rfl 205 _ rfl KT (by kernel_rfl) ?_)
  obtain ⟨g, hc⟩ := kin_set (a := 0) (b := -11) (c := -12) K.out.1 K.out.2
  have e0 := hc 0
  have e1 := hc 1
  have e2 := hc 2
  simp at e0 e1 e2
  have G : Hid (Grew w (((W.setCell ⟨w.heap.size, 0, none⟩ (.int .i64 (0))).setCell ⟨w.heap.size, 1, none⟩ (.int .i64 (-11))).setCell ⟨w.heap.size, 2, none⟩ (.int .i64 (-12)))) := g
  clear K hc g a0 a1 a2 z0 z1 z2 c0 c1 c2 hS
  generalize (((W.setCell ⟨w.heap.size, 0, none⟩ (.int .i64 (0))).setCell ⟨w.heap.size, 1, none⟩ (.int .i64 (-11))).setCell ⟨w.heap.size, 2, none⟩ (.int .i64 (-12))) = V at *
  refine bodyPost_ret (v := .tuple #[.agg #[.int .i64 0, .int .i64 (-11), .int .i64 (-12)], .bool true]) (by simp [results, Tryz.results142, go_sem, e0, e1, e2]) rfl ⟨rfl, G.out⟩
theorem kinOf_12 (w : World) : Calls Tryz.prog 142 #[.int .i64 (-12)] w fun en w' => en = .returned (.tuple #[.agg #[.int .i64 0, .int .i64 (-11), .int .i64 (-12)], .bool true]) ∧ Grew w w' := by
  obtain ⟨W, hW, hS, hA, hB, hG, hz⟩ := kin_world w
  have k1 := KT_size
  have c0 : W.cell? ⟨w.heap.size + 1, 36, none⟩ = some (.int .i64 0) := cell_of hB 36
  have c1 : W.cell? ⟨w.heap.size + 1, 37, none⟩ = some (.int .i64 (-11)) := cell_of hB 37
  have c2 : W.cell? ⟨w.heap.size + 1, 38, none⟩ = some (.int .i64 (-12)) := cell_of hB 38
  have a0 := cell_of hA 0
  have a1 := cell_of hA 1
  have a2 := cell_of hA 2
  have z0 := free_of hA 0
  have z1 := free_of hA 1
  have z2 := free_of hA 2
  simp at a0 a1 a2
  have hd : W.heap.size = w.heap.size + 2 := hz
  have K : Hid (Grew w W ∧ W.heap[w.heap.size]? = some (.cells #[.int .i64 0, .int .i64 0, .int .i64 0] 185 (0, 0))) := ⟨hG, hA⟩
  clear hW hA hB hG hz
  go_enter Tryz.func142, Tryz.ntmps142
  go_wp2_with (refine wpList_build_is rfl 205 _ rfl KT (by kernel_rfl) ?_)
  obtain ⟨g, hc⟩ := kin_set (a := 0) (b := -11) (c := -12) K.out.1 K.out.2
  have e0 := hc 0
  have e1 := hc 1
  have e2 := hc 2
  simp at e0 e1 e2
  have G : Hid (Grew w (((W.setCell ⟨w.heap.size, 0, none⟩ (.int .i64 (0))).setCell ⟨w.heap.size, 1, none⟩ (.int .i64 (-11))).setCell ⟨w.heap.size, 2, none⟩ (.int .i64 (-12)))) := g
  clear K hc g a0 a1 a2 z0 z1 z2 c0 c1 c2 hS
  generalize (((W.setCell ⟨w.heap.size, 0, none⟩ (.int .i64 (0))).setCell ⟨w.heap.size, 1, none⟩ (.int .i64 (-11))).setCell ⟨w.heap.size, 2, none⟩ (.int .i64 (-12))) = V at *
  refine bodyPost_ret (v := .tuple #[.agg #[.int .i64 0, .int .i64 (-11), .int .i64 (-12)], .bool true]) (by simp [results, Tryz.results142, go_sem, e0, e1, e2]) rfl ⟨rfl, G.out⟩
end Go.Proofs.YtnmbniojejckpaaGreatDoor
