/-
  The walk of fnum's findConversion, over its table, at the operators that are asked; no statement is proved here.
-/
import Derived.Test.YtjkebimmddlccabDoorFind
namespace Go.Proofs.YtjkebimmddlccabDoor
open Go.RowKit
set_option linter.unusedVariables false
set_option linter.unusedSimpArgs false

def CV : Array Value := #[.int .i64 21, .int .i64 32, .int .i64 32, .bool true, .int .i64 21, .int .i64 32, .int .i64 32, .bool false, .int .i64 21, .int .i64 64, .int .i64 32, .bool true, .int .i64 21, .int .i64 64, .int .i64 32, .bool false, .int .i64 0, .int .i64 0, .int .i64 0, .bool false, .int .i64 0, .int .i64 0, .int .i64 0, .bool false, .int .i64 21, .int .i64 32, .int .i64 64, .bool true, .int .i64 21, .int .i64 32, .int .i64 64, .bool false, .int .i64 21, .int .i64 64, .int .i64 64, .bool true, .int .i64 21, .int .i64 64, .int .i64 64, .bool false, .int .i64 23, .int .i64 32, .int .i64 32, .bool true, .int .i64 23, .int .i64 32, .int .i64 32, .bool false, .int .i64 23, .int .i64 64, .int .i64 32, .bool true, .int .i64 23, .int .i64 64, .int .i64 32, .bool false, .int .i64 24, .int .i64 64, .int .i64 32, .bool false, .int .i64 23, .int .i64 32, .int .i64 64, .bool true, .int .i64 23, .int .i64 32, .int .i64 64, .bool false, .int .i64 23, .int .i64 64, .int .i64 64, .bool true, .int .i64 23, .int .i64 64, .int .i64 64, .bool false, .int .i64 25, .int .i64 32, .int .i64 64, .bool false, .int .i64 26, .int .i64 32, .int .i64 32, .bool false, .int .i64 26, .int .i64 64, .int .i64 64, .bool false, .int .i64 26, .int .i64 32, .int .i64 32, .bool false, .int .i64 26, .int .i64 64, .int .i64 64, .bool false]
/- The table of conversions stands as its text lays it. -/
def Cvs (w : World) : Prop := ∀ (j : Nat) (v : Value), CV[j]? = some v → w.cell? ⟨1, j, none⟩ = some v
theorem Cvs.pos {w : World} (h : Cvs w) : 1 < w.heap.size := by
  have := h 0 (.int .i64 21) rfl
  rcases Nat.lt_or_ge 1 w.heap.size with z | z
  · exact z
  · exfalso
    have e : w.heap[1]? = none := Array.getElem?_eq_none (by omega)
    simp [World.cell?, e] at this
theorem Cvs.grew {w w' : World} (h : Cvs w) (g : Grew w w') : Cvs w' := fun j v hj => by rw [g.1.cell h.pos]; exact h j v hj
set_option maxRecDepth 100000 in
set_option maxHeartbeats 2000000 in
theorem fc_187 (w : World) (hT : Cvs w) :
    Calls Tryd.prog 23 #[.int .i64 187] w fun e w' => e = .returned (.agg #[.int .i64 25, .int .i64 32, .int .i64 64, .bool false]) ∧ Grew w w' := by
  have hp := hT.pos
  have t0 : w.cell? ⟨1, 76, none⟩ = some (.int .i64 25) := hT 76 _ rfl
  have t1 : w.cell? ⟨1, 77, none⟩ = some (.int .i64 32) := hT 77 _ rfl
  have t2 : w.cell? ⟨1, 78, none⟩ = some (.int .i64 64) := hT 78 _ rfl
  have t3 : w.cell? ⟨1, 79, none⟩ = some (.bool false) := hT 79 _ rfl
  clear hT
  go_enter Tryd.func23, Tryd.ntmps23
  go_wp2
  have f0 : ((w.alloc (Obj.cells #[.int .i64 25, .int .i64 32, .int .i64 64, .bool false] 48)).alloc (Obj.cells #[.int .i64 25, .int .i64 32, .int .i64 64, .bool false] 48)).cell? ⟨w.heap.size, 0, none⟩ = some (.int .i64 25) := by go_simp
  have e0 : ((w.alloc (Obj.cells #[.int .i64 25, .int .i64 32, .int .i64 64, .bool false] 48)).alloc (Obj.cells #[.int .i64 25, .int .i64 32, .int .i64 64, .bool false] 48)).cell? ⟨w.heap.size + 1, 0, none⟩ = some (.int .i64 25) := by go_simp
  have f1 : ((w.alloc (Obj.cells #[.int .i64 25, .int .i64 32, .int .i64 64, .bool false] 48)).alloc (Obj.cells #[.int .i64 25, .int .i64 32, .int .i64 64, .bool false] 48)).cell? ⟨w.heap.size, 1, none⟩ = some (.int .i64 32) := by go_simp
  have e1 : ((w.alloc (Obj.cells #[.int .i64 25, .int .i64 32, .int .i64 64, .bool false] 48)).alloc (Obj.cells #[.int .i64 25, .int .i64 32, .int .i64 64, .bool false] 48)).cell? ⟨w.heap.size + 1, 1, none⟩ = some (.int .i64 32) := by go_simp
  have f2 : ((w.alloc (Obj.cells #[.int .i64 25, .int .i64 32, .int .i64 64, .bool false] 48)).alloc (Obj.cells #[.int .i64 25, .int .i64 32, .int .i64 64, .bool false] 48)).cell? ⟨w.heap.size, 2, none⟩ = some (.int .i64 64) := by go_simp
  have e2 : ((w.alloc (Obj.cells #[.int .i64 25, .int .i64 32, .int .i64 64, .bool false] 48)).alloc (Obj.cells #[.int .i64 25, .int .i64 32, .int .i64 64, .bool false] 48)).cell? ⟨w.heap.size + 1, 2, none⟩ = some (.int .i64 64) := by go_simp
  have f3 : ((w.alloc (Obj.cells #[.int .i64 25, .int .i64 32, .int .i64 64, .bool false] 48)).alloc (Obj.cells #[.int .i64 25, .int .i64 32, .int .i64 64, .bool false] 48)).cell? ⟨w.heap.size, 3, none⟩ = some (.bool false) := by go_simp
  have e3 : ((w.alloc (Obj.cells #[.int .i64 25, .int .i64 32, .int .i64 64, .bool false] 48)).alloc (Obj.cells #[.int .i64 25, .int .i64 32, .int .i64 64, .bool false] 48)).cell? ⟨w.heap.size + 1, 3, none⟩ = some (.bool false) := by go_simp
  refine bodyPost_ret (v := .agg #[.int .i64 25, .int .i64 32, .int .i64 64, .bool false]) (by simp [results, Tryd.results23, go_sem, f0, f1, f2, f3, e0, e1, e2, e3]) rfl ?_
  refine ⟨rfl, ?_⟩
  repeat (first | exact Grew.refl _ | refine Grew.drew ?_ | refine Grew.alloc ?_ _ | refine Grew.set ?_ (by first | (simp; done) | (simp; omega) | omega) _ | assumption)
set_option maxRecDepth 100000 in
set_option maxHeartbeats 2000000 in
theorem fc_182 (w : World) (hT : Cvs w) :
    Calls Tryd.prog 23 #[.int .i64 182] w fun e w' => e = .returned (.agg #[.int .i64 24, .int .i64 64, .int .i64 32, .bool false]) ∧ Grew w w' := by
  have hp := hT.pos
  have t0 : w.cell? ⟨1, 56, none⟩ = some (.int .i64 24) := hT 56 _ rfl
  have t1 : w.cell? ⟨1, 57, none⟩ = some (.int .i64 64) := hT 57 _ rfl
  have t2 : w.cell? ⟨1, 58, none⟩ = some (.int .i64 32) := hT 58 _ rfl
  have t3 : w.cell? ⟨1, 59, none⟩ = some (.bool false) := hT 59 _ rfl
  clear hT
  go_enter Tryd.func23, Tryd.ntmps23
  go_wp2
  have f0 : ((w.alloc (Obj.cells #[.int .i64 24, .int .i64 64, .int .i64 32, .bool false] 48)).alloc (Obj.cells #[.int .i64 24, .int .i64 64, .int .i64 32, .bool false] 48)).cell? ⟨w.heap.size, 0, none⟩ = some (.int .i64 24) := by go_simp
  have e0 : ((w.alloc (Obj.cells #[.int .i64 24, .int .i64 64, .int .i64 32, .bool false] 48)).alloc (Obj.cells #[.int .i64 24, .int .i64 64, .int .i64 32, .bool false] 48)).cell? ⟨w.heap.size + 1, 0, none⟩ = some (.int .i64 24) := by go_simp
  have f1 : ((w.alloc (Obj.cells #[.int .i64 24, .int .i64 64, .int .i64 32, .bool false] 48)).alloc (Obj.cells #[.int .i64 24, .int .i64 64, .int .i64 32, .bool false] 48)).cell? ⟨w.heap.size, 1, none⟩ = some (.int .i64 64) := by go_simp
  have e1 : ((w.alloc (Obj.cells #[.int .i64 24, .int .i64 64, .int .i64 32, .bool false] 48)).alloc (Obj.cells #[.int .i64 24, .int .i64 64, .int .i64 32, .bool false] 48)).cell? ⟨w.heap.size + 1, 1, none⟩ = some (.int .i64 64) := by go_simp
  have f2 : ((w.alloc (Obj.cells #[.int .i64 24, .int .i64 64, .int .i64 32, .bool false] 48)).alloc (Obj.cells #[.int .i64 24, .int .i64 64, .int .i64 32, .bool false] 48)).cell? ⟨w.heap.size, 2, none⟩ = some (.int .i64 32) := by go_simp
  have e2 : ((w.alloc (Obj.cells #[.int .i64 24, .int .i64 64, .int .i64 32, .bool false] 48)).alloc (Obj.cells #[.int .i64 24, .int .i64 64, .int .i64 32, .bool false] 48)).cell? ⟨w.heap.size + 1, 2, none⟩ = some (.int .i64 32) := by go_simp
  have f3 : ((w.alloc (Obj.cells #[.int .i64 24, .int .i64 64, .int .i64 32, .bool false] 48)).alloc (Obj.cells #[.int .i64 24, .int .i64 64, .int .i64 32, .bool false] 48)).cell? ⟨w.heap.size, 3, none⟩ = some (.bool false) := by go_simp
  have e3 : ((w.alloc (Obj.cells #[.int .i64 24, .int .i64 64, .int .i64 32, .bool false] 48)).alloc (Obj.cells #[.int .i64 24, .int .i64 64, .int .i64 32, .bool false] 48)).cell? ⟨w.heap.size + 1, 3, none⟩ = some (.bool false) := by go_simp
  refine bodyPost_ret (v := .agg #[.int .i64 24, .int .i64 64, .int .i64 32, .bool false]) (by simp [results, Tryd.results23, go_sem, f0, f1, f2, f3, e0, e1, e2, e3]) rfl ?_
  refine ⟨rfl, ?_⟩
  repeat (first | exact Grew.refl _ | refine Grew.drew ?_ | refine Grew.alloc ?_ _ | refine Grew.set ?_ (by first | (simp; done) | (simp; omega) | omega) _ | assumption)
set_option maxRecDepth 100000 in
set_option maxHeartbeats 2000000 in
theorem fc_183 (w : World) (hT : Cvs w) :
    Calls Tryd.prog 23 #[.int .i64 183] w fun e w' => e = .returned (.agg #[.int .i64 23, .int .i64 32, .int .i64 64, .bool true]) ∧ Grew w w' := by
  have hp := hT.pos
  have t0 : w.cell? ⟨1, 60, none⟩ = some (.int .i64 23) := hT 60 _ rfl
  have t1 : w.cell? ⟨1, 61, none⟩ = some (.int .i64 32) := hT 61 _ rfl
  have t2 : w.cell? ⟨1, 62, none⟩ = some (.int .i64 64) := hT 62 _ rfl
  have t3 : w.cell? ⟨1, 63, none⟩ = some (.bool true) := hT 63 _ rfl
  clear hT
  go_enter Tryd.func23, Tryd.ntmps23
  go_wp2
  have f0 : ((w.alloc (Obj.cells #[.int .i64 23, .int .i64 32, .int .i64 64, .bool true] 48)).alloc (Obj.cells #[.int .i64 23, .int .i64 32, .int .i64 64, .bool true] 48)).cell? ⟨w.heap.size, 0, none⟩ = some (.int .i64 23) := by go_simp
  have e0 : ((w.alloc (Obj.cells #[.int .i64 23, .int .i64 32, .int .i64 64, .bool true] 48)).alloc (Obj.cells #[.int .i64 23, .int .i64 32, .int .i64 64, .bool true] 48)).cell? ⟨w.heap.size + 1, 0, none⟩ = some (.int .i64 23) := by go_simp
  have f1 : ((w.alloc (Obj.cells #[.int .i64 23, .int .i64 32, .int .i64 64, .bool true] 48)).alloc (Obj.cells #[.int .i64 23, .int .i64 32, .int .i64 64, .bool true] 48)).cell? ⟨w.heap.size, 1, none⟩ = some (.int .i64 32) := by go_simp
  have e1 : ((w.alloc (Obj.cells #[.int .i64 23, .int .i64 32, .int .i64 64, .bool true] 48)).alloc (Obj.cells #[.int .i64 23, .int .i64 32, .int .i64 64, .bool true] 48)).cell? ⟨w.heap.size + 1, 1, none⟩ = some (.int .i64 32) := by go_simp
  have f2 : ((w.alloc (Obj.cells #[.int .i64 23, .int .i64 32, .int .i64 64, .bool true] 48)).alloc (Obj.cells #[.int .i64 23, .int .i64 32, .int .i64 64, .bool true] 48)).cell? ⟨w.heap.size, 2, none⟩ = some (.int .i64 64) := by go_simp
  have e2 : ((w.alloc (Obj.cells #[.int .i64 23, .int .i64 32, .int .i64 64, .bool true] 48)).alloc (Obj.cells #[.int .i64 23, .int .i64 32, .int .i64 64, .bool true] 48)).cell? ⟨w.heap.size + 1, 2, none⟩ = some (.int .i64 64) := by go_simp
  have f3 : ((w.alloc (Obj.cells #[.int .i64 23, .int .i64 32, .int .i64 64, .bool true] 48)).alloc (Obj.cells #[.int .i64 23, .int .i64 32, .int .i64 64, .bool true] 48)).cell? ⟨w.heap.size, 3, none⟩ = some (.bool true) := by go_simp
  have e3 : ((w.alloc (Obj.cells #[.int .i64 23, .int .i64 32, .int .i64 64, .bool true] 48)).alloc (Obj.cells #[.int .i64 23, .int .i64 32, .int .i64 64, .bool true] 48)).cell? ⟨w.heap.size + 1, 3, none⟩ = some (.bool true) := by go_simp
  refine bodyPost_ret (v := .agg #[.int .i64 23, .int .i64 32, .int .i64 64, .bool true]) (by simp [results, Tryd.results23, go_sem, f0, f1, f2, f3, e0, e1, e2, e3]) rfl ?_
  refine ⟨rfl, ?_⟩
  repeat (first | exact Grew.refl _ | refine Grew.drew ?_ | refine Grew.alloc ?_ _ | refine Grew.set ?_ (by first | (simp; done) | (simp; omega) | omega) _ | assumption)
set_option maxRecDepth 100000 in
set_option maxHeartbeats 2000000 in
theorem fc_170 (w : World) (hT : Cvs w) :
    Calls Tryd.prog 23 #[.int .i64 170] w fun e w' => e = .returned (.agg #[.int .i64 21, .int .i64 64, .int .i64 32, .bool true]) ∧ Grew w w' := by
  have hp := hT.pos
  have t0 : w.cell? ⟨1, 8, none⟩ = some (.int .i64 21) := hT 8 _ rfl
  have t1 : w.cell? ⟨1, 9, none⟩ = some (.int .i64 64) := hT 9 _ rfl
  have t2 : w.cell? ⟨1, 10, none⟩ = some (.int .i64 32) := hT 10 _ rfl
  have t3 : w.cell? ⟨1, 11, none⟩ = some (.bool true) := hT 11 _ rfl
  clear hT
  go_enter Tryd.func23, Tryd.ntmps23
  go_wp2
  have f0 : ((w.alloc (Obj.cells #[.int .i64 21, .int .i64 64, .int .i64 32, .bool true] 48)).alloc (Obj.cells #[.int .i64 21, .int .i64 64, .int .i64 32, .bool true] 48)).cell? ⟨w.heap.size, 0, none⟩ = some (.int .i64 21) := by go_simp
  have e0 : ((w.alloc (Obj.cells #[.int .i64 21, .int .i64 64, .int .i64 32, .bool true] 48)).alloc (Obj.cells #[.int .i64 21, .int .i64 64, .int .i64 32, .bool true] 48)).cell? ⟨w.heap.size + 1, 0, none⟩ = some (.int .i64 21) := by go_simp
  have f1 : ((w.alloc (Obj.cells #[.int .i64 21, .int .i64 64, .int .i64 32, .bool true] 48)).alloc (Obj.cells #[.int .i64 21, .int .i64 64, .int .i64 32, .bool true] 48)).cell? ⟨w.heap.size, 1, none⟩ = some (.int .i64 64) := by go_simp
  have e1 : ((w.alloc (Obj.cells #[.int .i64 21, .int .i64 64, .int .i64 32, .bool true] 48)).alloc (Obj.cells #[.int .i64 21, .int .i64 64, .int .i64 32, .bool true] 48)).cell? ⟨w.heap.size + 1, 1, none⟩ = some (.int .i64 64) := by go_simp
  have f2 : ((w.alloc (Obj.cells #[.int .i64 21, .int .i64 64, .int .i64 32, .bool true] 48)).alloc (Obj.cells #[.int .i64 21, .int .i64 64, .int .i64 32, .bool true] 48)).cell? ⟨w.heap.size, 2, none⟩ = some (.int .i64 32) := by go_simp
  have e2 : ((w.alloc (Obj.cells #[.int .i64 21, .int .i64 64, .int .i64 32, .bool true] 48)).alloc (Obj.cells #[.int .i64 21, .int .i64 64, .int .i64 32, .bool true] 48)).cell? ⟨w.heap.size + 1, 2, none⟩ = some (.int .i64 32) := by go_simp
  have f3 : ((w.alloc (Obj.cells #[.int .i64 21, .int .i64 64, .int .i64 32, .bool true] 48)).alloc (Obj.cells #[.int .i64 21, .int .i64 64, .int .i64 32, .bool true] 48)).cell? ⟨w.heap.size, 3, none⟩ = some (.bool true) := by go_simp
  have e3 : ((w.alloc (Obj.cells #[.int .i64 21, .int .i64 64, .int .i64 32, .bool true] 48)).alloc (Obj.cells #[.int .i64 21, .int .i64 64, .int .i64 32, .bool true] 48)).cell? ⟨w.heap.size + 1, 3, none⟩ = some (.bool true) := by go_simp
  refine bodyPost_ret (v := .agg #[.int .i64 21, .int .i64 64, .int .i64 32, .bool true]) (by simp [results, Tryd.results23, go_sem, f0, f1, f2, f3, e0, e1, e2, e3]) rfl ?_
  refine ⟨rfl, ?_⟩
  repeat (first | exact Grew.refl _ | refine Grew.drew ?_ | refine Grew.alloc ?_ _ | refine Grew.set ?_ (by first | (simp; done) | (simp; omega) | omega) _ | assumption)
set_option maxRecDepth 100000 in
set_option maxHeartbeats 2000000 in
theorem fc_184 (w : World) (hT : Cvs w) :
    Calls Tryd.prog 23 #[.int .i64 184] w fun e w' => e = .returned (.agg #[.int .i64 23, .int .i64 32, .int .i64 64, .bool false]) ∧ Grew w w' := by
  have hp := hT.pos
  have t0 : w.cell? ⟨1, 64, none⟩ = some (.int .i64 23) := hT 64 _ rfl
  have t1 : w.cell? ⟨1, 65, none⟩ = some (.int .i64 32) := hT 65 _ rfl
  have t2 : w.cell? ⟨1, 66, none⟩ = some (.int .i64 64) := hT 66 _ rfl
  have t3 : w.cell? ⟨1, 67, none⟩ = some (.bool false) := hT 67 _ rfl
  clear hT
  go_enter Tryd.func23, Tryd.ntmps23
  go_wp2
  have f0 : ((w.alloc (Obj.cells #[.int .i64 23, .int .i64 32, .int .i64 64, .bool false] 48)).alloc (Obj.cells #[.int .i64 23, .int .i64 32, .int .i64 64, .bool false] 48)).cell? ⟨w.heap.size, 0, none⟩ = some (.int .i64 23) := by go_simp
  have e0 : ((w.alloc (Obj.cells #[.int .i64 23, .int .i64 32, .int .i64 64, .bool false] 48)).alloc (Obj.cells #[.int .i64 23, .int .i64 32, .int .i64 64, .bool false] 48)).cell? ⟨w.heap.size + 1, 0, none⟩ = some (.int .i64 23) := by go_simp
  have f1 : ((w.alloc (Obj.cells #[.int .i64 23, .int .i64 32, .int .i64 64, .bool false] 48)).alloc (Obj.cells #[.int .i64 23, .int .i64 32, .int .i64 64, .bool false] 48)).cell? ⟨w.heap.size, 1, none⟩ = some (.int .i64 32) := by go_simp
  have e1 : ((w.alloc (Obj.cells #[.int .i64 23, .int .i64 32, .int .i64 64, .bool false] 48)).alloc (Obj.cells #[.int .i64 23, .int .i64 32, .int .i64 64, .bool false] 48)).cell? ⟨w.heap.size + 1, 1, none⟩ = some (.int .i64 32) := by go_simp
  have f2 : ((w.alloc (Obj.cells #[.int .i64 23, .int .i64 32, .int .i64 64, .bool false] 48)).alloc (Obj.cells #[.int .i64 23, .int .i64 32, .int .i64 64, .bool false] 48)).cell? ⟨w.heap.size, 2, none⟩ = some (.int .i64 64) := by go_simp
  have e2 : ((w.alloc (Obj.cells #[.int .i64 23, .int .i64 32, .int .i64 64, .bool false] 48)).alloc (Obj.cells #[.int .i64 23, .int .i64 32, .int .i64 64, .bool false] 48)).cell? ⟨w.heap.size + 1, 2, none⟩ = some (.int .i64 64) := by go_simp
  have f3 : ((w.alloc (Obj.cells #[.int .i64 23, .int .i64 32, .int .i64 64, .bool false] 48)).alloc (Obj.cells #[.int .i64 23, .int .i64 32, .int .i64 64, .bool false] 48)).cell? ⟨w.heap.size, 3, none⟩ = some (.bool false) := by go_simp
  have e3 : ((w.alloc (Obj.cells #[.int .i64 23, .int .i64 32, .int .i64 64, .bool false] 48)).alloc (Obj.cells #[.int .i64 23, .int .i64 32, .int .i64 64, .bool false] 48)).cell? ⟨w.heap.size + 1, 3, none⟩ = some (.bool false) := by go_simp
  refine bodyPost_ret (v := .agg #[.int .i64 23, .int .i64 32, .int .i64 64, .bool false]) (by simp [results, Tryd.results23, go_sem, f0, f1, f2, f3, e0, e1, e2, e3]) rfl ?_
  refine ⟨rfl, ?_⟩
  repeat (first | exact Grew.refl _ | refine Grew.drew ?_ | refine Grew.alloc ?_ _ | refine Grew.set ?_ (by first | (simp; done) | (simp; omega) | omega) _ | assumption)
set_option maxRecDepth 100000 in
set_option maxHeartbeats 2000000 in
theorem fc_171 (w : World) (hT : Cvs w) :
    Calls Tryd.prog 23 #[.int .i64 171] w fun e w' => e = .returned (.agg #[.int .i64 21, .int .i64 64, .int .i64 32, .bool false]) ∧ Grew w w' := by
  have hp := hT.pos
  have t0 : w.cell? ⟨1, 12, none⟩ = some (.int .i64 21) := hT 12 _ rfl
  have t1 : w.cell? ⟨1, 13, none⟩ = some (.int .i64 64) := hT 13 _ rfl
  have t2 : w.cell? ⟨1, 14, none⟩ = some (.int .i64 32) := hT 14 _ rfl
  have t3 : w.cell? ⟨1, 15, none⟩ = some (.bool false) := hT 15 _ rfl
  clear hT
  go_enter Tryd.func23, Tryd.ntmps23
  go_wp2
  have f0 : ((w.alloc (Obj.cells #[.int .i64 21, .int .i64 64, .int .i64 32, .bool false] 48)).alloc (Obj.cells #[.int .i64 21, .int .i64 64, .int .i64 32, .bool false] 48)).cell? ⟨w.heap.size, 0, none⟩ = some (.int .i64 21) := by go_simp
  have e0 : ((w.alloc (Obj.cells #[.int .i64 21, .int .i64 64, .int .i64 32, .bool false] 48)).alloc (Obj.cells #[.int .i64 21, .int .i64 64, .int .i64 32, .bool false] 48)).cell? ⟨w.heap.size + 1, 0, none⟩ = some (.int .i64 21) := by go_simp
  have f1 : ((w.alloc (Obj.cells #[.int .i64 21, .int .i64 64, .int .i64 32, .bool false] 48)).alloc (Obj.cells #[.int .i64 21, .int .i64 64, .int .i64 32, .bool false] 48)).cell? ⟨w.heap.size, 1, none⟩ = some (.int .i64 64) := by go_simp
  have e1 : ((w.alloc (Obj.cells #[.int .i64 21, .int .i64 64, .int .i64 32, .bool false] 48)).alloc (Obj.cells #[.int .i64 21, .int .i64 64, .int .i64 32, .bool false] 48)).cell? ⟨w.heap.size + 1, 1, none⟩ = some (.int .i64 64) := by go_simp
  have f2 : ((w.alloc (Obj.cells #[.int .i64 21, .int .i64 64, .int .i64 32, .bool false] 48)).alloc (Obj.cells #[.int .i64 21, .int .i64 64, .int .i64 32, .bool false] 48)).cell? ⟨w.heap.size, 2, none⟩ = some (.int .i64 32) := by go_simp
  have e2 : ((w.alloc (Obj.cells #[.int .i64 21, .int .i64 64, .int .i64 32, .bool false] 48)).alloc (Obj.cells #[.int .i64 21, .int .i64 64, .int .i64 32, .bool false] 48)).cell? ⟨w.heap.size + 1, 2, none⟩ = some (.int .i64 32) := by go_simp
  have f3 : ((w.alloc (Obj.cells #[.int .i64 21, .int .i64 64, .int .i64 32, .bool false] 48)).alloc (Obj.cells #[.int .i64 21, .int .i64 64, .int .i64 32, .bool false] 48)).cell? ⟨w.heap.size, 3, none⟩ = some (.bool false) := by go_simp
  have e3 : ((w.alloc (Obj.cells #[.int .i64 21, .int .i64 64, .int .i64 32, .bool false] 48)).alloc (Obj.cells #[.int .i64 21, .int .i64 64, .int .i64 32, .bool false] 48)).cell? ⟨w.heap.size + 1, 3, none⟩ = some (.bool false) := by go_simp
  refine bodyPost_ret (v := .agg #[.int .i64 21, .int .i64 64, .int .i64 32, .bool false]) (by simp [results, Tryd.results23, go_sem, f0, f1, f2, f3, e0, e1, e2, e3]) rfl ?_
  refine ⟨rfl, ?_⟩
  repeat (first | exact Grew.refl _ | refine Grew.drew ?_ | refine Grew.alloc ?_ _ | refine Grew.set ?_ (by first | (simp; done) | (simp; omega) | omega) _ | assumption)
end Go.Proofs.YtjkebimmddlccabDoor
