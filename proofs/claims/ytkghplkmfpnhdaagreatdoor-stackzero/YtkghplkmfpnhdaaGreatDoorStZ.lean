/-
  A checker that no call made: what each of its calls answers; no statement is proved here.
-/
import Derived.Test.YtkghplkmfpnhdaaGreatDoorTy
import Derived.WalkMore
import Derived.OwnWalk
namespace Go.Proofs.YtkghplkmfpnhdaaGreatDoor
open Go.RowKit
set_option linter.unusedVariables false
set_option linter.unusedSimpArgs false

abbrev VT0 : Value := .agg #[.int .i64 0, .bool false, .int .i64 0]
/- A block of three cells behind a call. -/
theorem fresh3 {w w1 : World} {t : TypeId} {a b c : Value} (g : Grew (w.alloc (.cells #[a, b, c] t)) w1) :
    Grew w w1 ∧ w.heap.size < w1.heap.size ∧ w1.cell? ⟨w.heap.size, 0, none⟩ = some a ∧ w1.cell? ⟨w.heap.size, 1, none⟩ = some b ∧ w1.cell? ⟨w.heap.size, 2, none⟩ = some c ∧
    w1.frozen? ⟨w.heap.size, 0, none⟩ = false ∧ w1.frozen? ⟨w.heap.size, 1, none⟩ = false ∧ w1.frozen? ⟨w.heap.size, 2, none⟩ = false := by
  have B1 := (g.turn []).other (heap_alloc_last w (.cells #[a, b, c] t)) (by simp)
  refine ⟨((Grew.refl w).alloc _).trans g, lt_of_obj B1, ?_, ?_, ?_, free_of B1 0, free_of B1 1, free_of B1 2⟩
  · rw [cell_of B1]; rfl
  · rw [cell_of B1]; rfl
  · rw [cell_of B1]; rfl
set_option maxRecDepth 100000 in
theorem zero_nil (w : World) : Calls Tryz.prog 34 #[.pointer none] w fun en w' => en = .returned (.bool true) ∧ Grew w w' := by
  go_enter Tryz.func34, Tryz.ntmps34
  go_wp2_with fail
  go_ret
  exact ⟨rfl, Grew.refl _⟩
set_option maxRecDepth 100000 in
theorem zero_un {w : World} {b : Nat} (h : w.cell? ⟨b, 0, none⟩ = some (.bool false)) : Calls Tryz.prog 34 #[.pointer (some ⟨b, 0, none⟩)] w fun en w' => en = .returned (.bool true) ∧ Grew w w' := by
  go_enter Tryz.func34, Tryz.ntmps34
  go_wp2_with fail
  go_ret
  exact ⟨rfl, Grew.refl _⟩
/- No call made the checker that p points at. -/
def Unm (p : Option Addr) (w : World) : Prop := ∀ W, Grew w W → Calls Tryz.prog 34 #[.pointer p] W fun en w' => en = .returned (.bool true) ∧ Grew W w'
theorem Unm.nil (w : World) : Unm none w := fun W g => zero_nil W
theorem Unm.zero {w : World} {b : Nat} (h : w.cell? ⟨b, 0, none⟩ = some (.bool false)) : Unm (some ⟨b, 0, none⟩) w := fun W g => zero_un (cell_grew h g)
theorem Unm.grew {p : Option Addr} {w w' : World} (h : Unm p w) (g : Grew w w') : Unm p w' := fun W g' => h W (g.trans g')
set_option maxRecDepth 100000 in
theorem openZ {p : Option Addr} {w : World} (h : Unm p w) : Calls Tryz.prog 31 #[.pointer p] w fun en w' => en = .returned (.int .i64 7) ∧ Grew w w' := by
  have H : Hid (Unm p w) := h
  clear h
  go_enter Tryz.func31, Tryz.ntmps31
  go_wp2_with fail
  refine (H.out _ (Grew.refl w)).mono ?_
  rintro en w1 ⟨rfl, g1⟩
  have G1 : Hid (Grew w w1) := g1
  clear g1 H
  go_wp2_with fail
  go_ret
  exact ⟨rfl, G1.out⟩
set_option maxRecDepth 100000 in
theorem PopZ {p : Option Addr} {w : World} (h : Unm p w) : Calls Tryz.prog 21 #[.pointer p] w fun en w' => en = .returned (.tuple #[VT0, .int .i64 7]) ∧ Grew w w' := by
  have H : Hid (Unm p w) := h
  clear h
  go_enter Tryz.func21, Tryz.ntmps21
  go_wp2_with fail
  refine (H.out _ ((Grew.refl w).alloc _)).mono ?_
  rintro en w1 ⟨rfl, g1⟩
  obtain ⟨g2, hl, n0, n1, n2, z0, z1, z2⟩ := fresh3 g1
  skip
  have G1 : Hid (Grew w w1) := g2
  clear g1 g2 H
  go_wp2_with fail
  refine bodyPost_ret (v := .tuple #[VT0, .int .i64 7]) (by simp [results, Tryz.results21, go_sem, n0, n1, n2]) rfl ?_
  exact ⟨rfl, ((G1.out.set (p := ⟨w.heap.size, 0, none⟩) (Nat.le_refl _) _).set (p := ⟨w.heap.size, 1, none⟩) (Nat.le_refl _) _).set (p := ⟨w.heap.size, 2, none⟩) (Nat.le_refl _) _⟩
set_option maxRecDepth 100000 in
theorem PopTypeZ {p : Option Addr} {w : World} {tn th : Int} {tz : Bool} (h : Unm p w) : Calls Tryz.prog 22 #[.pointer p, .agg #[.int .i64 tn, .bool tz, .int .i64 th]] w fun en w' => en = .returned (.tuple #[VT0, .int .i64 7]) ∧ Grew w w' := by
  have H : Hid (Unm p w) := h
  clear h
  go_enter Tryz.func22, Tryz.ntmps22
  go_wp2_with fail
  go_step3
  go_wp2_with fail
  refine (H.out _ (((Grew.refl w).alloc _).alloc _)).mono ?_
  rintro en w1 ⟨rfl, g1⟩
  obtain ⟨g2, hl, n0, n1, n2, z0, z1, z2⟩ := fresh3 g1
  rw [alloc_size] at hl n0 n1 n2 z0 z1 z2
  have G1 : Hid (Grew w w1) := ((Grew.refl w).alloc _).trans g2
  clear g1 g2 H
  go_wp2_with fail
  rw [Exit.noGoto_ret]
  refine bodyPost_ret (v := .tuple #[VT0, .int .i64 7]) (by simp [results, Tryz.results22, go_sem, n0, n1, n2]) rfl ?_
  exact ⟨rfl, ((G1.out.set (p := ⟨w.heap.size + 1, 0, none⟩) (Nat.le_succ _) _).set (p := ⟨w.heap.size + 1, 1, none⟩) (Nat.le_succ _) _).set (p := ⟨w.heap.size + 1, 2, none⟩) (Nat.le_succ _) _⟩
set_option maxRecDepth 100000 in
theorem LabelZ {p : Option Addr} {w : World} {n : Int} (h : Unm p w) : Calls Tryz.prog 23 #[.pointer p, .int .u32 n] w fun en w' => en = .returned (.tuple #[NILS, .int .i64 7]) ∧ Grew w w' := by
  have H : Hid (Unm p w) := h
  clear h
  go_enter Tryz.func23, Tryz.ntmps23
  go_wp2_with fail
  refine (H.out _ (Grew.refl w)).mono ?_
  rintro en w1 ⟨rfl, g1⟩
  have G1 : Hid (Grew w w1) := g1
  clear g1 H
  go_wp2_with fail
  go_ret2
  exact ⟨rfl, G1.out⟩
set_option maxRecDepth 100000 in
theorem PopsZ {p : Option Addr} {w : World} (h : Unm p w) : Calls Tryz.prog 10 #[.pointer p, NILS] w fun en w' => en = .returned (.int .i64 7) ∧ Grew w w' := by
  have H : Hid (Unm p w) := h
  clear h
  go_enter Tryz.func10, Tryz.ntmps10
  go_wp2_with fail
  go_step3
  go_wp2_with fail
  refine (H.out _ (Grew.refl w)).mono ?_
  rintro en w1 ⟨rfl, g1⟩
  have G1 : Hid (Grew w w1) := g1
  clear g1 H
  go_wp2_with fail
  rw [Exit.noGoto_ret]
  go_ret
  exact ⟨rfl, G1.out⟩
set_option maxRecDepth 100000 in
theorem OperandsZ {p : Option Addr} {w : World} (h : Unm p w) : Calls Tryz.prog 19 #[.pointer p] w fun en w' => en = .returned (NILS) ∧ Grew w w' := by
  have H : Hid (Unm p w) := h
  clear h
  go_enter Tryz.func19, Tryz.ntmps19
  go_wp2_with fail
  refine (H.out _ (Grew.refl w)).mono ?_
  rintro en w1 ⟨rfl, g1⟩
  have G1 : Hid (Grew w w1) := g1
  clear g1 H
  go_wp2_with fail
  go_ret
  exact ⟨rfl, G1.out⟩
set_option maxRecDepth 100000 in
theorem ResultsZ {p : Option Addr} {w : World} (h : Unm p w) : Calls Tryz.prog 27 #[.pointer p] w fun en w' => en = .returned (NILS) ∧ Grew w w' := by
  have H : Hid (Unm p w) := h
  clear h
  go_enter Tryz.func27, Tryz.ntmps27
  go_wp2_with fail
  refine (H.out _ (Grew.refl w)).mono ?_
  rintro en w1 ⟨rfl, g1⟩
  have G1 : Hid (Grew w w1) := g1
  clear g1 H
  go_wp2_with fail
  go_ret
  exact ⟨rfl, G1.out⟩
set_option maxRecDepth 100000 in
theorem DepthZ {p : Option Addr} {w : World} (h : Unm p w) : Calls Tryz.prog 15 #[.pointer p] w fun en w' => en = .returned (.int .i64 0) ∧ Grew w w' := by
  have H : Hid (Unm p w) := h
  clear h
  go_enter Tryz.func15, Tryz.ntmps15
  go_wp2_with fail
  refine (H.out _ (Grew.refl w)).mono ?_
  rintro en w1 ⟨rfl, g1⟩
  have G1 : Hid (Grew w w1) := g1
  clear g1 H
  go_wp2_with fail
  go_ret
  exact ⟨rfl, G1.out⟩
set_option maxRecDepth 100000 in
theorem HeightZ {p : Option Addr} {w : World} (h : Unm p w) : Calls Tryz.prog 8 #[.pointer p] w fun en w' => en = .returned (.int .i64 0) ∧ Grew w w' := by
  have H : Hid (Unm p w) := h
  clear h
  go_enter Tryz.func8, Tryz.ntmps8
  go_wp2_with fail
  refine (H.out _ (Grew.refl w)).mono ?_
  rintro en w1 ⟨rfl, g1⟩
  have G1 : Hid (Grew w w1) := g1
  clear g1 H
  go_wp2_with fail
  go_ret
  exact ⟨rfl, G1.out⟩
set_option maxRecDepth 100000 in
theorem DoneZ {p : Option Addr} {w : World} (h : Unm p w) : Calls Tryz.prog 28 #[.pointer p] w fun en w' => en = .returned (.bool false) ∧ Grew w w' := by
  have H : Hid (Unm p w) := h
  clear h
  go_enter Tryz.func28, Tryz.ntmps28
  go_wp2_with fail
  refine (H.out _ (Grew.refl w)).mono ?_
  rintro en w1 ⟨rfl, g1⟩
  have G1 : Hid (Grew w w1) := g1
  clear g1 H
  go_wp2_with fail
  go_ret
  exact ⟨rfl, G1.out⟩
set_option maxRecDepth 100000 in
theorem ReachedZ {p : Option Addr} {w : World} (h : Unm p w) : Calls Tryz.prog 9 #[.pointer p] w fun en w' => en = .returned (.bool false) ∧ Grew w w' := by
  have H : Hid (Unm p w) := h
  clear h
  go_enter Tryz.func9, Tryz.ntmps9
  go_wp2_with fail
  refine (H.out _ (Grew.refl w)).mono ?_
  rintro en w1 ⟨rfl, g1⟩
  have G1 : Hid (Grew w w1) := g1
  clear g1 H
  go_wp2_with fail
  go_ret
  exact ⟨rfl, G1.out⟩
set_option maxRecDepth 100000 in
theorem localZ {p : Option Addr} {w : World} {n : Int} (h : Unm p w) : Calls Tryz.prog 44 #[.pointer p, .int .u32 n] w fun en w' => en = .returned (.tuple #[.pointer none, .int .i64 7]) ∧ Grew w w' := by
  have H : Hid (Unm p w) := h
  clear h
  go_enter Tryz.func44, Tryz.ntmps44
  go_wp2_with fail
  refine (H.out _ (Grew.refl w)).mono ?_
  rintro en w1 ⟨rfl, g1⟩
  have G1 : Hid (Grew w w1) := g1
  clear g1 H
  go_wp2_with fail
  go_ret2
  exact ⟨rfl, G1.out⟩
set_option maxRecDepth 100000 in
theorem GetZ {p : Option Addr} {w : World} {n : Int} (h : Unm p w) : Calls Tryz.prog 17 #[.pointer p, .int .u32 n] w fun en w' => en = .returned (.tuple #[VT0, .int .i64 7]) ∧ Grew w w' := by
  have H : Hid (Unm p w) := h
  clear h
  go_enter Tryz.func17, Tryz.ntmps17
  go_wp2_with fail
  refine (localZ (n := n) (H.out.grew ((Grew.refl w).alloc _))).mono ?_
  rintro en w1 ⟨rfl, g1⟩
  obtain ⟨g2, hl, n0, n1, n2, z0, z1, z2⟩ := fresh3 g1
  skip
  have G1 : Hid (Grew w w1) := g2
  clear g1 g2 H
  go_wp2_with fail
  refine bodyPost_ret (v := .tuple #[VT0, .int .i64 7]) (by simp [results, Tryz.results17, go_sem, n0, n1, n2]) rfl ?_
  exact ⟨rfl, ((G1.out.set (p := ⟨w.heap.size, 0, none⟩) (Nat.le_refl _) _).set (p := ⟨w.heap.size, 1, none⟩) (Nat.le_refl _) _).set (p := ⟨w.heap.size, 2, none⟩) (Nat.le_refl _) _⟩
set_option maxRecDepth 100000 in
theorem LeaveZ {p : Option Addr} {w : World} (h : Unm p w) : Calls Tryz.prog 13 #[.pointer p] w fun en w' => en = .returned (.tuple #[.int .i64 0, NILS, NILS, .int .i64 7]) ∧ Grew w w' := by
  have H : Hid (Unm p w) := h
  clear h
  go_enter Tryz.func13, Tryz.ntmps13
  go_wp2_with fail
  go_step3
  go_wp2_with fail
  refine (openZ (H.out.grew (Grew.refl w))).mono ?_
  rintro en w1 ⟨rfl, g1⟩
  have G1 : Hid (Grew w w1) := g1
  clear g1 H
  go_wp2_with fail
  rw [Exit.noGoto_ret]
  refine bodyPost_ret (v := .tuple #[.int .i64 0, NILS, NILS, .int .i64 7]) (by simp [results, Tryz.results13, go_sem]) rfl ?_
  exact ⟨rfl, G1.out⟩
set_option maxRecDepth 100000 in
theorem LastZ {p : Option Addr} {w : World} (h : Unm p w) : Calls Tryz.prog 24 #[.pointer p] w fun en w' => en = .returned (.tuple #[.int .i64 0, NILS, NILS, .int .i64 7]) ∧ Grew w w' := by
  have H : Hid (Unm p w) := h
  clear h
  go_enter Tryz.func24, Tryz.ntmps24
  go_wp2_with fail
  refine (openZ (H.out.grew (Grew.refl w))).mono ?_
  rintro en w1 ⟨rfl, g1⟩
  have G1 : Hid (Grew w w1) := g1
  clear g1 H
  go_wp2_with fail
  refine bodyPost_ret (v := .tuple #[.int .i64 0, NILS, NILS, .int .i64 7]) (by simp [results, Tryz.results24, go_sem]) rfl ?_
  exact ⟨rfl, G1.out⟩
set_option maxRecDepth 100000 in
theorem PushZ {p : Option Addr} {w : World} {tn th : Int} {tz : Bool} (h : Unm p w) : Calls Tryz.prog 25 #[.pointer p, .agg #[.int .i64 tn, .bool tz, .int .i64 th]] w fun en w' => en = .returned (.int .i64 7) ∧ Grew w w' := by
  have H : Hid (Unm p w) := h
  clear h
  go_enter Tryz.func25, Tryz.ntmps25
  go_wp2_with fail
  refine (openZ (H.out.grew ((Grew.refl w).alloc _))).mono ?_
  rintro en w1 ⟨rfl, g1⟩
  have G1 : Hid (Grew w w1) := Grew.trans ((Grew.refl w).alloc _) g1
  clear g1 H
  go_wp2_with fail
  go_ret
  exact ⟨rfl, G1.out⟩
set_option maxRecDepth 100000 in
theorem UnreachableZ {p : Option Addr} {w : World} (h : Unm p w) : Calls Tryz.prog 7 #[.pointer p] w fun en w' => en = .returned (.int .i64 7) ∧ Grew w w' := by
  have H : Hid (Unm p w) := h
  clear h
  go_enter Tryz.func7, Tryz.ntmps7
  go_wp2_with fail
  refine (openZ (H.out.grew (Grew.refl w))).mono ?_
  rintro en w1 ⟨rfl, g1⟩
  have G1 : Hid (Grew w w1) := g1
  clear g1 H
  go_wp2_with fail
  go_ret
  exact ⟨rfl, G1.out⟩
set_option maxRecDepth 100000 in
theorem EnterZ {p : Option Addr} {w : World} (h : Unm p w) : Calls Tryz.prog 12 #[.pointer p, .int .i64 2, NILS, NILS] w fun en w' => en = .returned (.int .i64 7) ∧ Grew w w' := by
  have H : Hid (Unm p w) := h
  clear h
  go_enter Tryz.func12, Tryz.ntmps12
  go_wp2_with fail
  refine (openZ (H.out.grew (Grew.refl w))).mono ?_
  rintro en w1 ⟨rfl, g1⟩
  have G1 : Hid (Grew w w1) := g1
  clear g1 H
  go_wp2_with fail
  go_ret
  exact ⟨rfl, G1.out⟩
set_option maxRecDepth 100000 in
theorem SwapZ {p : Option Addr} {w : World} (h : Unm p w) : Calls Tryz.prog 26 #[.pointer p, NILS, NILS] w fun en w' => en = .returned (.int .i64 7) ∧ Grew w w' := by
  have H : Hid (Unm p w) := h
  clear h
  go_enter Tryz.func26, Tryz.ntmps26
  go_wp2_with fail
  refine (PopsZ (H.out.grew (Grew.refl w))).mono ?_
  rintro en w1 ⟨rfl, g1⟩
  have G1 : Hid (Grew w w1) := g1
  clear g1 H
  go_wp2_with fail
  go_ret
  exact ⟨rfl, G1.out⟩
end Go.Proofs.YtkghplkmfpnhdaaGreatDoor
