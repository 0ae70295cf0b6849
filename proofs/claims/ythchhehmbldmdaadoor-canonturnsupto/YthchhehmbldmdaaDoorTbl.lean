/-
  A table: made, counted, entered; no statement is proved here.
-/
import Derived.Test.YthchhehmbldmdaaDoorCpy
import Derived.Test.YthchhehmbldmdaaDoorSam
namespace Go.Proofs.YthchhehmbldmdaaDoor
open Go.RowKit
set_option linter.unusedVariables false
set_option linter.unusedSimpArgs false

set_option maxRecDepth 100000 in
theorem neq_map (kb : Nat) (w : World) : (binOp .neq 46 (.map (some kb)) (.map none)).run Tryd.prog w = .ok (.bool true) w := by kernel_rfl
set_option maxRecDepth 100000 in
theorem neq_map0 (w : World) : (binOp .neq 46 (.map none) (.map none)).run Tryd.prog w = .ok (.bool false) w := by kernel_rfl
set_option maxRecDepth 100000 in
theorem made_yes {w : World} {tb kb : Nat} {iv : Value} (h : w.heap[tb]? = some (tobj kb iv)) : Calls Tryd.prog 24 #[.pointer (some ⟨tb, 0, none⟩)] w fun en w' => en = .returned (.bool true) ∧ Grew w w' := by
  have c0 := cell_of h 0
  simp at c0
  have hl := lt_of_obj h
  have hnm := neq_map kb
  clear h
  go_enter Tryd.func24, Tryd.ntmps24
  go_wp2_with fail
  all_goals go_ret
  all_goals exact ⟨rfl, (by repeat (first | exact Grew.refl w | refine Grew.alloc ?_ _ | refine Grew.drew ?_ | refine Grew.drewN ?_ _))⟩
set_option maxRecDepth 100000 in
theorem made_nil (w : World) : Calls Tryd.prog 24 #[.pointer none] w fun en w' => en = .returned (.bool false) ∧ w' = w := by
  go_enter Tryd.func24, Tryd.ntmps24
  go_wp2_with fail
  go_ret
  exact ⟨rfl, rfl⟩
set_option maxRecDepth 100000 in
theorem made_zero {w : World} {tb : Nat} (c0 : w.cell? ⟨tb, 0, none⟩ = some (.map none)) : Calls Tryd.prog 24 #[.pointer (some ⟨tb, 0, none⟩)] w fun en w' => en = .returned (.bool false) ∧ Grew w w' := by
  have hl := lt_of_cell c0
  have hnm := neq_map0
  go_enter Tryd.func24, Tryd.ntmps24
  go_wp2_with fail
  all_goals go_ret
  all_goals exact ⟨rfl, (by repeat (first | exact Grew.refl w | refine Grew.alloc ?_ _ | refine Grew.drew ?_ | refine Grew.drewN ?_ _))⟩
set_option maxRecDepth 100000 in
theorem countS_any {w : World} {tb kb n : Nat} {a : Option Addr} {c : Nat} (h : w.heap[tb]? = some (tobj kb (.slice a n c))) : Calls Tryd.prog 26 #[.pointer (some ⟨tb, 1, none⟩)] w fun en w' => en = .returned (.int .i64 (n : Int)) ∧ w' = w := by
  have c1 := cell_of h 1
  simp at c1
  have hl := lt_of_obj h
  clear h
  go_enter Tryd.func26, Tryd.ntmps26
  go_wp2_with fail
  go_ret
  exact ⟨rfl, rfl⟩
set_option maxRecDepth 100000 in
theorem countT_any {w : World} {tb kb n : Nat} {a : Option Addr} {c : Nat} (h : w.heap[tb]? = some (tobj kb (.slice a n c))) : Calls Tryd.prog 17 #[.pointer (some ⟨tb, 0, none⟩)] w fun en w' => en = .returned (.int .i64 (n : Int)) ∧ Grew w w' := by
  have C1 := made_yes h
  have C2 : Hid (∀ W, Grew w W → Calls Tryd.prog 26 #[.pointer (some ⟨tb, 1, none⟩)] W fun en w' => en = .returned (.int .i64 (n : Int)) ∧ w' = W) := fun W g => countS_any (g.other h)
  have H : Hid (w.heap[tb]? = some (tobj kb (.slice a n c))) := h
  clear h
  go_enter Tryd.func17, Tryd.ntmps17
  go_wp2_with fail
  refine C1.mono ?_
  rintro en w1 ⟨rfl, g1⟩
  have G1 : Hid (Grew w w1) := g1
  have h1 := g1.other H.out
  have c0 := cell_of h1 0
  have c1 := cell_of h1 1
  simp at c0 c1
  have hl := lt_of_obj h1
  clear C1 g1 h1
  go_wp2_with fail
  refine (C2.out w1 G1.out).mono ?_
  rintro en w2 ⟨rfl, h2⟩
  obtain rfl := h2.symm
  clear C2
  go_wp2_with fail
  go_ret
  exact ⟨rfl, G1.out⟩
set_option maxRecDepth 100000 in
theorem enter_any {w : World} {kb fb nk nf : Nat} {f g : FM} (hk : MapF w kb nk f) (hf : MapF w fb nf g) (hne : kb ≠ fb) (hn : nk + nf ≤ 8388608) :
    Calls Tryd.prog 28 #[.agg #[.map (some kb)], .agg #[.map (some fb)]] w fun en w' => en = .returned UNIT ∧ MapF w' kb (nk + nf) (overF f g) ∧ TurnP (fun x => x = kb) w w' := by
  unfold UNIT
  have C : Hid (∀ W, Grew w W → Calls Tryd.prog 42 #[.map (some kb), .map (some fb)] W fun en w' => en = .returned (.tuple #[]) ∧ MapF w' kb (nk + nf) (overF f g) ∧ TurnP (fun x => x = kb) W w') := fun W g => copy_any (hk.grew g) (hf.grew g) hne hn
  clear hk hf
  go_enter Tryd.func28, Tryd.ntmps28
  go_wp2_with fail
  have G0 : Grew w ((w.alloc (.cells #[.map (some kb)] 48)).alloc (.cells #[.map (some fb)] 48)) := ((Grew.refl w).alloc _).alloc _
  generalize ((w.alloc (.cells #[.map (some kb)] 48)).alloc (.cells #[.map (some fb)] 48)) = W at *
  refine (C.out W G0).mono ?_
  rintro en w1 ⟨rfl, m1, t1⟩
  have HX : Hid (MapF w1 kb (nk + nf) (overF f g) ∧ TurnP (fun x => x = kb) w w1) := ⟨m1, (G0.turnP _).trans t1⟩
  clear m1 t1 C
  go_wp2_with fail
  try go_end0
  exact ⟨rfl, HX.out⟩
set_option maxRecDepth 100000 in
theorem new_any (w : World) : Calls Tryd.prog 8 #[] w fun en w' => ∃ tb kb, en = .returned (.pointer (some ⟨tb, 0, none⟩)) ∧ w.heap.size ≤ tb ∧ w.heap.size ≤ kb ∧ w'.heap[tb]? = some (tobj kb NILS) ∧ MapF w' kb 0 NOF ∧ Grew w w' := by
  have CC : Hid (∀ W, Calls Tryd.prog 23 #[] W fun en w' => ∃ b, en = .returned (.agg #[.map (some b)]) ∧ W.heap.size ≤ b ∧ MapF w' b 0 NOF ∧ Grew W w') := newCatalog_any
  go_enter Tryd.func8, Tryd.ntmps8
  go_wp2_with fail
  refine (CC.out _).mono ?_
  rintro en w1 ⟨kb, rfl, hkb, hM1, g1⟩
  have M1 : Hid (MapF w1 kb 0 NOF) := hM1
  have G1 : Hid (Grew w w1) := g1
  clear hM1 g1 CC
  go_wp2_with fail
  go_ret
  exact ⟨w1.heap.size, kb, rfl, G1.out.2, hkb, heap_alloc_last _ _, M1.out.grew ((Grew.refl _).alloc _), G1.out.alloc _⟩
end Go.Proofs.YthchhehmbldmdaaDoor
