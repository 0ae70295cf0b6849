/-
  Push, Pushes, Operands; no statement is proved here.
-/
import Derived.Test.YtkghplkmfpnhdaaGreatDoorCal
namespace Go.Proofs.YtkghplkmfpnhdaaGreatDoor
open Go.RowKit
set_option linter.unusedVariables false
set_option linter.unusedSimpArgs false

theorem raw_val {w : World} (n h : Int) (z : Bool) {t : TypeId} : Raw 3 (w.alloc (.cells #[.int .i64 n, .bool z, .int .i64 h] t)) (.slice (some ⟨w.heap.size, 0, none⟩) 1 1) ([(⟨n, z, h⟩ : VT)].length) (([(⟨n, z, h⟩ : VT)]).flatMap VT.c) := by
  refine ⟨rfl, ?_, some ⟨w.heap.size, 0, none⟩, 1, rfl, Nat.le_refl _, by decide, (fun h => by cases h), Or.inr ⟨w.heap.size, 0, rfl, fun j u hu => ?_⟩⟩
  · intro u hu
    simp [VT.c] at hu
    rcases hu with rfl | rfl | rfl <;> rfl
  · rw [Nat.zero_add, cell_of (heap_alloc_last _ _)]
    simpa [VT.c] using hu
set_option maxRecDepth 100000 in
set_option maxHeartbeats 1000000 in
theorem pushM {B : Nat} {w : World} {C : Nat} {lv fv ov qv : Value} {lo : List LO} {fr : List Int} {ops : List VT} {fs : List FV} (h : CK B w C lv fv ov qv lo fr ops fs) (hf : 0 < fs.length) (hn : ops.length ≤ 1048576) (tn th : Int) (tz : Bool) :
    Calls Tryz.prog 25 #[.pointer (some ⟨C, 0, none⟩), .agg #[.int .i64 tn, .bool tz, .int .i64 th]] w fun en w' => ∃ ov', en = .returned (.int .i64 0) ∧ CK B w' C lv fv ov' qv lo fr (ops ++ [⟨tn, tz, th⟩]) fs ∧ KB B w w' := by
  have C1 : Hid (∀ W, Grew w W → Calls Tryz.prog 31 #[.pointer (some ⟨C, 0, none⟩)] W fun en w' => en = .returned (.int .i64 0) ∧ w' = W) := fun W gg => openM (h.grew gg) hf
  have H := Hid.mk' h
  have hCl := h.lt
  have hBC := h.base
  clear h
  go_enter Tryz.func25, Tryz.ntmps25
  go_wp2_with fail
  refine (C1.out _ ((Grew.refl w).alloc _)).mono ?_
  rintro en wX ⟨rfl, hwX⟩
  obtain rfl := hwX.symm
  clear hwX C1
  obtain ⟨w1, hw1⟩ : ∃ w1, w1 = w.alloc (.cells #[.int .i64 tn, .bool tz, .int .i64 th] 44) := ⟨_, rfl⟩
  have g1 : Grew w w1 := by rw [hw1]; exact (Grew.refl w).alloc _
  have N1 : w1.heap[w.heap.size]? = some (.cells #[.int .i64 tn, .bool tz, .int .i64 th] 44 (0, 0)) := by rw [hw1]; exact heap_alloc_last _ _
  rw [← hw1]
  have H1 := Hid.mk' (H.out.grew g1)
  have G1 := Hid.mk' g1
  have e0 := cell_of N1 0
  have e1 := cell_of N1 1
  have e2 := cell_of N1 2
  simp at e0 e1 e2
  have hl1 := lt_of_obj N1
  clear hw1 g1 N1
  go_wp2_with fail
  have CV : Hid (Calls Tryz.prog 40 #[.pointer (some ⟨C, 5, none⟩), .slice (some ⟨w1.heap.size, 0, none⟩) 1 1] (w1.alloc (.cells #[.int .i64 tn, .bool tz, .int .i64 th] 44)).drew fun en w' => ∃ ov', en = .returned (.tuple #[]) ∧ CK B w' C lv fv ov' qv lo fr (ops ++ [⟨tn, tz, th⟩]) fs ∧ KB B w w') := by
    refine (pushV_any (H1.out.grew ((Grew.refl w1).alloc _).drew) ((raw_val tn th tz).grew ((Grew.refl _).drew)) (by simp; omega)).mono ?_
    rintro en w' ⟨v', h1, h2, h3, _⟩
    exact ⟨v', h1, h2, ((G1.out.trans ((Grew.refl w1).alloc _).drew).kb (by omega)).trans h3⟩
  go_region_with (refine CV.out.mono ?_
                  rintro en w2 ⟨ov2, rfl, K2, B2⟩
                  have H2 := Hid.mk' K2
                  have HB2 := Hid.mk' B2
                  clear K2 B2)
  all_goals
    go_wp2_with fail
    go_ret
    exact ⟨_, rfl, H2.out, HB2.out⟩
end Go.Proofs.YtkghplkmfpnhdaaGreatDoor
