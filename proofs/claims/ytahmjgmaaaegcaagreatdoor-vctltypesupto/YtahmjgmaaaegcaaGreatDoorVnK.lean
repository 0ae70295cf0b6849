/-
  What a select's type may speak of; no statement is proved here.
-/
import Derived.Test.YtahmjgmaaaegcaaGreatDoorDCl
import Derived.Deep.RegionHeld3
namespace Go.Proofs.YtahmjgmaaaegcaaGreatDoor
open Go.RowKit
set_option linter.unusedVariables false
set_option linter.unusedSimpArgs false

def knownB (T : List RT) (v : VT) : Bool := if v.num = 5 then (if v.heap < 0 then decide (-12 ≤ v.heap) else decide (v.heap < (cntT T : Int))) else true
set_option maxRecDepth 100000 in
set_option maxHeartbeats 1000000 in
theorem known_any {X : World} {tv : Value} {T : List RT} (hT : LR X tv T) (hm : T.length ≤ 1048576) (hc : cntT T ≤ 1048576) (n h : Int) (z : Bool) :
    Calls Tryz.prog 30 #[tv, .agg #[.int .i64 n, .bool z, .int .i64 h]] X fun en w' => en = .returned (.bool (knownB T ⟨n, z, h⟩)) ∧ Grew X w' := by
  have CC : Hid (∀ Y, Grew X Y → Calls Tryz.prog 66 #[tv] Y fun en w' => en = .returned (.int .i64 (cntT T : Int)) ∧ Grew Y w') := fun Y g => count_any (hT.grew g) hm hc
  obtain ⟨ta, tc, htv, _⟩ := hT.one
  subst htv
  clear hT hm hc
  by_cases h5 : n = 5
  · subst h5
    by_cases h0 : h < 0
    · have d1 : decide (h < 0) = true := by simpa using h0
      have e : knownB T ⟨5, z, h⟩ = decide (-12 ≤ h) := by simp [knownB, h0]
      rw [e]
      clear e CC
      go_enter Tryz.func30, Tryz.ntmps30
      go_wp2_with fail
      go_ret
      exact ⟨rfl, by repeat (first | with_reducible exact Grew.refl _ | refine Grew.alloc ?_ _ | refine Grew.drewN ?_ _ | refine Grew.drew ?_)⟩
    · have d1 : decide (h < 0) = false := by simpa using h0
      have e : knownB T ⟨5, z, h⟩ = decide (h < (cntT T : Int)) := by simp [knownB, h0]
      rw [e]
      clear e
      go_enter Tryz.func30, Tryz.ntmps30
      go_wp2_with fail
      have B2 : (X.alloc (.cells #[.int .i64 5, .bool z, .int .i64 h] 29)).heap[X.heap.size]? = some (.cells #[.int .i64 5, .bool z, .int .i64 h] 29 (0, 0)) := heap_alloc_last _ _
      have gg2 : Grew X (X.alloc (.cells #[.int .i64 5, .bool z, .int .i64 h] 29)) := (Grew.refl _).alloc _
      have HB2 : Hid _ := B2
      have HG2 : Hid (Grew X (X.alloc (.cells #[.int .i64 5, .bool z, .int .i64 h] 29))) := gg2
      clear B2 gg2
      generalize X.alloc (.cells #[.int .i64 5, .bool z, .int .i64 h] 29) = w2 at *
      generalize X.heap.size = q at *
      have y2 := cell_of HB2.out 2
      simp at y2
      go_region_held3 (fun w' => w'.cell? ⟨q, 2, none⟩ = some (.int .i64 h)) (go_keep) (first
      | (with_reducible refine (CC.out _ ?gr).mono ?_
         case gr => exact (by repeat (first | with_reducible exact HG2.out | with_reducible exact Grew.refl _ | refine Grew.alloc ?_ _ | refine Grew.drewN ?_ _ | refine Grew.drew ?_))
         rintro en w5 ⟨rfl, g5⟩
         have gg5 : Grew w2 w5 := Grew.trans (by repeat (first | with_reducible exact Grew.refl _ | refine Grew.alloc ?_ _ | refine Grew.drewN ?_ _ | refine Grew.drew ?_)) g5
         have HG5 : Hid (Grew X w5) := HG2.out.trans gg5
         have t2 := cell_grew y2 gg5
         clear g5 gg5)
      | fail)
      all_goals
        go_wp2_with fail
        go_ret
        exact ⟨rfl, (by repeat (first | with_reducible exact HG5.out | refine Grew.alloc ?_ _ | refine Grew.drewN ?_ _ | refine Grew.drew ?_))⟩
  · have d1 : (n == 5) = false := by simpa using h5
    have e : knownB T ⟨n, z, h⟩ = true := by simp [knownB, h5]
    rw [e]
    clear e CC
    go_enter Tryz.func30, Tryz.ntmps30
    go_wp2_with fail
    go_ret
    exact ⟨rfl, by repeat (first | with_reducible exact Grew.refl _ | refine Grew.alloc ?_ _ | refine Grew.drewN ?_ _ | refine Grew.drew ?_)⟩
end Go.Proofs.YtahmjgmaaaegcaaGreatDoor
