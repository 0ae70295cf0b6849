/-
  New catalogs and drafts; no statement is proved here.
-/
import Derived.Test.YthchhehmbldmdaaDoorPlI
namespace Go.Proofs.YthchhehmbldmdaaDoor
open Go.RowKit
set_option linter.unusedVariables false
set_option linter.unusedSimpArgs false

def NOF : FM := fun _ => none
set_option maxRecDepth 100000 in
theorem newCatalog_any (w : World) : Calls Tryd.prog 23 #[] w fun en w' => ∃ b, en = .returned (.agg #[.map (some b)]) ∧ w.heap.size ≤ b ∧ MapF w' b 0 NOF ∧ Grew w w' := by
  have hmm := @run_makeMap Tryd.prog
  go_enter Tryd.func23, Tryd.ntmps23
  go_wp2_with fail
  have e1 : (w.alloc (.cells #[.map (some (w.heap.size + 1))] 48)).heap.size = w.heap.size + 1 := alloc_size _ _
  have B0 : ((w.alloc (.cells #[.map (some (w.heap.size + 1))] 48)).alloc (.map #[] 0)).heap[w.heap.size]? = some (.cells #[.map (some (w.heap.size + 1))] 48 (0, 0)) := heap_alloc (heap_alloc_last _ _) _
  have q0 := cell_of B0 0
  simp at q0
  refine bodyPost_ret (v := .agg #[.map (some (w.heap.size + 1))]) (by simp [results, Tryd.results23, go_sem, q0]) rfl ?_
  refine ⟨_, rfl, by omega, ?_, ((Grew.refl w).alloc _).alloc _⟩
  have := MapF.made (w.alloc (.cells #[.map (some (w.heap.size + 1))] 48))
  rw [e1] at this
  exact this
set_option maxRecDepth 100000 in
set_option maxHeartbeats 1000000 in
theorem newDraft_any {w : World} {kb : Nat} {c m : Int} : Calls Tryd.prog 25 #[.agg #[.map (some kb)], .int .i64 c, .int .i64 m] w fun en w' => ∃ db fb, en = .returned (.pointer (some ⟨db, 0, none⟩)) ∧ w.heap.size ≤ db ∧ w.heap.size ≤ fb ∧ w'.heap[db]? = some (dobj kb fb NILS c m) ∧ MapF w' fb 0 NOF ∧ Grew w w' := by
  have CC : Hid (∀ W, Calls Tryd.prog 23 #[] W fun en w' => ∃ b, en = .returned (.agg #[.map (some b)]) ∧ W.heap.size ≤ b ∧ MapF w' b 0 NOF ∧ Grew W w') := newCatalog_any
  go_enter Tryd.func25, Tryd.ntmps25
  go_wp2_with fail
  generalize hW : w.alloc (.cells #[.map (some kb)] 48) = W
  have G0 : Hid (Grew w W) := by rw [← hW]; exact (Grew.refl w).alloc _
  have A0 : Hid (W.heap[w.heap.size]? = some (.cells #[.map (some kb)] 48 (0, 0))) := by rw [← hW]; exact heap_alloc_last _ _
  have k0 := cell_of A0.out 0
  simp at k0
  have hk : w.heap.size < W.heap.size := lt_of_obj A0.out
  clear hW
  go_region_held3 (fun w' => w'.cell? ⟨w.heap.size, 0, none⟩ = some (.map (some kb))) (go_keep)
    (first
     | (go_at_call 23
        refine (CC.out _).mono ?_
        rintro en w6 ⟨b6, rfl, hb6, hM6, g6⟩
        have g6' : Grew W w6 := (by first | exact g6 | exact ((Grew.refl _).drew).trans g6 | exact ((Grew.refl _).drewN _).trans g6)
        have G6 : Hid (Grew W w6) := g6'
        have M6 : Hid (MapF w6 b6 0 NOF) := hM6
        have hb6' : W.heap.size ≤ b6 := by simpa using hb6
        have j0 := cell_grew k0 g6'
        clear g6 g6' hM6 hb6))
  all_goals go_wp2_with fail
  all_goals go_ret
  all_goals
    refine ⟨w6.heap.size, b6, rfl, by have := G6.out.2; omega, by omega, ?_, ?_, ?_⟩
    · exact heap_alloc_last _ _
    · exact M6.out.grew (by repeat (first | exact Grew.refl w6 | refine Grew.alloc ?_ _ | refine Grew.drew ?_ | refine Grew.drewN ?_ _))
    · exact (G0.out.trans G6.out).trans (by repeat (first | exact Grew.refl w6 | refine Grew.alloc ?_ _ | refine Grew.drew ?_ | refine Grew.drewN ?_ _))
end Go.Proofs.YthchhehmbldmdaaDoor
