/-
  The statements' own plain; no statement is proved here.
-/
import Derived.Test.YthchhehmbldmdaaDoorPlcN
namespace Go.Proofs.YthchhehmbldmdaaDoor
open Go.RowKit
set_option linter.unusedVariables false
set_option linter.unusedSimpArgs false

def pSB : SB := ⟨true, [], ⟨1, [], [], []⟩⟩
def pRT : RT := ⟨[pSB], false⟩
set_option maxRecDepth 100000 in
set_option maxHeartbeats 1000000 in
theorem plain_any (w : World) : Calls Tryd.prog 19 #[] w fun en w' => ∃ v tv, en = .returned v ∧ w'.ownsRow w.heap.size 38 2 v 1 [tv, .bool false] ∧ w'.ownsRow w.heap.size 59 6 tv 1 [.bool true, NILS, .int .i64 1, NILS, NILS, NILS] ∧ Grew w w' := by
  go_enter Tryd.func19, Tryd.ntmps19
  go_wp2_with (first
    | (at_builtin; refine wp_app1a (w := w.alloc (.cells #[.slice none 0 0, .bool false] 38)) (v := NILS) (n := 0) (cs := []) (B := w.heap.size) rfl _ _ 36 59 6 112 _ Tryd.underlying36 infoS rfl (by decide) (by decide) rfl rfl (by simp; rfl) (World.ownsRow_nil _ _ _ _) (by simp) rfl (by simp [Value.oneCell']) (by decide) ?_; intro v3 w3 hO3 hT3 hL3; obtain ⟨a3, c3, e3, _⟩ := row_max hO3; subst e3; have hz3 := hT3.size; have B3 : w3.heap[w.heap.size]? = some (.cells #[NILS, .bool false] 38 (0, 0)) := (hT3.block _ (by simp) (fun e => by cases e)).trans (heap_alloc_last _ _); have b0 := cell_of B3 0; have b1 := cell_of B3 1; have z0 := free_of B3 0; have hl3 := lt_of_obj B3; have HB3 : Hid (w3.heap[w.heap.size]? = some (.cells #[NILS, .bool false] 38 (0, 0))) := B3; have HO3 : Hid (w3.ownsRow w.heap.size 59 6 (.slice a3 1 c3) 1 [.bool true, NILS, .int .i64 1, NILS, NILS, NILS]) := hO3; have HT3 : Hid (Grew w w3) := (hT3.grew ((Grew.refl w).alloc _) (fun x hx => by cases hx)); clear hO3 hT3 hL3 B3)
    | (at_builtin; refine wp_app1a (w := w3.setCell ⟨w.heap.size, 0, none⟩ (.slice a3 1 c3)) (v := NILS) (n := 0) (cs := []) (B := w.heap.size) rfl _ _ 22 38 2 32 _ Tryd.underlying22 infoR rfl (by decide) (by decide) rfl rfl (by first | rfl | (simp; rfl)) (World.ownsRow_nil _ _ _ _) (by simp [World.setCell]; omega) rfl (by simp [Value.oneCell']) (by decide) ?_; intro v5 w5 hO5 hT5 hL5; obtain ⟨a5, c5, e5, _⟩ := row_max hO5; subst e5))
  go_ret
  have t4 : TurnP (fun k => k = w.heap.size) w3 (w3.setCell ⟨w.heap.size, 0, none⟩ (.slice a3 1 c3)) := (TurnP.refl (fun k => k = w.heap.size) w3).set (p := ⟨w.heap.size, 0, none⟩) rfl _
  have g4 : Grew w (w3.setCell ⟨w.heap.size, 0, none⟩ (.slice a3 1 c3)) := t4.grew HT3.out (fun k hk => by omega)
  have g5 : Grew w w5 := hT5.grew g4 (fun x hx => by cases hx)
  refine ⟨_, rfl, _, hO5, ?_, g5⟩
  have r4 := row_set (q := ⟨w.heap.size, 0, none⟩) HO3.out (NoT.of HB3.out (by decide)) (.slice a3 1 c3)
  exact row_turnP r4 hT5 (fun g _ hx => by cases hx)
end Go.Proofs.YthchhehmbldmdaaDoor
