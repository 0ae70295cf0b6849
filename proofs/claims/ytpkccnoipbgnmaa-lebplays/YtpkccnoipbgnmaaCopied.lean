/-
  The walk of the statements' own copy of bytes; no statement is proved here.
-/
import Derived.Test.YtpkccnoipbgnmaaKit
namespace Go.Proofs.Ytpkccnoipbgnmaa
open Go.RowKit
set_option linter.unusedVariables false

set_option maxHeartbeats 400000 in
theorem copied_any (v : Value) (l : List Int) (w : World) (hR : Reads w v l) (hlen : l.length ≤ 140737488351232) :
    Calls Try.prog 10 #[v] w fun e w' => ∃ v', e = .returned v' ∧ Has w.heap.size w w' v' l := by
  have hh : Has w.heap.size w (w.alloc (.cells #[] 5)) (.slice (some ⟨w.heap.size, 0, none⟩) 0 0) [] :=
    ⟨World.ownsRow_lit w #[] 0 (Nat.le_refl _) (by decide) rfl, (Below.refl _ _).alloc (Nat.le_refl _) _, by simp⟩
  have hR' : Reads (w.alloc (.cells #[] 5)) v l := hR.below ((Below.refl _ _).alloc (Nat.le_refl _) _)
  obtain ⟨ad, cap, rfl⟩ := hR.len
  clear hR
  go_enter Try.func10, Try.ntmps10
  go_wp2_with (at_builtin; refine wp_appS rfl _ _ rfl rfl rfl hh hR' (by simp; omega) ?_; intro v' w1 hh1)
  go_ret
  exact ⟨_, rfl, hh1⟩

/- The world has grown: below all is as it was. -/
theorem Has.step {w0 w w' : World} {v : Value} {l : List Int} (h : Has w.heap.size w w' v l) (hb : Below w0.heap.size w0 w) (hs : w0.heap.size ≤ w.heap.size) :
    Below w0.heap.size w0 w' ∧ w0.heap.size ≤ w'.heap.size := ⟨hb.trans (h.below.mono hs), Nat.le_trans hs h.2.2⟩

end Go.Proofs.Ytpkccnoipbgnmaa
