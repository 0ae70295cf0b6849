/-
  The walk of the statements' own kept; no statement is proved here.
-/
import Derived.Test.YtclamdpbdafmcaaRefN
import Derived.Test.YtclamdpbdafmcaaSecs
namespace Go.Proofs.Ytclamdpbdafmcaa
open Go.RowKit
set_option linter.unusedVariables false

theorem kept_true (v1 v2 : Value) (l : List Int) (w : World) (h1 : Reads w v1 (l ++ wd 9)) (h2 : Reads w v2 l) (hlen : l.length ≤ 140737488351232) :
    Calls Try.prog 14 #[v1, v2] w fun e w' => e = .returned (.bool true) ∧ Grew w w' := by
  have c := wide_any v2 l w h2 hlen
  obtain ⟨L, hL⟩ : ∃ L, L = l ++ wd 9 := ⟨_, rfl⟩
  rw [← hL] at h1 c
  clear hL
  have HR : Hid (Reads w v1 L) := h1
  obtain ⟨a1, c1, rfl⟩ := h1.len
  obtain ⟨a2, c2, rfl⟩ := h2.len
  clear h1 h2
  go_enter Try.func14, Try.ntmps14
  go_wp2_with fail
  refine c.mono ?_
  rintro en w1 ⟨v, rfl, hh⟩
  clear c
  go_wp2_with fail
  refine (same_true _ _ _ _ (hh.gr.reads HR.out) hh.reads).mono ?_
  rintro en w2 ⟨rfl, rfl⟩
  go_wp2_with fail
  go_ret
  exact ⟨rfl, hh.gr⟩

end Go.Proofs.Ytclamdpbdafmcaa
