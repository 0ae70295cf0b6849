/-
  The walk of the law EntryWrites; no statement is proved here.
-/
import Derived.Test.YtfnfbioenngjoaaDoorWrY
namespace Go.Proofs.YtfnfbioenngjoaaDoor
open Go.RowKit
set_option linter.unusedVariables false
set_option linter.unusedSimpArgs false
set_option linter.constructorNameAsVariable false

/- The bytes and the error that stand for what was to be written. -/
def PV (R : Except Nat (List Int)) (w : World) (a : Value) (e : Int) : Prop := match R with
  | .ok m => Reads w a m ∧ e = 0
  | .error k => a = .slice none 0 0 ∧ e = (k : Int)
theorem PV.grew {R : Except Nat (List Int)} {w w' : World} {a : Value} {e : Int} (h : PV R w a e) (g : Grew w w') : PV R w' a e := by
  cases R with
  | ok m => exact ⟨h.1.below g.1, h.2⟩
  | error k => exact h
theorem PAns.pv {R : Except Nat (List Int)} {w w' : World} {en : Ending} (h : PAns w R en w') : ∃ (a : Value) (e : Int), en = .returned (.tuple #[a, .int .i64 e]) ∧ PV R w' a e ∧ Grew w w' := by
  cases R with
  | ok m =>
    obtain ⟨rv, rfl, r, g⟩ := h
    exact ⟨rv, 0, rfl, ⟨Has.reads (base := _) (w0 := w') ⟨r, Below.refl _ _, g.2⟩, rfl⟩, g⟩
  | error k =>
    obtain ⟨rfl, g⟩ := h
    exact ⟨_, _, rfl, ⟨rfl, rfl⟩, g⟩
set_option maxRecDepth 100000 in
set_option maxHeartbeats 1000000 in
theorem lsame_any {R : Except Nat (List Int)} {w : World} {a b : Value} {e f : Int} (h1 : PV R w a e) (h2 : PV R w b f) :
    Calls Tryd.prog 6 #[a, .int .i64 e, b, .int .i64 f] w fun en w' => en = .returned (.bool true) ∧ w' = w := by
  cases R with
  | ok m =>
    obtain ⟨r1, rfl⟩ := h1
    obtain ⟨r2, rfl⟩ := h2
    have s1 := r1.str
    have s2 := r2.str
    obtain ⟨xa, xc, rfl⟩ := r1.len
    obtain ⟨ya, yc, rfl⟩ := r2.len
    clear r1 r2
    generalize strOfNums m = S at *
    go_enter Tryd.func6, Tryd.ntmps6
    go_wp2_with fail
    go_ret
    exact ⟨rfl, rfl⟩
  | error k =>
    obtain ⟨rfl, rfl⟩ := h1
    obtain ⟨rfl, rfl⟩ := h2
    have s1 := Reads.str (w := w) (v := .slice none 0 0) (l := []) ⟨none, 0, rfl, Nat.le_refl _, by unfold maxLen; omega, fun _ => rfl, Or.inl rfl⟩
    generalize strOfNums [] = S at *
    by_cases hk : k = 0
    · subst hk
      go_enter Tryd.func6, Tryd.ntmps6
      go_wp2_with fail
      go_ret
      exact ⟨rfl, rfl⟩
    · have d : ((k : Int) == 0) = false := by simp; exact hk
      go_enter Tryd.func6, Tryd.ntmps6
      go_wp2_with fail
      go_ret
      exact ⟨rfl, rfl⟩
end Go.Proofs.YtfnfbioenngjoaaDoor
