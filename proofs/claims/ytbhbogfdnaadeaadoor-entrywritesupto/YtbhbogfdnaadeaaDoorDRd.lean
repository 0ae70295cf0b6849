/-
  The document's reading: its block; the walks of fail, peek, number, abstract, small; no statement is proved here.
-/
import Derived.Test.YtbhbogfdnaadeaaDoorTopV
import Derived.Test.YtbhbogfdnaadeaaDoorCkW
namespace Go.Proofs.YtbhbogfdnaadeaaDoor
open Go.RowKit
set_option linter.unusedVariables false
set_option linter.unusedSimpArgs false
set_option linter.constructorNameAsVariable false

def runR {α : Type} (R : Nat → RS α) : Except (Nat × Nat) Nat → RS α
  | .ok p => R p
  | .error e => .error e
def failS (st : Except (Nat × Nat) Nat) (pl e : Nat) : Except (Nat × Nat) Nat := match st with
  | .ok _ => .error (pl, e)
  | .error x => .error x
def Ahead (l : List Int) (st : Except (Nat × Nat) Nat) : Prop := ∃ p, st = .ok p ∧ p < l.length
/- The heap type of a byte; 0: it is none. -/
def absH (c : Int) : Int := if (mean c).1 = 4 then (mean c).2 else 0
theorem absH_no : ∀ c : _root_.Fin 256, ((c.1 : Int) ≠ 115 ∧ (c.1 : Int) ≠ 114 ∧ (c.1 : Int) ≠ 113 ∧ (c.1 : Int) ≠ 112 ∧ (c.1 : Int) ≠ 111 ∧ (c.1 : Int) ≠ 110 ∧ (c.1 : Int) ≠ 109 ∧ (c.1 : Int) ≠ 108 ∧ (c.1 : Int) ≠ 107 ∧ (c.1 : Int) ≠ 106 ∧ (c.1 : Int) ≠ 105 ∧ (c.1 : Int) ≠ 116) → absH (c.1 : Int) = 0 := by decide +kernel
set_option maxRecDepth 100000 in
theorem abstract_any (c : Int) (hc : 0 ≤ c ∧ c ≤ 255) (w : World) :
    Calls Tryd.prog 103 #[.int .u8 c] w fun en w' => en = .returned (.int .i64 (absH c)) ∧ w' = w := by
  by_cases h115 : c = 115
  · subst h115
    rw [show absH 115 = -2 from by decide]
    go_enter Tryd.func103, Tryd.ntmps103
    go_wp2_with fail
    go_ret
    exact ⟨rfl, rfl⟩
  by_cases h114 : c = 114
  · subst h114
    rw [show absH 114 = -4 from by decide]
    go_enter Tryd.func103, Tryd.ntmps103
    go_wp2_with fail
    go_ret
    exact ⟨rfl, rfl⟩
  by_cases h113 : c = 113
  · subst h113
    rw [show absH 113 = -10 from by decide]
    go_enter Tryd.func103, Tryd.ntmps103
    go_wp2_with fail
    go_ret
    exact ⟨rfl, rfl⟩
  by_cases h112 : c = 112
  · subst h112
    rw [show absH 112 = -1 from by decide]
    go_enter Tryd.func103, Tryd.ntmps103
    go_wp2_with fail
    go_ret
    exact ⟨rfl, rfl⟩
  by_cases h111 : c = 111
  · subst h111
    rw [show absH 111 = -3 from by decide]
    go_enter Tryd.func103, Tryd.ntmps103
    go_wp2_with fail
    go_ret
    exact ⟨rfl, rfl⟩
  by_cases h110 : c = 110
  · subst h110
    rw [show absH 110 = -5 from by decide]
    go_enter Tryd.func103, Tryd.ntmps103
    go_wp2_with fail
    go_ret
    exact ⟨rfl, rfl⟩
  by_cases h109 : c = 109
  · subst h109
    rw [show absH 109 = -6 from by decide]
    go_enter Tryd.func103, Tryd.ntmps103
    go_wp2_with fail
    go_ret
    exact ⟨rfl, rfl⟩
  by_cases h108 : c = 108
  · subst h108
    rw [show absH 108 = -7 from by decide]
    go_enter Tryd.func103, Tryd.ntmps103
    go_wp2_with fail
    go_ret
    exact ⟨rfl, rfl⟩
  by_cases h107 : c = 107
  · subst h107
    rw [show absH 107 = -8 from by decide]
    go_enter Tryd.func103, Tryd.ntmps103
    go_wp2_with fail
    go_ret
    exact ⟨rfl, rfl⟩
  by_cases h106 : c = 106
  · subst h106
    rw [show absH 106 = -9 from by decide]
    go_enter Tryd.func103, Tryd.ntmps103
    go_wp2_with fail
    go_ret
    exact ⟨rfl, rfl⟩
  by_cases h105 : c = 105
  · subst h105
    rw [show absH 105 = -11 from by decide]
    go_enter Tryd.func103, Tryd.ntmps103
    go_wp2_with fail
    go_ret
    exact ⟨rfl, rfl⟩
  by_cases h116 : c = 116
  · subst h116
    rw [show absH 116 = -12 from by decide]
    go_enter Tryd.func103, Tryd.ntmps103
    go_wp2_with fail
    go_ret
    exact ⟨rfl, rfl⟩
  have e115 : (c == 115) = false := by simpa using h115
  have e114 : (c == 114) = false := by simpa using h114
  have e113 : (c == 113) = false := by simpa using h113
  have e112 : (c == 112) = false := by simpa using h112
  have e111 : (c == 111) = false := by simpa using h111
  have e110 : (c == 110) = false := by simpa using h110
  have e109 : (c == 109) = false := by simpa using h109
  have e108 : (c == 108) = false := by simpa using h108
  have e107 : (c == 107) = false := by simpa using h107
  have e106 : (c == 106) = false := by simpa using h106
  have e105 : (c == 105) = false := by simpa using h105
  have e116 : (c == 116) = false := by simpa using h116
  have e0 : absH c = 0 := by
    have := absH_no ⟨c.toNat, by omega⟩
    simp only at this
    rw [show ((c.toNat : Nat) : Int) = c by omega] at this
    exact this ⟨h115, h114, h113, h112, h111, h110, h109, h108, h107, h106, h105, h116⟩
  rw [e0]
  go_enter Tryd.func103, Tryd.ntmps103
  go_wp2_with fail
  go_ret
  exact ⟨rfl, rfl⟩
end Go.Proofs.YtbhbogfdnaadeaaDoor
