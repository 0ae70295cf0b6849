/-
  The document's reading: its block; the walks of fail, peek, number, abstract, small; no statement is proved here.
-/
import Derived.Test.YtfnfbioenngjoaaDoorWorld
import Derived.BigQuiet
import Derived.Test.YtfnfbioenngjoaaDoorTopV
namespace Go.Proofs.YtfnfbioenngjoaaDoor
open Go.RowKit
set_option linter.unusedVariables false
set_option linter.unusedSimpArgs false

/- The cells (block, place, value) lie in blocks of W and are so in w'. -/
def Held (W w' : World) : List (Nat × Nat × Value) → Prop
  | [] => True
  | (b, j, v) :: l => (b < W.heap.size ∧ w'.cell? ⟨b, j, none⟩ = some v) ∧ Held W w' l
theorem Held.step {W w' w'' : World} (g0 : Grew W w') (g : Grew w' w'') : ∀ {l : List (Nat × Nat × Value)}, Held W w' l → Held W w'' l
  | [], _ => trivial
  | (b, j, v) :: l, ⟨⟨hb, hc⟩, h⟩ => ⟨⟨hb, by rw [g.1.cell (Nat.lt_of_lt_of_le hb g0.2)]; exact hc⟩, Held.step g0 g h⟩
def Ck (W : World) (l : List (Nat × Nat × Value)) (w' : World) : Prop := Grew W w' ∧ Held W w' l
theorem Ck.step {W : World} {l : List (Nat × Nat × Value)} {w' w'' : World} (h : Ck W l w') (g : Grew w' w'') : Ck W l w'' := ⟨h.1.trans g, Held.step h.1 g h.2⟩
theorem Ck.call {P : Program} {f : FuncId} {args : Array Value} {W : World} {l : List (Nat × Nat × Value)} {v : Value} {w' : World} (hc : Ck W l w')
    (h : Calls P f args w' fun e w'' => e = .returned v ∧ Grew w' w'') : Calls P f args w' fun e w'' => e = .returned v ∧ Ck W l w'' :=
  h.mono fun _ _ ⟨he, hg⟩ => ⟨he, hc.step hg⟩
theorem Ck.same {P : Program} {f : FuncId} {args : Array Value} {W : World} {l : List (Nat × Nat × Value)} {v : Value} {w' : World} (hc : Ck W l w')
    (h : Calls P f args w' fun e w'' => e = .returned v ∧ w'' = w') : Calls P f args w' fun e w'' => e = .returned v ∧ Ck W l w'' :=
  h.mono fun _ _ ⟨he, hg⟩ => ⟨he, by rw [hg]; exact hc⟩
theorem Held.drew {W : World} : ∀ {l : List (Nat × Nat × Value)}, Held W W l → Held W { W with drawn := W.drawn + 1 } l
  | [], _ => trivial
  | (b, j, v) :: l, ⟨⟨hb, hc⟩, h⟩ => ⟨⟨hb, hc⟩, Held.drew h⟩
theorem wp_region_ck {P : Program} {id : Nat} {Q : Exit → Act → World → Prop} {a : Act} {w : World} {l : List Oper} (c : List (Nat × Nat × Value)) (hm : P.follows .mixedOrders = true) (hB : Region.lexB .any l.toArray = true)
    (hc : Held w w c) (h : wpQuiet P l.toArray (Ck w c) (fun a' => ∀ w', Ck w c w' → Q .normal a' w') l a) : (Code.region id l.toArray true).wp P Q a w :=
  wp_region_quiet (C := Ck w c) hm hB ⟨(Grew.refl w).drew, hc.drew⟩ (by simpa using h)
end Go.Proofs.YtfnfbioenngjoaaDoor

namespace Go.Proofs.YtfnfbioenngjoaaDoor
open Go.RowKit
set_option linter.unusedVariables false
set_option linter.unusedSimpArgs false
set_option linter.constructorNameAsVariable false

def runR {α : Type} (R : Nat → RS α) : Except (Nat × Nat) Nat → RS α
  | .ok p => R p
  | .error e => .error e
def failS (st : Except (Nat × Nat) Nat) (pl e : Nat) : Except (Nat × Nat) Nat := match st with
  | .ok _ => .error (pl, e)
  | .error x => .error x
def Ahead (l : List Int) (st : Except (Nat × Nat) Nat) : Prop := ∃ p, st = .ok p ∧ p < l.length
/- The heap type of a byte; 0: it is none. -/
def absH (c : Int) : Int := if (mean c).1 = 4 then (mean c).2 else 0
theorem absH_no : ∀ c : _root_.Fin 256, ((c.1 : Int) ≠ 115 ∧ (c.1 : Int) ≠ 114 ∧ (c.1 : Int) ≠ 113 ∧ (c.1 : Int) ≠ 112 ∧ (c.1 : Int) ≠ 111 ∧ (c.1 : Int) ≠ 110 ∧ (c.1 : Int) ≠ 109 ∧ (c.1 : Int) ≠ 108 ∧ (c.1 : Int) ≠ 107 ∧ (c.1 : Int) ≠ 106 ∧ (c.1 : Int) ≠ 105 ∧ (c.1 : Int) ≠ 116) → absH (c.1 : Int) = 0 := by decide +kernel
set_option maxRecDepth 100000 in
theorem abstract_any (c : Int) (hc : 0 ≤ c ∧ c ≤ 255) (w : World) :
    Calls Tryd.prog 73 #[.int .u8 c] w fun en w' => en = .returned (.int .i64 (absH c)) ∧ w' = w := by
  by_cases h115 : c = 115
  · subst h115
    rw [show absH 115 = -2 from by decide]
    go_enter Tryd.func73, Tryd.ntmps73
    go_wp2_with fail
    go_ret
    exact ⟨rfl, rfl⟩
  by_cases h114 : c = 114
  · subst h114
    rw [show absH 114 = -4 from by decide]
    go_enter Tryd.func73, Tryd.ntmps73
    go_wp2_with fail
    go_ret
    exact ⟨rfl, rfl⟩
  by_cases h113 : c = 113
  · subst h113
    rw [show absH 113 = -10 from by decide]
    go_enter Tryd.func73, Tryd.ntmps73
    go_wp2_with fail
    go_ret
    exact ⟨rfl, rfl⟩
  by_cases h112 : c = 112
  · subst h112
    rw [show absH 112 = -1 from by decide]
    go_enter Tryd.func73, Tryd.ntmps73
    go_wp2_with fail
    go_ret
    exact ⟨rfl, rfl⟩
  by_cases h111 : c = 111
  · subst h111
    rw [show absH 111 = -3 from by decide]
    go_enter Tryd.func73, Tryd.ntmps73
    go_wp2_with fail
    go_ret
    exact ⟨rfl, rfl⟩
  by_cases h110 : c = 110
  · subst h110
    rw [show absH 110 = -5 from by decide]
    go_enter Tryd.func73, Tryd.ntmps73
    go_wp2_with fail
    go_ret
    exact ⟨rfl, rfl⟩
  by_cases h109 : c = 109
  · subst h109
    rw [show absH 109 = -6 from by decide]
    go_enter Tryd.func73, Tryd.ntmps73
    go_wp2_with fail
    go_ret
    exact ⟨rfl, rfl⟩
  by_cases h108 : c = 108
  · subst h108
    rw [show absH 108 = -7 from by decide]
    go_enter Tryd.func73, Tryd.ntmps73
    go_wp2_with fail
    go_ret
    exact ⟨rfl, rfl⟩
  by_cases h107 : c = 107
  · subst h107
    rw [show absH 107 = -8 from by decide]
    go_enter Tryd.func73, Tryd.ntmps73
    go_wp2_with fail
    go_ret
    exact ⟨rfl, rfl⟩
  by_cases h106 : c = 106
  · subst h106
    rw [show absH 106 = -9 from by decide]
    go_enter Tryd.func73, Tryd.ntmps73
    go_wp2_with fail
    go_ret
    exact ⟨rfl, rfl⟩
  by_cases h105 : c = 105
  · subst h105
    rw [show absH 105 = -11 from by decide]
    go_enter Tryd.func73, Tryd.ntmps73
    go_wp2_with fail
    go_ret
    exact ⟨rfl, rfl⟩
  by_cases h116 : c = 116
  · subst h116
    rw [show absH 116 = -12 from by decide]
    go_enter Tryd.func73, Tryd.ntmps73
    go_wp2_with fail
    go_ret
    exact ⟨rfl, rfl⟩
  have e115 : (c == 115) = false := by simpa using h115
  have e114 : (c == 114) = false := by simpa using h114
  have e113 : (c == 113) = false := by simpa using h113
  have e112 : (c == 112) = false := by simpa using h112
  have e111 : (c == 111) = false := by simpa using h111
  have e110 : (c == 110) = false := by simpa using h110
  have e109 : (c == 109) = false := by simpa using h109
  have e108 : (c == 108) = false := by simpa using h108
  have e107 : (c == 107) = false := by simpa using h107
  have e106 : (c == 106) = false := by simpa using h106
  have e105 : (c == 105) = false := by simpa using h105
  have e116 : (c == 116) = false := by simpa using h116
  have e0 : absH c = 0 := by
    have := absH_no ⟨c.toNat, by omega⟩
    simp only at this
    rw [show ((c.toNat : Nat) : Int) = c by omega] at this
    exact this ⟨h115, h114, h113, h112, h111, h110, h109, h108, h107, h106, h105, h116⟩
  rw [e0]
  go_enter Tryd.func73, Tryd.ntmps73
  go_wp2_with fail
  go_ret
  exact ⟨rfl, rfl⟩
end Go.Proofs.YtfnfbioenngjoaaDoor
