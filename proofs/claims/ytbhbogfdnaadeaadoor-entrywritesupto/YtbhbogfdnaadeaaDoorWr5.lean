/-
  The writer: the walks of isWhole, compType, declared, subType, putList at types, recType; no statement is proved here.
-/
import Derived.Test.YtbhbogfdnaadeaaDoorWr4
namespace Go.Proofs.YtbhbogfdnaadeaaDoor
open Go.RowKit
set_option linter.unusedVariables false
set_option linter.unusedSimpArgs false
set_option linter.constructorNameAsVariable false

def wholeC (c : CT) : Bool := if c.kind = 1 then decide (c.fields = []) else if c.kind = 2 then decide (c.params = [] ∧ c.results = []) else if c.kind = 3 then decide (c.params = [] ∧ c.results = [] ∧ c.fields.length = 1) else false
def compW (c : CT) : Except Nat (List Int) := if wholeC c = true then
    (if c.kind = 1 then thenW (.ok [96]) (thenW (listW 1000 valW c.params) (listW 1000 valW c.results))
     else if c.kind = 2 then thenW (.ok [95]) (listW 10000 fieldW c.fields)
     else thenW (.ok [94]) (fieldW (c.fields.headD ⟨⟨0, false, 0⟩, false⟩)))
  else .error 4
def declW (x : SB) : Except Nat (List Int) := thenW (.ok [if x.final_ then 79 else 80]) (listW 1000 uidxW x.supers)
def subW (x : SB) : Except Nat (List Int) := if x.final_ = false ∨ 0 < x.supers.length then thenW (declW x) (compW x.comp) else compW x.comp
def recW (g : RT) : Except Nat (List Int) := if g.types.length = 1 then subW (g.types.headD ⟨false, [], ⟨0, [], [], []⟩⟩) else thenW (.ok [78]) (listW 10000 subW g.types)
/- The composite type's rows read as these lists. -/
def CompR (w : World) (x : CT) (pv rv fv : Value) : Prop := LV w pv x.params ∧ LV w rv x.results ∧ LF w fv x.fields
theorem CompR.grew {w w' : World} {x : CT} {pv rv fv : Value} (h : CompR w x pv rv fv) (g : Grew w w') : CompR w' x pv rv fv := ⟨h.1.grew g, h.2.1.grew g, h.2.2.grew g⟩
set_option maxRecDepth 100000 in
set_option maxHeartbeats 1000000 in
theorem isWhole_any (kd : Int) (ps rs : List VT) (fs : List FT) (pa ra fa : Option Addr) (pc rc fc : Nat) (w : World) (hp : ps.length ≤ 4611686018427387903) (hr : rs.length ≤ 4611686018427387903) :
    Calls Tryd.prog 120 #[.agg #[.int .i64 kd, .slice pa ps.length pc, .slice ra rs.length rc, .slice fa fs.length fc]] w fun en w' => en = .returned (.bool (wholeC ⟨kd, ps, rs, fs⟩)) ∧ Grew w w' := by
  have hsum : ((ps.length : Int) + (rs.length : Int) == 0) = decide (ps = [] ∧ rs = []) := by
    by_cases h1 : ps = []
    · subst h1
      by_cases h2 : rs = []
      · subst h2; simp
      · have : rs.length ≠ 0 := fun h => h2 (List.eq_nil_of_length_eq_zero h)
        simp [h2]
    · have : ps.length ≠ 0 := fun h => h1 (List.eq_nil_of_length_eq_zero h)
      simp [h1]
      omega
  have hf0 : ((fs.length : Int) == 0) = decide (fs = []) := by
    by_cases h1 : fs = []
    · subst h1; simp
    · have : fs.length ≠ 0 := fun h => h1 (List.eq_nil_of_length_eq_zero h)
      simp [h1]
  have hf1 : ((fs.length : Int) == 1) = decide (fs.length = 1) := by
    by_cases h1 : fs.length = 1
    · simp [h1]
    · simp [h1]; omega
  have hw1 : IntKind.i64.wrap ((ps.length : Int) + (rs.length : Int)) = (ps.length : Int) + (rs.length : Int) := by rw [IntKind.wrap_i64]; omega
  have G : Hid (Grew w (w.alloc (.cells #[.int .i64 kd, .slice pa ps.length pc, .slice ra rs.length rc, .slice fa fs.length fc] 99))) := (Grew.refl w).alloc _
  generalize hx0 : (ps.length : Int) + (rs.length : Int) = N at *
  unfold wholeC
  simp only
  by_cases h1 : kd = 1
  · rw [if_pos h1]
    have e1 : (kd == 1) = true := by simpa using h1
    generalize decide (fs = []) = d0 at *
    clear h1
    go_enter Tryd.func120, Tryd.ntmps120
    go_wp2_with fail
    go_ret
    exact ⟨by first | rfl | (simp [hf0]; done), G.out⟩
  · rw [if_neg h1]
    have e1 : (kd == 1) = false := by simpa using h1
    by_cases h2 : kd = 2
    · rw [if_pos h2]
      have e2 : (kd == 2) = true := by simpa using h2
      clear h1 h2
      go_enter Tryd.func120, Tryd.ntmps120
      go_wp2_with fail
      go_ret
      exact ⟨by first | rfl | (rw [hsum]; done) | (simp [hsum]; done), G.out⟩
    · rw [if_neg h2]
      have e2 : (kd == 2) = false := by simpa using h2
      by_cases h3 : kd = 3
      · rw [if_pos h3]
        have e3 : (kd == 3) = true := by simpa using h3
        clear h1 h2 h3
        by_cases hz : ps = [] ∧ rs = []
        · have z : (N == 0) = true := by rw [hsum]; simpa using hz
          have ez : decide (ps = [] ∧ rs = [] ∧ fs.length = 1) = decide (fs.length = 1) := by simp [hz.1, hz.2]
          rw [ez]
          generalize decide (fs.length = 1) = d1 at *
          clear hsum hz ez
          go_enter Tryd.func120, Tryd.ntmps120
          go_wp2_with fail
          go_ret
          exact ⟨by first | rfl | (simp [hf1]; done), G.out⟩
        · have z : (N == 0) = false := by rw [hsum]; simpa using hz
          have ez : decide (ps = [] ∧ rs = [] ∧ fs.length = 1) = false := by
            rw [decide_eq_false]
            rintro ⟨a, b, _⟩
            exact hz ⟨a, b⟩
          rw [ez]
          clear hsum hz ez
          go_enter Tryd.func120, Tryd.ntmps120
          go_wp2_with fail
          go_ret
          exact ⟨rfl, G.out⟩
      · rw [if_neg h3]
        have e3 : (kd == 3) = false := by simpa using h3
        clear h1 h2 h3
        go_enter Tryd.func120, Tryd.ntmps120
        go_wp2_with fail
        go_ret
        exact ⟨rfl, G.out⟩
end Go.Proofs.YtbhbogfdnaadeaaDoor
