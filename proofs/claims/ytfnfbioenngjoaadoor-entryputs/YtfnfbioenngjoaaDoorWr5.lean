/-
  The writer: the walks of isWhole, compType, declared, subType, putList at types, recType; no statement is proved here.
-/
import Derived.Test.YtfnfbioenngjoaaDoorWr4
namespace Go.Proofs.YtfnfbioenngjoaaDoor
open Go.RowKit
set_option linter.unusedVariables false
set_option linter.unusedSimpArgs false
set_option linter.constructorNameAsVariable false

def wholeC (c : CT) : Bool := if c.kind = 1 then decide (c.fields = []) else if c.kind = 2 then decide (c.params = [] ∧ c.results = []) else if c.kind = 3 then decide (c.params = [] ∧ c.results = [] ∧ c.fields.length = 1) else false
def compW (c : CT) : Except Nat (List Int) := if wholeC c = true then
    (if c.kind = 1 then thenW (.ok [96]) (thenW (listW 1000 valW c.params) (listW 1000 valW c.results))
     else if c.kind = 2 then thenW (.ok [95]) (listW 10000 fieldW c.fields)
     else thenW (.ok [94]) (fieldW (c.fields.headD ⟨⟨0, false, 0⟩, false⟩)))
  else .error 4
def declW (x : SB) : Except Nat (List Int) := thenW (.ok [if x.final_ then 79 else 80]) (listW 1000 uidxW x.supers)
def subW (x : SB) : Except Nat (List Int) := if x.final_ = false ∨ 0 < x.supers.length then thenW (declW x) (compW x.comp) else compW x.comp
def recW (g : RT) : Except Nat (List Int) := if g.types.length = 1 then subW (g.types.headD ⟨false, [], ⟨0, [], [], []⟩⟩) else thenW (.ok [78]) (listW 10000 subW g.types)
/- The composite type's rows read as these lists. -/
def CompR (w : World) (x : CT) (pv rv fv : Value) : Prop := LV w pv x.params ∧ LV w rv x.results ∧ LF w fv x.fields
theorem CompR.grew {w w' : World} {x : CT} {pv rv fv : Value} (h : CompR w x pv rv fv) (g : Grew w w') : CompR w' x pv rv fv := ⟨h.1.grew g, h.2.1.grew g, h.2.2.grew g⟩
end Go.Proofs.YtfnfbioenngjoaaDoor
