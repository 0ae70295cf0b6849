/-
  The document's fine; no statement is proved here.
-/
import Derived.Test.YtahmjgmaaaegcaaGreatDoorDHps
namespace Go.Proofs.YtahmjgmaaaegcaaGreatDoor
open Go.RowKit
set_option linter.unusedVariables false
set_option linter.unusedSimpArgs false

def okS (e h : Int) : Bool := decide (0 ≤ h) && decide (h < e)
def okA (e h : Int) : Bool := decide (h < e) && decide (-12 ≤ h)
def fineB (x : SB) (e : Int) : Bool := x.supers.all (okS e) && (allL x).all (okA e)
theorem allL_len {x : SB} (h : Sml x) : (allL x).length ≤ 4194304 := by
  obtain ⟨h1, h2, h3, h4⟩ := h
  have q1 := heapsL_len x.comp.params
  have q2 := heapsL_len x.comp.results
  have q3 := heapsL_len (x.comp.fields.map FT.ty)
  rw [List.length_map] at q3
  unfold allL
  rw [List.length_append, List.length_append, List.length_append]
  omega
theorem all_bad {α : Type} {l : List α} {P : α → Bool} {i : Nat} {x : α} (h : l[i]? = some x) (hx : P x = false) : l.all P = false := by
  have hm : x ∈ l := List.mem_of_getElem? h
  cases hb : l.all P with
  | false => rfl
  | true => have := List.all_eq_true.1 hb x hm; rw [hx] at this; cases this
theorem all_good {α : Type} {l : List α} {P : α → Bool} (h : ∀ j y, j < l.length → l[j]? = some y → P y = true) : l.all P = true := by
  rw [List.all_eq_true]
  intro y hy
  obtain ⟨j, hj⟩ := List.getElem?_of_mem hy
  exact h j y (List.getElem?_eq_some_iff.1 hj).1 hj
end Go.Proofs.YtahmjgmaaaegcaaGreatDoor
