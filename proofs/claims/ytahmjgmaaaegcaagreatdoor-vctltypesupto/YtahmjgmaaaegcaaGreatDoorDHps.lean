/-
  The document's heaps, All; no statement is proved here.
-/
import Derived.Test.YtahmjgmaaaegcaaGreatDoorTy
namespace Go.Proofs.YtahmjgmaaaegcaaGreatDoor
open Go.RowKit
set_option linter.unusedVariables false
set_option linter.unusedSimpArgs false

def heapsL (l : List VT) : List Int := l.filterMap fun x => if x.num = 5 then some x.heap else none
theorem heapsL_len (l : List VT) : (heapsL l).length ≤ l.length := List.length_filterMap_le _ _
theorem take_snoc {α : Type} {l : List α} {i : Nat} {x : α} (h : l[i]? = some x) : l.take (i + 1) = l.take i ++ [x] := by
  rw [List.take_add_one, h]; rfl
theorem heapsL_yes {l : List VT} {i : Nat} {x : VT} (h : l[i]? = some x) (hx : x.num = 5) : heapsL (l.take (i + 1)) = heapsL (l.take i) ++ [x.heap] := by
  rw [take_snoc h]; unfold heapsL; rw [List.filterMap_append]; simp [hx]
theorem heapsL_no {l : List VT} {i : Nat} {x : VT} (h : l[i]? = some x) (hx : ¬ x.num = 5) : heapsL (l.take (i + 1)) = heapsL (l.take i) := by
  rw [take_snoc h]; unfold heapsL; rw [List.filterMap_append]; simp [hx]
def allL (x : SB) : List Int := x.supers ++ heapsL x.comp.params ++ heapsL x.comp.results ++ heapsL (x.comp.fields.map FT.ty)
/- No list is too long. -/
def Sml (x : SB) : Prop := x.supers.length ≤ 1048576 ∧ x.comp.params.length ≤ 1048576 ∧ x.comp.results.length ≤ 1048576 ∧ x.comp.fields.length ≤ 1048576
theorem RowI.app {B : Nat} {w : World} {v : Value} {l m : List Int} (h : w.ownsRow B 3 1 v (l.length + m.length) (l.flatMap ic1 ++ m.flatMap ic1)) : RowI B w v (l ++ m) := by
  unfold RowI
  rw [List.length_append, List.flatMap_append]
  exact h
theorem RowI.app' {B : Nat} {w : World} {v : Value} {l m k : List Int} (h : w.ownsRow B 3 1 v (l.length + m.length) (l.flatMap ic1 ++ m.flatMap ic1)) (hk : k = l ++ m) : RowI B w v k := by
  subst hk; exact RowI.app h
theorem app_len {l m k : List Int} {a b c : Nat} (hk : k = l ++ m) (ha : l.length ≤ a) (hb : m.length ≤ b) (hc : a + b ≤ c) : k.length ≤ c := by
  subst hk; rw [List.length_append]; omega
theorem ei_cells {w : World} (b o : Nat) (y : Int) (h : EI w b o y) (j : Nat) (hj : j < 1) : w.cell? ⟨b, o + j, none⟩ = (ic1 y)[j]? := by
  obtain rfl : j = 0 := by omega
  exact h
theorem one_i (y : Int) : ∀ c ∈ ic1 y, c.oneCell' = true := by simp [ic1, Value.oneCell']
theorem heapsF_snoc {l : List FT} {i : Nat} {x : FT} (h : l[i]? = some x) : heapsL ((l.take (i + 1)).map FT.ty) = heapsL ((l.take i).map FT.ty) ++ heapsL [x.ty] := by
  rw [take_snoc h, List.map_append]; unfold heapsL; rw [List.filterMap_append]; rfl
theorem lv_one (w : World) (x : VT) : LV (w.alloc (.cells #[.int .i64 x.num, .bool x.null, .int .i64 x.heap] 29)) (.slice (some ⟨w.heap.size, 0, none⟩) 1 1) [x] := by
  refine ⟨_, 1, rfl, Nat.le_refl _, by decide, (fun h => by cases h), Or.inr ⟨_, 0, rfl, fun i y hy => ?_⟩⟩
  obtain rfl : i = 0 := by
    have := (List.getElem?_eq_some_iff.1 hy).1
    simp at this; omega
  simp only [List.getElem?_cons_zero, Option.some.injEq] at hy
  subst hy
  have h := heap_alloc_last w (.cells #[.int .i64 x.num, .bool x.null, .int .i64 x.heap] 29)
  exact ⟨cell_of h 0, cell_of h 1, cell_of h 2⟩
end Go.Proofs.YtahmjgmaaaegcaaGreatDoor
