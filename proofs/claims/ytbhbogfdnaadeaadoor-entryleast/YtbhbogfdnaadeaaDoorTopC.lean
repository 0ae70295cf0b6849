/-
  The walks of readAt at composite types, types and groups, and of the calls over them; no statement is proved here.
-/
import Derived.Test.YtbhbogfdnaadeaaDoorGrpS
import Derived.Test.YtbhbogfdnaadeaaDoorTopV
namespace Go.Proofs.YtbhbogfdnaadeaaDoor
open Go.RowKit
set_option linter.unusedVariables false
set_option linter.unusedSimpArgs false
set_option linter.constructorNameAsVariable false

/- Rows that lie from B on stay where only blocks below B turn. -/
theorem row_turnB {w w' : World} {B : Nat} {e : TypeId} {k : Nat} {v : Value} {n : Nat} {cs : List Value} {S : List Nat} (h : w.ownsRow B e k v n cs) (t : Turn S w w') (hS : ∀ x ∈ S, x < B) : w'.ownsRow B e k v n cs := by
  obtain ⟨h1, h2 | ⟨g, cap, cur, hv, hB, hg, h3⟩⟩ := h
  · exact ⟨h1, Or.inl h2⟩
  · exact ⟨h1, Or.inr ⟨g, cap, cur, hv, hB, t.other hg (fun hx => by have := hS g hx; omega), h3⟩⟩
theorem CompC.turnB {B : Nat} {w w' : World} {cs : List Value} {x : CT} {S : List Nat} (h : CompC B w cs x) (t : Turn S w w') (hS : ∀ x ∈ S, x < B) : CompC B w' cs x := by
  obtain ⟨pv, rv, fv, e, a2, a3, a4⟩ := h
  exact ⟨pv, rv, fv, e, row_turnB a2 t hS, row_turnB a3 t hS, row_turnB a4 t hS⟩
theorem SubC.turnB {B : Nat} {w w' : World} {cs : List Value} {x : SB} {S : List Nat} (h : SubC B w cs x) (t : Turn S w w') (hS : ∀ x ∈ S, x < B) : SubC B w' cs x := by
  obtain ⟨sv, pv, rv, fv, e, a1, a2, a3, a4⟩ := h
  exact ⟨sv, pv, rv, fv, e, row_turnB a1 t hS, row_turnB a2 t hS, row_turnB a3 t hS, row_turnB a4 t hS⟩
theorem RecC.turnB {B : Nat} {w w' : World} {cs : List Value} {x : RT} {S : List Nat} (h : RecC B w cs x) (t : Turn S w w') (hS : ∀ x ∈ S, x < B) : RecC B w' cs x := by
  obtain ⟨tv, e, ds, a, b⟩ := h
  exact ⟨tv, e, ds, row_turnB a t hS, fun i x hx => (b i x hx).turnB t hS⟩
theorem RecC.low {B B' : Nat} {w : World} {cs : List Value} {x : RT} (h : RecC B w cs x) (hb : B' ≤ B) : RecC B' w cs x := by
  obtain ⟨tv, e, a⟩ := h
  exact ⟨tv, e, a.low hb⟩
end Go.Proofs.YtbhbogfdnaadeaaDoor
