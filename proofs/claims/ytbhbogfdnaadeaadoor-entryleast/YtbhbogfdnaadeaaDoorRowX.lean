/-
  Rows at a place; a call inside a region that draws; no statement is proved here.
-/
import Derived.Test.YtbhbogfdnaadeaaDoorLs8
import Derived.Test.YtbhbogfdnaadeaaDoorGrpS
import Derived.Test.YtbhbogfdnaadeaaDoorCkW
import Derived.Deep.RegionLaw
namespace Go.Proofs.YtbhbogfdnaadeaaDoor
open Go.RowKit
set_option linter.unusedVariables false
set_option linter.unusedSimpArgs false
set_option linter.constructorNameAsVariable false

theorem row_at {w : World} {B : Nat} {e : TypeId} {k : Nat} {v : Value} {n : Nat} {cs : List Value} (h : w.ownsRow B e k v n cs) (hn : 0 < n) : ∃ g c, v = .slice (some ⟨g, 0, none⟩) n c ∧ n ≤ c ∧ ∀ j, j < n * k → w.cell? ⟨g, j, none⟩ = cs[j]? := by
  have h0 := h
  obtain ⟨h1, ⟨_, h2⟩ | ⟨g, cap, cur, rfl, hB, hg, h3⟩⟩ := h
  · omega
  · exact ⟨g, cap, rfl, h3.1, fun j hj => h0.cellAt j hj⟩
theorem row_max {w : World} {B : Nat} {e : TypeId} {k : Nat} {v : Value} {n : Nat} {cs : List Value} (h : w.ownsRow B e k v n cs) : n ≤ 9223372036854775807 := by
  obtain ⟨h1, ⟨_, h2⟩ | ⟨g, cap, cur, rfl, hB, hg, h3⟩⟩ := h
  · omega
  · have := h3.1
    have := h3.2.1
    unfold maxLen at this
    omega
theorem step_callF {f : Nat} {args : Array Value} {argTs : Array TypeId} {argOs : Array Operand} {R : Ending → World → Prop} {ops : Array Oper} {o : Oper} {a : Act} {w : World} {K : Act → World → Prop} {Q : Exit → Act → World → Prop} {E : Prop}
    (hop : o.op = .call { callee := .value (.func f), args := argOs, argTypes := argTs }) (hw : Region.wanted o (yielded ops a.tmps) = true) (hargs : argOs.map a.eval = args) (hf : (callFunc f args).run Tryd.prog w = .ok (.enter f args) w)
    (hc : Calls Tryd.prog f args w R) (h : ∀ e w', R e w' → (∃ u, e = .returned u ∧ K (a.put o.dst u) w') ∨ ∃ ch, e = .panicked ch ∧ Q (.panic ch) a w') :
    if Region.wanted o (yielded ops a.tmps) = true then Oper.wp Tryd.prog o a w K Q else E := by
  rw [if_pos hw]
  unfold Oper.wp
  subst hargs
  simp [execOp, hop, resolve, invoke, go_sem, hf, Oper.upon_enter]
  refine hc.mono ?_
  intro e w' he
  rcases h e w' he with ⟨u, rfl, hk⟩ | ⟨ch, rfl, hk⟩
  · exact hk
  · exact hk
theorem rowV_cell {w : World} {B g c n : Nat} {l : List VT} (h : RowV B w (.slice (some ⟨g, 0, none⟩) n c) l) (hn : n = l.length) {i : Nat} {x : VT} (hx : l[i]? = some x) : w.cell? ⟨g, i * 3, none⟩ = some (.int .i64 x.num) ∧ w.cell? ⟨g, i * 3 + 1, none⟩ = some (.bool x.null) ∧ w.cell? ⟨g, i * 3 + 2, none⟩ = some (.int .i64 x.heap) := by
  subst hn
  have hi : i < l.length := (List.getElem?_eq_some_iff.1 hx).1
  have e := flat_at VT.c 3 (fun _ => rfl) l i x
  have ha := fun j hj => World.ownsRow.cellAt h j hj
  refine ⟨?_, ?_, ?_⟩
  · rw [ha _ (by omega)]; exact e 0 hx (by omega)
  · rw [ha _ (by omega)]; exact e 1 hx (by omega)
  · rw [ha _ (by omega)]; exact e 2 hx (by omega)
theorem RowF.grow {B : Nat} {w1 w2 : World} {v : Value} {l : List FT} (h : RowF B w1 v l) (g : Grew w1 w2) : RowF B w2 v l := h.turn (g.turn []) (by simp)
end Go.Proofs.YtbhbogfdnaadeaaDoor
