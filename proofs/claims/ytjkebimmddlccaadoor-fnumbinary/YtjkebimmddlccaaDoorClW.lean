/-
  Regions that draw their order and whose calls only lay new memory: one walk in the text's order serves; no statement is proved here.
-/
import Derived.Test.YtjkebimmddlccaaDoorWorld
import Derived.Deep.QuietTactic
import Derived.BigQuiet
namespace Go.Proofs.YtjkebimmddlccaaDoor
open Go.RowKit
set_option linter.unusedVariables false
set_option linter.unusedSimpArgs false

/- A world that has grown out of W; the two cells of the block B are as they were. -/
def Cl (W : World) (B : Nat) (c0 c1 : Value) (w' : World) : Prop := B < W.heap.size ∧ Grew W w' ∧ w'.cell? ⟨B, 0, none⟩ = some c0 ∧ w'.cell? ⟨B, 1, none⟩ = some c1
theorem Cl.step {W : World} {B : Nat} {c0 c1 : Value} {w' w'' : World} (h : Cl W B c0 c1 w') (g : Grew w' w'') : Cl W B c0 c1 w'' := by
  obtain ⟨hB, g0, h0, h1⟩ := h
  have hl : B < w'.heap.size := Nat.lt_of_lt_of_le hB g0.2
  exact ⟨hB, g0.trans g, by rw [g.1.cell hl]; exact h0, by rw [g.1.cell hl]; exact h1⟩
theorem Cl.start {W : World} {B : Nat} {c0 c1 : Value} (hB : B < W.heap.size) (h0 : W.cell? ⟨B, 0, none⟩ = some c0) (h1 : W.cell? ⟨B, 1, none⟩ = some c1) : Cl W B c0 c1 { W with drawn := W.drawn + 1 } :=
  ⟨hB, (Grew.refl W).drew, h0, h1⟩
theorem Cl.call {P : Program} {f : FuncId} {args : Array Value} {W : World} {B : Nat} {c0 c1 v : Value} {w' : World} (hc : Cl W B c0 c1 w')
    (h : Calls P f args w' fun e w'' => e = .returned v ∧ Grew w' w'') : Calls P f args w' fun e w'' => e = .returned v ∧ Cl W B c0 c1 w'' :=
  h.mono fun _ _ ⟨he, hg⟩ => ⟨he, hc.step hg⟩
theorem Cl.same {P : Program} {f : FuncId} {args : Array Value} {W : World} {B : Nat} {c0 c1 v : Value} {w' : World} (hc : Cl W B c0 c1 w')
    (h : Calls P f args w' fun e w'' => e = .returned v ∧ w'' = w') : Calls P f args w' fun e w'' => e = .returned v ∧ Cl W B c0 c1 w'' :=
  h.mono fun _ _ ⟨he, hg⟩ => ⟨he, by rw [hg]; exact hc⟩
theorem wp_region_cl {P : Program} {id : Nat} {Q : Exit → Act → World → Prop} {a : Act} {w : World} {l : List Oper} {B : Nat} {c0 c1 : Value} (hm : P.follows .mixedOrders = true) (hB : Region.lexB .any l.toArray = true)
    (hb : B < w.heap.size) (h0 : w.cell? ⟨B, 0, none⟩ = some c0) (h1 : w.cell? ⟨B, 1, none⟩ = some c1)
    (h : wpQuiet P l.toArray (Cl w B c0 c1) (fun a' => ∀ w', Cl w B c0 c1 w' → Q .normal a' w') l a) : (Code.region id l.toArray true).wp P Q a w :=
  wp_region_quiet (C := Cl w B c0 c1) hm hB (Cl.start hb h0 h1) (by simpa using h)
theorem q_yes {P : Program} {ops : Array Oper} {C : World → Prop} {Q : Act → Prop} {a : Act} {o : Oper} {rest : List Oper} (v : Value) (hw : Region.wanted o (yielded ops a.tmps) = true)
    (h : ∀ w, C w → o.quietAt P a C w v) (hk : wpQuiet P ops C Q rest (a.put o.dst v)) : wpQuiet P ops C Q (o :: rest) a := by
  show if Region.wanted o (yielded ops a.tmps) then o.quiet P a C (wpQuiet P ops C Q rest) else wpQuiet P ops C Q rest (a.put o.dst undef)
  rw [if_pos hw]
  exact ⟨v, h, hk⟩
theorem q_no {P : Program} {ops : Array Oper} {C : World → Prop} {Q : Act → Prop} {a : Act} {o : Oper} {rest : List Oper} (hw : Region.wanted o (yielded ops a.tmps) = false)
    (hk : wpQuiet P ops C Q rest (a.put o.dst undef)) : wpQuiet P ops C Q (o :: rest) a := by
  show if Region.wanted o (yielded ops a.tmps) then o.quiet P a C (wpQuiet P ops C Q rest) else wpQuiet P ops C Q rest (a.put o.dst undef)
  rw [if_neg (by rw [hw]; decide)]
  exact hk
/- The same, what follows behind a variable. -/
theorem q_yes' {P : Program} {ops : Array Oper} {C : World → Prop} {Q : Act → Prop} {a : Act} {o : Oper} {rest : List Oper} (v : Value) (hw : Region.wanted o (yielded ops a.tmps) = true)
    (h : ∀ w, C w → o.quietAt P a C w v) (hk : ∀ K : Act → Prop, (∀ a, wpQuiet P ops C Q rest a → K a) → K (a.put o.dst v)) : wpQuiet P ops C Q (o :: rest) a :=
  q_yes v hw h (hk _ (fun _ h => h))
theorem q_no' {P : Program} {ops : Array Oper} {C : World → Prop} {Q : Act → Prop} {a : Act} {o : Oper} {rest : List Oper} (hw : Region.wanted o (yielded ops a.tmps) = false)
    (hk : ∀ K : Act → Prop, (∀ a, wpQuiet P ops C Q rest a → K a) → K (a.put o.dst undef)) : wpQuiet P ops C Q (o :: rest) a :=
  q_no hw (hk _ (fun _ h => h))
end Go.Proofs.YtjkebimmddlccaaDoor
