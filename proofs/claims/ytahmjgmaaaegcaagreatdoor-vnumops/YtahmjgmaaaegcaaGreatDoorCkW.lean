/-
  Regions that draw their order and whose calls only lay new memory, any cells being held: one walk in the text's order serves; no statement is proved here.
-/
import Derived.Test.YtahmjgmaaaegcaaGreatDoorWorld
import Derived.BigQuiet
namespace Go.Proofs.YtahmjgmaaaegcaaGreatDoor
open Go.RowKit
set_option linter.unusedVariables false
set_option linter.unusedSimpArgs false

/- The cells (block, place, value) lie in blocks of W and are so in w'. -/
def Held (W w' : World) : List (Nat × Nat × Value) → Prop
  | [] => True
  | (b, j, v) :: l => (b < W.heap.size ∧ w'.cell? ⟨b, j, none⟩ = some v) ∧ Held W w' l
theorem Held.step {W w' w'' : World} (g0 : Grew W w') (g : Grew w' w'') : ∀ {l : List (Nat × Nat × Value)}, Held W w' l → Held W w'' l
  | [], _ => trivial
  | (b, j, v) :: l, ⟨⟨hb, hc⟩, h⟩ => ⟨⟨hb, by rw [g.1.cell (Nat.lt_of_lt_of_le hb g0.2)]; exact hc⟩, Held.step g0 g h⟩
def Ck (W : World) (l : List (Nat × Nat × Value)) (w' : World) : Prop := Grew W w' ∧ Held W w' l
theorem Ck.step {W : World} {l : List (Nat × Nat × Value)} {w' w'' : World} (h : Ck W l w') (g : Grew w' w'') : Ck W l w'' := ⟨h.1.trans g, Held.step h.1 g h.2⟩
theorem Ck.call {P : Program} {f : FuncId} {args : Array Value} {W : World} {l : List (Nat × Nat × Value)} {v : Value} {w' : World} (hc : Ck W l w')
    (h : Calls P f args w' fun e w'' => e = .returned v ∧ Grew w' w'') : Calls P f args w' fun e w'' => e = .returned v ∧ Ck W l w'' :=
  h.mono fun _ _ ⟨he, hg⟩ => ⟨he, hc.step hg⟩
theorem Ck.same {P : Program} {f : FuncId} {args : Array Value} {W : World} {l : List (Nat × Nat × Value)} {v : Value} {w' : World} (hc : Ck W l w')
    (h : Calls P f args w' fun e w'' => e = .returned v ∧ w'' = w') : Calls P f args w' fun e w'' => e = .returned v ∧ Ck W l w'' :=
  h.mono fun _ _ ⟨he, hg⟩ => ⟨he, by rw [hg]; exact hc⟩
theorem Held.drew {W : World} : ∀ {l : List (Nat × Nat × Value)}, Held W W l → Held W { W with drawn := W.drawn + 1 } l
  | [], _ => trivial
  | (b, j, v) :: l, ⟨⟨hb, hc⟩, h⟩ => ⟨⟨hb, hc⟩, Held.drew h⟩
theorem wp_region_ck {P : Program} {id : Nat} {Q : Exit → Act → World → Prop} {a : Act} {w : World} {l : List Oper} (c : List (Nat × Nat × Value)) (hm : P.follows .mixedOrders = true) (hB : Region.lexB .any l.toArray = true)
    (hc : Held w w c) (h : wpQuiet P l.toArray (Ck w c) (fun a' => ∀ w', Ck w c w' → Q .normal a' w') l a) : (Code.region id l.toArray true).wp P Q a w :=
  wp_region_quiet (C := Ck w c) hm hB ⟨(Grew.refl w).drew, hc.drew⟩ (by simpa using h)
end Go.Proofs.YtahmjgmaaaegcaaGreatDoor
