/-
  What a datum of limits gives; no statement is proved here.
-/
import Derived.Test.YtahmjgmaaaegcaaGreatDoorRows
import Derived.Deep.Slices
import Derived.Deep.Strs
import Derived.ChangeSame
import Derived.SizedLaws
import Derived.ChangeMaps5
namespace Go.Proofs.YtahmjgmaaaegcaaGreatDoor
open Go.ChangeShapes Go.WideShapes Go.Deep
set_option linter.unusedVariables false
set_option linter.unusedSimpArgs false

theorem cells_u64v : Tryz.prog.cellsOf 22 = 1 := by kernel_rfl
theorem cells_boolv : Tryz.prog.cellsOf 4 = 1 := by kernel_rfl
section
variable {H : Type} {enc : TypeId × Value → H} {w : World} {base : Nat} {held : Bool}
set_option maxRecDepth 100000 in
theorem open_LM {fuel : Nat} {cs : List Value} {x : DataW H × List MemPlace} (h : DataW.trod enc Tryz.prog w base (fun _ => true) held fuel 24 cs = some x) (hl : cs.length = 4) : ∃ wide mn mx hm, cs = [.bool wide, .int .u64 mn, .int .u64 mx, .bool hm] := by
  obtain ⟨xs, m', _, rfl, _, hxl, hf⟩ := DataW.trod_struct Tryz.underlying24 h
  match cs, hl with
  | [c0, c1, c2, c3], _ =>
    match xs, hxl with
    | [z0, z1, z2, z3], _ =>
      have g0 := hf 0 _ rfl
      have g1 := hf 1 _ rfl
      have g2 := hf 2 _ rfl
      have g3 := hf 3 _ rfl
      simp only [List.getElem_toArray, List.getElem_cons_zero, List.getElem_cons_succ, cells_boolv, cells_u64v, List.drop, List.take, List.getElem?_cons_zero, List.getElem?_cons_succ] at g0 g1 g2 g3
      obtain ⟨a, e0, _⟩ := DataW.trod_bool Tryz.underlying4 g0
      obtain ⟨b, e1, _, wb⟩ := DataW.trod_int Tryz.underlying22 g1
      obtain ⟨c, e2, _, wc⟩ := DataW.trod_int Tryz.underlying22 g2
      obtain ⟨d, e3, _⟩ := DataW.trod_bool Tryz.underlying4 g3
      simp only [List.cons.injEq, and_true] at e0 e1 e2 e3
      subst e0 e1 e2 e3
      exact ⟨a, b, c, d, rfl⟩
end
end Go.Proofs.YtahmjgmaaaegcaaGreatDoor
