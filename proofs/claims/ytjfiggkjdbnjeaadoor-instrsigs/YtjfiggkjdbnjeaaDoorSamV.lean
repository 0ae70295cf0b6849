/-
  Rows of value types, and that the document calls equal ones the same; no statement is proved here.
-/
import Derived.Test.YtjfiggkjdbnjeaaDoorPreW
import Derived.Deep.RegionLaw
namespace Go.Proofs.YtjfiggkjdbnjeaaDoor
open Go.RowKit
set_option linter.unusedVariables false
set_option linter.unusedSimpArgs false
set_option linter.constructorNameAsVariable false

structure VT where
  num : Int
  null : Bool
  heap : Int
def vt (n : Int) (nul : Bool) (h : Int) : Value := .agg #[.int .i64 n, .bool nul, .int .i64 h]
def VT.v (x : VT) : Value := vt x.num x.null x.heap
def VT.c (x : VT) : List Value := [.int .i64 x.num, .bool x.null, .int .i64 x.heap]
def RowV (B : Nat) (w : World) (v : Value) (l : List VT) : Prop := w.ownsRow B 27 3 v l.length (l.flatMap VT.c)
theorem RowV.grow {B : Nat} {w1 w2 : World} {v : Value} {l : List VT} (h : RowV B w1 v l) (g : Grew w1 w2) : RowV B w2 v l := row_turn h (g.turn []) (by simp)
theorem RowV.low {B B' : Nat} {w : World} {v : Value} {l : List VT} (h : RowV B w v l) (hb : B' ≤ B) : RowV B' w v l := row_low h hb
theorem rowV_cell {w : World} {B g c n : Nat} {l : List VT} (h : RowV B w (.slice (some ⟨g, 0, none⟩) n c) l) (hn : n = l.length) {i : Nat} {x : VT} (hx : l[i]? = some x) : w.cell? ⟨g, i * 3, none⟩ = some (.int .i64 x.num) ∧ w.cell? ⟨g, i * 3 + 1, none⟩ = some (.bool x.null) ∧ w.cell? ⟨g, i * 3 + 2, none⟩ = some (.int .i64 x.heap) := by
  subst hn
  have hi : i < l.length := (List.getElem?_eq_some_iff.1 hx).1
  have e := flat_at VT.c 3 (fun _ => rfl) l i x
  have ha := fun j hj => World.ownsRow.cellAt h j hj
  refine ⟨?_, ?_, ?_⟩
  · rw [ha _ (by omega)]; exact e 0 hx (by omega)
  · rw [ha _ (by omega)]; exact e 1 hx (by omega)
  · rw [ha _ (by omega)]; exact e 2 hx (by omega)
theorem step_callF {f : Nat} {args : Array Value} {argTs : Array TypeId} {argOs : Array Operand} {R : Ending → World → Prop} {ops : Array Oper} {o : Oper} {a : Act} {w : World} {K : Act → World → Prop} {Q : Exit → Act → World → Prop} {E : Prop}
    (hop : o.op = .call { callee := .value (.func f), args := argOs, argTypes := argTs }) (hw : Region.wanted o (yielded ops a.tmps) = true) (hargs : argOs.map a.eval = args) (hf : (callFunc f args).run Tryd.prog w = .ok (.enter f args) w)
    (hc : Calls Tryd.prog f args w R) (h : ∀ e w', R e w' → (∃ u, e = .returned u ∧ K (a.put o.dst u) w') ∨ ∃ ch, e = .panicked ch ∧ Q (.panic ch) a w') :
    if Region.wanted o (yielded ops a.tmps) = true then Oper.wp Tryd.prog o a w K Q else E := by
  rw [if_pos hw]
  unfold Oper.wp
  subst hargs
  simp [execOp, hop, resolve, invoke, go_sem, hf, Oper.upon_enter]
  refine hc.mono ?_
  intro e w' he
  rcases h e w' he with ⟨u, rfl, hk⟩ | ⟨ch, rfl, hk⟩
  · exact hk
  · exact hk
set_option maxRecDepth 100000 in
theorem same_any (x : VT) (w : World) :
    Calls Tryd.prog 45 #[x.v, x.v] w fun en w' => en = .returned (.bool true) ∧ Grew w w' := by
  obtain ⟨n, nul, h⟩ := x
  unfold VT.v vt
  have G : Hid (Grew w ((w.alloc (Obj.cells #[Value.int IntKind.i64 n, Value.bool nul, Value.int IntKind.i64 h] 27)).alloc (Obj.cells #[Value.int IntKind.i64 n, Value.bool nul, Value.int IntKind.i64 h] 27))) := ((Grew.refl w).alloc _).alloc _
  by_cases hn : n = 5
  · subst hn
    go_enter Tryd.func45, Tryd.ntmps45
    go_wp2_with fail
    go_ret
    exact ⟨rfl, G.out⟩
  · have hn' : (n != 5) = true := by simpa using hn
    go_enter Tryd.func45, Tryd.ntmps45
    go_wp2_with fail
    go_ret
    exact ⟨rfl, G.out⟩
theorem call_same (p q : Value) (w : World) : (callFunc 45 #[p, q]).run Tryd.prog w = .ok (.enter 45 #[p, q]) w := by kernel_rfl
theorem step_same {ops : Array Oper} {o : Oper} {a : Act} {w : World} {K : Act → World → Prop} {Q : Exit → Act → World → Prop} {E : Prop} (x y : Operand) (v : VT)
    (hop : o.op = .call { callee := .value (.func 45), args := #[x, y], argTypes := #[27, 27] }) (hw : Region.wanted o (yielded ops a.tmps) = true) (hx : a.eval x = v.v) (hy : a.eval y = v.v)
    (h : ∀ w', Grew w w' → K (a.put o.dst (.bool true)) w') :
    if Region.wanted o (yielded ops a.tmps) = true then Oper.wp Tryd.prog o a w K Q else E :=
  step_callF hop hw (args := #[v.v, v.v]) (by simp [hx, hy]) (call_same _ _ w) (same_any v w) (by rintro e w' ⟨rfl, g⟩; exact Or.inl ⟨_, rfl, h w' g⟩)
set_option maxRecDepth 100000 in
theorem sameVals_any {w : World} {B B' : Nat} {u v : Value} {l : List VT} (h1 : RowV B w u l) (h2 : RowV B' w v l) (hl : l.length ≤ 9223372036854775807) :
    Calls Tryd.prog 13 #[u, v] w fun en w' => en = .returned (.bool true) ∧ Grew w w' := by
  rcases Nat.eq_zero_or_pos l.length with h0 | h0
  · have hl0 := List.eq_nil_of_length_eq_zero h0
    subst hl0
    obtain ⟨ua, uc, hu⟩ := row_one h1
    obtain ⟨va, vc, hv⟩ := row_one h2
    subst hu
    subst hv
    clear h1 h2 hl h0
    simp only [List.length_nil]
    go_enter Tryd.func13, Tryd.ntmps13
    go_wp2_with fail
    go_loopw [5] (fun i_ w' => i_ = .int .i64 0 ∧ w' = w) (fun _ _ => 0)
    case atStart => exact ⟨rfl, rfl⟩
    case round =>
      obtain ⟨rfl, h⟩ := hrel
      obtain rfl := h.symm
      go_wp2_with fail
      go_ret
      exact ⟨rfl, Grew.refl _⟩
  · obtain ⟨ug, uc, hu, huc, _⟩ := row_at h1 h0
    obtain ⟨vg, vc, hv, hvc, _⟩ := row_at h2 h0
    subst hu
    subst hv
    have H1 : Hid (RowV B w (.slice (some ⟨ug, 0, none⟩) l.length uc) l) := h1
    have H2 : Hid (RowV B' w (.slice (some ⟨vg, 0, none⟩) l.length vc) l) := h2
    clear h1 h2
    go_enter Tryd.func13, Tryd.ntmps13
    go_wp2_with fail
    go_loopw [5] (fun i_ w' => ∃ i : Nat, i_ = .int .i64 i ∧ i ≤ l.length ∧ Hid (Grew w w')) (fun i_ _ => l.length - (intOf i_).toNat)
    case atStart => exact ⟨0, rfl, Nat.zero_le _, Grew.refl _⟩
    case round =>
      obtain ⟨i, rfl, hi, G⟩ := hrel
      obtain ⟨w0, hw0⟩ : ∃ w0, w0 = wr := ⟨_, rfl⟩
      rw [← hw0] at G ⊢
      clear hw0
      by_cases hlt : i < l.length
      · obtain ⟨x, hx⟩ : ∃ x, l[i]? = some x := ⟨_, List.getElem?_eq_getElem hlt⟩
        have d1 : decide ((i : Int) < (l.length : Int)) = true := by simp; omega
        have d2 : decide (i < l.length) = true := by simp; omega
        obtain ⟨p0, p1, p2⟩ := rowV_cell (H1.out.grow G.out) rfl hx
        obtain ⟨q0, q1, q2⟩ := rowV_cell (H2.out.grow G.out) rfl hx
        obtain ⟨n, nul, hp⟩ := x
        clear hx
        go_wp2_with fail
        go_region_law (first
          | (refine step_same (.tmp 20) (.tmp 24) ⟨n, nul, hp⟩ rfl (by simp [Region.wanted]) rfl rfl ?_
             intro w6 g6
             have G6 : Hid (Grew w w6) := G.out.trans (by first | exact g6 | exact ((Grew.refl _).drew).trans g6 | exact ((Grew.refl _).drewN _).trans g6)
             clear g6))
        all_goals
          go_wp2_with fail
          go_roundw
          case rel => exact ⟨i + 1, by go_num, by omega, G6.out⟩
          case measure => simp [intOf]; omega
      · have d1 : decide ((i : Int) < (l.length : Int)) = false := by simp; omega
        go_wp2_with fail
        go_ret
        exact ⟨rfl, G.out⟩
end Go.Proofs.YtjfiggkjdbnjeaaDoor
