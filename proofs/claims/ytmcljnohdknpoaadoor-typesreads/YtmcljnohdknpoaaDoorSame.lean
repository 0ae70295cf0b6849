/-
  The walks of Same, SameVals, sameFields, SameSub, SameRec at equal values; no statement is proved here.
-/
import Derived.Test.YtmcljnohdknpoaaDoorDRec
namespace Go.Proofs.YtmcljnohdknpoaaDoor
open Go.RowKit
set_option linter.unusedVariables false
set_option linter.unusedSimpArgs false
set_option linter.constructorNameAsVariable false

set_option maxRecDepth 100000 in
theorem same_any (x : VT) (w : World) :
    Calls Tryd.prog 13 #[x.v, x.v] w fun en w' => en = .returned (.bool true) ∧ Grew w w' := by
  obtain ⟨n, nul, h⟩ := x
  unfold VT.v vt
  have G : Hid (Grew w ((w.alloc (Obj.cells #[Value.int IntKind.i64 n, Value.bool nul, Value.int IntKind.i64 h] 23)).alloc (Obj.cells #[Value.int IntKind.i64 n, Value.bool nul, Value.int IntKind.i64 h] 23))) := ((Grew.refl w).alloc _).alloc _
  by_cases hn : n = 5
  · subst hn
    go_enter Tryd.func13, Tryd.ntmps13
    go_wp2_with fail
    go_ret
    exact ⟨rfl, G.out⟩
  · have hn' : (n != 5) = true := by simpa using hn
    go_enter Tryd.func13, Tryd.ntmps13
    go_wp2_with fail
    go_ret
    exact ⟨rfl, G.out⟩
theorem flat_at {α : Type} (f : α → List Value) (k : Nat) (hf : ∀ a, (f a).length = k) : ∀ (l : List α) (i : Nat) (x : α) (j : Nat), l[i]? = some x → j < k → (l.flatMap f)[i * k + j]? = (f x)[j]? := by
  intro l
  induction l with
  | nil => intro i x j h; simp at h
  | cons a l ih =>
    intro i x j h hj
    rw [List.flatMap_cons]
    cases i with
    | zero =>
      simp only [List.getElem?_cons_zero, Option.some.injEq] at h
      subst h
      rw [Nat.zero_mul, Nat.zero_add, List.getElem?_append_left (by rw [hf]; exact hj)]
    | succ i =>
      rw [List.getElem?_cons_succ] at h
      rw [List.getElem?_append_right (by rw [hf, Nat.succ_mul]; omega), hf, show (i + 1) * k + j - k = i * k + j by rw [Nat.succ_mul]; omega]
      exact ih i x j h hj
/- Where the element of a row lies. -/
theorem row_at {w : World} {B : Nat} {e : TypeId} {k : Nat} {v : Value} {n : Nat} {cs : List Value} (h : w.ownsRow B e k v n cs) (hn : 0 < n) : ∃ g c, v = .slice (some ⟨g, 0, none⟩) n c ∧ n ≤ c ∧ ∀ j, j < n * k → w.cell? ⟨g, j, none⟩ = cs[j]? := by
  have h0 := h
  obtain ⟨h1, ⟨_, h2⟩ | ⟨g, cap, cur, rfl, hB, hg, h3⟩⟩ := h
  · omega
  · exact ⟨g, cap, rfl, h3.1, fun j hj => h0.cellAt j hj⟩
theorem rowV_cell {w : World} {B g c n : Nat} {l : List VT} (h : RowV B w (.slice (some ⟨g, 0, none⟩) n c) l) (hn : n = l.length) {i : Nat} {x : VT} (hx : l[i]? = some x) : w.cell? ⟨g, i * 3, none⟩ = some (.int .i64 x.num) ∧ w.cell? ⟨g, i * 3 + 1, none⟩ = some (.bool x.null) ∧ w.cell? ⟨g, i * 3 + 2, none⟩ = some (.int .i64 x.heap) := by
  subst hn
  have hi : i < l.length := (List.getElem?_eq_some_iff.1 hx).1
  have e := flat_at VT.c 3 (fun _ => rfl) l i x
  have ha := fun j hj => World.ownsRow.cellAt h j hj
  refine ⟨?_, ?_, ?_⟩
  · rw [ha _ (by omega)]; exact e 0 hx (by omega)
  · rw [ha _ (by omega)]; exact e 1 hx (by omega)
  · rw [ha _ (by omega)]; exact e 2 hx (by omega)
theorem call_same (p q : Value) (w : World) : (callFunc 13 #[p, q]).run Tryd.prog w = .ok (.enter 13 #[p, q]) w := by kernel_rfl
theorem step_same {ops : Array Oper} {o : Oper} {a : Act} {w : World} {K : Act → World → Prop} {Q : Exit → Act → World → Prop} {E : Prop} (x y : Operand) (v : VT)
    (hop : o.op = .call { callee := .value (.func 13), args := #[x, y], argTypes := #[23, 23] }) (hw : Region.wanted o (yielded ops a.tmps) = true) (hx : a.eval x = v.v) (hy : a.eval y = v.v)
    (h : ∀ w', Grew w w' → K (a.put o.dst (.bool true)) w') :
    if Region.wanted o (yielded ops a.tmps) = true then Oper.wp Tryd.prog o a w K Q else E :=
  step_callF hop hw (args := #[v.v, v.v]) (by simp [hx, hy]) (call_same _ _ w) (same_any v w) (by rintro e w' ⟨rfl, g⟩; exact Or.inl ⟨_, rfl, h w' g⟩)
set_option maxRecDepth 100000 in
theorem sameVals_any {w : World} {B B' : Nat} {u v : Value} {l : List VT} (h1 : RowV B w u l) (h2 : RowV B' w v l) (hl : l.length ≤ 9223372036854775807) :
    Calls Tryd.prog 53 #[u, v] w fun en w' => en = .returned (.bool true) ∧ Grew w w' := by
  rcases Nat.eq_zero_or_pos l.length with h0 | h0
  · have hl0 := List.eq_nil_of_length_eq_zero h0
    subst hl0
    obtain ⟨ua, uc, hu⟩ := row_one h1
    obtain ⟨va, vc, hv⟩ := row_one h2
    subst hu
    subst hv
    clear h1 h2 hl h0
    simp only [List.length_nil]
    go_enter Tryd.func53, Tryd.ntmps53
    go_wp2_with fail
    go_loopw [5] (fun i_ w' => i_ = .int .i64 0 ∧ w' = w) (fun _ _ => 0)
    case atStart => exact ⟨rfl, rfl⟩
    case round =>
      obtain ⟨rfl, h⟩ := hrel
      obtain rfl := h.symm
      go_wp2_with fail
      go_ret
      exact ⟨rfl, Grew.refl _⟩
  · obtain ⟨ug, uc, hu, huc, _⟩ := row_at h1 h0
    obtain ⟨vg, vc, hv, hvc, _⟩ := row_at h2 h0
    subst hu
    subst hv
    have H1 : Hid (RowV B w (.slice (some ⟨ug, 0, none⟩) l.length uc) l) := h1
    have H2 : Hid (RowV B' w (.slice (some ⟨vg, 0, none⟩) l.length vc) l) := h2
    clear h1 h2
    go_enter Tryd.func53, Tryd.ntmps53
    go_wp2_with fail
    go_loopw [5] (fun i_ w' => ∃ i : Nat, i_ = .int .i64 i ∧ i ≤ l.length ∧ Hid (Grew w w')) (fun i_ _ => l.length - (intOf i_).toNat)
    case atStart => exact ⟨0, rfl, Nat.zero_le _, Grew.refl _⟩
    case round =>
      obtain ⟨i, rfl, hi, G⟩ := hrel
      obtain ⟨w0, hw0⟩ : ∃ w0, w0 = wr := ⟨_, rfl⟩
      rw [← hw0] at G ⊢
      clear hw0
      by_cases hlt : i < l.length
      · obtain ⟨x, hx⟩ : ∃ x, l[i]? = some x := ⟨_, List.getElem?_eq_getElem hlt⟩
        have d1 : decide ((i : Int) < (l.length : Int)) = true := by simp; omega
        have d2 : decide (i < l.length) = true := by simp; omega
        obtain ⟨p0, p1, p2⟩ := rowV_cell (H1.out.grow G.out) rfl hx
        obtain ⟨q0, q1, q2⟩ := rowV_cell (H2.out.grow G.out) rfl hx
        obtain ⟨n, nul, hp⟩ := x
        clear hx
        go_wp2_with fail
        go_region_law (first
          | (refine step_same (.tmp 20) (.tmp 24) ⟨n, nul, hp⟩ rfl (by simp [Region.wanted]) rfl rfl ?_
             intro w6 g6
             have G6 : Hid (Grew w w6) := G.out.trans (by first | exact g6 | exact ((Grew.refl _).drew).trans g6 | exact ((Grew.refl _).drewN _).trans g6)
             clear g6))
        all_goals
          go_wp2_with fail
          go_roundw
          case rel => exact ⟨i + 1, by go_num, by omega, G6.out⟩
          case measure => simp [intOf]; omega
      · have d1 : decide ((i : Int) < (l.length : Int)) = false := by simp; omega
        go_wp2_with fail
        go_ret
        exact ⟨rfl, G.out⟩
end Go.Proofs.YtmcljnohdknpoaaDoor
