/-
  Lists of types and of groups as cells; no statement is proved here.
-/
import Derived.Test.YtkghplkmfpnhdaaGreatDoorCpC
namespace Go.Proofs.YtkghplkmfpnhdaaGreatDoor
open Go.RowKit
set_option linter.unusedVariables false
set_option linter.unusedSimpArgs false

theorem lst_rawP {α : Type} {k : Nat} {E : World → Nat → Nat → α → Prop} (P : α → List Value → Prop) (hk : 0 < k) {w : World} {v : Value} {l : List α} (h : Lst k E w v l)
    (hE : ∀ b o x, E w b o x → ∃ c : List Value, c.length = k ∧ (∀ u ∈ c, u.oneCell' = true) ∧ (∀ j, j < k → w.cell? ⟨b, o + j, none⟩ = c[j]?) ∧ P x c) :
    ∃ f : Nat → List Value, (∀ i, (f i).length = k) ∧ Raw k w v l.length ((List.range l.length).flatMap f) ∧ ∀ i x, l[i]? = some x → P x (f i) := by
  obtain ⟨a, cap, hv, hl, hm, hz, h3⟩ := h
  rcases h3 with rfl | ⟨b, off, ha, hc⟩
  · refine ⟨fun _ => List.replicate k (.int .i64 0), fun _ => by simp, ⟨by simp, by simp, a, cap, hv, hl, hm, hz, Or.inl rfl⟩, fun i x hx => by simp at hx⟩
  · have ex : ∀ i, ∃ c : List Value, c.length = k ∧ (∀ u ∈ c, u.oneCell' = true) ∧ ∀ x, l[i]? = some x → (∀ j, j < k → w.cell? ⟨b, off + i * k + j, none⟩ = c[j]?) ∧ P x c := by
      intro i
      cases hx : l[i]? with
      | none => exact ⟨List.replicate k (.int .i64 0), by simp, fun u hu => by rw [List.eq_of_mem_replicate hu]; rfl, fun x hx => by cases hx⟩
      | some x =>
        obtain ⟨c, c1, c2, c3, c4⟩ := hE _ _ _ (hc i x hx)
        exact ⟨c, c1, c2, fun y hy => by injection hy with hy; subst hy; exact ⟨c3, c4⟩⟩
    refine ⟨fun i => Classical.choose (ex i), fun i => (Classical.choose_spec (ex i)).1, ?_, fun i x hx => ((Classical.choose_spec (ex i)).2.2 x hx).2⟩
    have key : Lst k (fun w b o i => o = off + i * k → b = b → ∀ j, j < k → w.cell? ⟨b, o + j, none⟩ = (Classical.choose (ex i))[j]?) w v (List.range l.length) := by
      refine ⟨a, cap, by simpa using hv, by simpa using hl, hm, hz, Or.inr ⟨b, off, ha, fun i x hx => ?_⟩⟩
      obtain ⟨hlt, he⟩ := List.getElem?_eq_some_iff.1 hx
      simp only [List.getElem_range] at he
      subst he
      simp only [List.length_range] at hlt
      intro _ _ j hj
      exact ((Classical.choose_spec (ex i)).2.2 _ (List.getElem?_eq_getElem hlt)).1 j hj
    have hlen : ((List.range l.length).flatMap fun i => Classical.choose (ex i)).length = l.length * k := by
      have : ∀ L : List Nat, (L.flatMap fun i => Classical.choose (ex i)).length = L.length * k := by
        intro L
        induction L with
        | nil => simp
        | cons y L ih => rw [List.flatMap_cons, List.length_append, (Classical.choose_spec (ex y)).1, ih, List.length_cons, Nat.succ_mul]; omega
      rw [this]; simp
    refine ⟨hlen, ?_, a, cap, hv, hl, hm, hz, Or.inr ⟨b, off, ha, fun j u hj => ?_⟩⟩
    · intro c hc'
      obtain ⟨y, _, hy⟩ := List.mem_flatMap.1 hc'
      exact (Classical.choose_spec (ex y)).2.1 c hy
    · have hjl := (List.getElem?_eq_some_iff.1 hj).1
      rw [hlen] at hjl
      have hq : j / k < l.length := Nat.div_lt_of_lt_mul (by rw [Nat.mul_comm]; exact hjl)
      have hm' : j % k < k := Nat.mod_lt _ hk
      have e3 : j / k * k + j % k = j := by have := Nat.div_add_mod j k; rw [Nat.mul_comm] at this; omega
      have hr : (List.range l.length)[j / k]? = some (j / k) := by rw [List.getElem?_range hq]
      have h5 := flat_at (fun i => Classical.choose (ex i)) k (fun i => (Classical.choose_spec (ex i)).1) (List.range l.length) (j / k) (j / k) (j % k) hr hm'
      rw [e3] at h5
      have h6 := ((Classical.choose_spec (ex (j / k))).2.2 _ (List.getElem?_eq_getElem hq)).1 (j % k) hm'
      rw [show off + j / k * k + j % k = off + j by omega] at h6
      rw [h6, ← h5]
      exact hj
theorem slice_one {α : Type} {k : Nat} {E : World → Nat → Nat → α → Prop} {w : World} {v : Value} {l : List α} (h : Lst k E w v l) : v.oneCell' = true := by
  obtain ⟨a, cap, rfl, _⟩ := h.one
  cases a <;> rfl
/- What the cells of one type hold. -/
def CellS (w : World) (x : SB) (c : List Value) : Prop := ∃ sv pv rv fv, SubR w x sv pv rv fv ∧ c = [.bool x.final_, sv, .int .i64 x.comp.kind, pv, rv, fv]
def CellR (w : World) (x : RT) (c : List Value) : Prop := ∃ tv, LS w tv x.types ∧ c = [tv, .bool x.explicit]
theorem LS.raw {w : World} {v : Value} {l : List SB} (h : LS w v l) : ∃ f : Nat → List Value, (∀ i, (f i).length = 6) ∧ Raw 6 w v l.length ((List.range l.length).flatMap f) ∧ ∀ i x, l[i]? = some x → CellS w x (f i) := by
  refine lst_rawP (E := ES) (CellS w) (by decide) h ?_
  rintro b o x ⟨sv, pv, rv, fv, hs, h0, h1, h2, h3, h4, h5⟩
  refine ⟨[.bool x.final_, sv, .int .i64 x.comp.kind, pv, rv, fv], rfl, ?_, ?_, sv, pv, rv, fv, hs, rfl⟩
  · intro u hu
    simp only [List.mem_cons, List.not_mem_nil, or_false] at hu
    rcases hu with rfl | rfl | rfl | rfl | rfl | rfl
    · rfl
    · exact slice_one hs.1
    · rfl
    · exact slice_one hs.2.1
    · exact slice_one hs.2.2.1
    · exact slice_one hs.2.2.2
  · intro j hj
    match j, hj with
    | 0, _ => exact h0
    | 1, _ => exact h1
    | 2, _ => exact h2
    | 3, _ => exact h3
    | 4, _ => exact h4
    | 5, _ => exact h5
theorem LR.raw {w : World} {v : Value} {l : List RT} (h : LR w v l) : ∃ f : Nat → List Value, (∀ i, (f i).length = 2) ∧ Raw 2 w v l.length ((List.range l.length).flatMap f) ∧ ∀ i x, l[i]? = some x → CellR w x (f i) := by
  refine lst_rawP (E := ER) (CellR w) (by decide) h ?_
  rintro b o x ⟨tv, hs, h0, h1⟩
  refine ⟨[tv, .bool x.explicit], rfl, ?_, ?_, tv, hs, rfl⟩
  · intro u hu
    simp only [List.mem_cons, List.not_mem_nil, or_false] at hu
    rcases hu with rfl | rfl
    · exact slice_one hs
    · rfl
  · intro j hj
    match j, hj with
    | 0, _ => exact h0
    | 1, _ => exact h1
/- The row of copied types: those from the i-th on are as they were. -/
def RestS (w wr : World) (R : Nat) (l : List SB) (i : Nat) : Prop := ∃ cur : Array Value, wr.heap[R]? = some (.cells cur 110 (0, 0)) ∧ cur.size = l.length * 6 ∧ ∀ j x, i ≤ j → l[j]? = some x → ∃ sv pv rv fv, SubR w x sv pv rv fv ∧ cur[j * 6 + 1]? = some sv ∧ cur[j * 6 + 3]? = some pv ∧ cur[j * 6 + 4]? = some rv ∧ cur[j * 6 + 5]? = some fv
def RestR (w wr : World) (R : Nat) (l : List RT) (i : Nat) : Prop := ∃ cur : Array Value, wr.heap[R]? = some (.cells cur 103 (0, 0)) ∧ cur.size = l.length * 2 ∧ ∀ j x, i ≤ j → l[j]? = some x → ∃ tv, LS w tv x.types ∧ cur[j * 2]? = some tv
theorem RestS.of {w wr : World} {R : Nat} {l : List SB} {f : Nat → List Value} (hf : ∀ i, (f i).length = 6) (hc : ∀ i x, l[i]? = some x → CellS w x (f i)) (h : wr.heap[R]? = some (.cells ((List.range l.length).flatMap f).toArray 110 (0, 0))) : RestS w wr R l 0 := by
  have hat : ∀ i j, i < l.length → j < 6 → ((List.range l.length).flatMap f).toArray[i * 6 + j]? = (f i)[j]? := fun i j hi hj => by
    rw [List.getElem?_toArray]
    exact flat_at f 6 hf _ i i j (by rw [List.getElem?_range hi]) hj
  have hlen : ((List.range l.length).flatMap f).length = l.length * 6 := by
    have : ∀ L : List Nat, (L.flatMap f).length = L.length * 6 := by
      intro L
      induction L with
      | nil => simp
      | cons y L ih => rw [List.flatMap_cons, List.length_append, hf, ih, List.length_cons, Nat.succ_mul]; omega
    rw [this]; simp
  refine ⟨_, h, by simpa using hlen, fun j x _ hx => ?_⟩
  have hj := (List.getElem?_eq_some_iff.1 hx).1
  obtain ⟨sv, pv, rv, fv, hs, he⟩ := hc j x hx
  exact ⟨sv, pv, rv, fv, hs, by rw [hat j 1 hj (by decide), he]; rfl, by rw [hat j 3 hj (by decide), he]; rfl, by rw [hat j 4 hj (by decide), he]; rfl, by rw [hat j 5 hj (by decide), he]; rfl⟩
theorem RestR.of {w wr : World} {R : Nat} {l : List RT} {f : Nat → List Value} (hf : ∀ i, (f i).length = 2) (hc : ∀ i x, l[i]? = some x → CellR w x (f i)) (h : wr.heap[R]? = some (.cells ((List.range l.length).flatMap f).toArray 103 (0, 0))) : RestR w wr R l 0 := by
  have hat : ∀ i j, i < l.length → j < 2 → ((List.range l.length).flatMap f).toArray[i * 2 + j]? = (f i)[j]? := fun i j hi hj => by
    rw [List.getElem?_toArray]
    exact flat_at f 2 hf _ i i j (by rw [List.getElem?_range hi]) hj
  have hlen : ((List.range l.length).flatMap f).length = l.length * 2 := by
    have : ∀ L : List Nat, (L.flatMap f).length = L.length * 2 := by
      intro L
      induction L with
      | nil => simp
      | cons y L ih => rw [List.flatMap_cons, List.length_append, hf, ih, List.length_cons, Nat.succ_mul]; omega
    rw [this]; simp
  refine ⟨_, h, by simpa using hlen, fun j x _ hx => ?_⟩
  have hj := (List.getElem?_eq_some_iff.1 hx).1
  obtain ⟨tv, hs, he⟩ := hc j x hx
  refine ⟨tv, hs, ?_⟩
  have := hat j 0 hj (by decide)
  rw [Nat.add_zero] at this
  rw [this, he]; rfl
theorem RestS.grew {w wr wr' : World} {R : Nat} {l : List SB} {i : Nat} (h : RestS w wr R l i) (g : Grew wr wr') : RestS w wr' R l i := by
  obtain ⟨cur, h0, h1, h2⟩ := h
  exact ⟨cur, (g.turn []).other h0 (by simp), h1, h2⟩
theorem RestR.grew {w wr wr' : World} {R : Nat} {l : List RT} {i : Nat} (h : RestR w wr R l i) (g : Grew wr wr') : RestR w wr' R l i := by
  obtain ⟨cur, h0, h1, h2⟩ := h
  exact ⟨cur, (g.turn []).other h0 (by simp), h1, h2⟩
theorem RestS.le {w wr : World} {R : Nat} {l : List SB} {i i' : Nat} (h : RestS w wr R l i) (hi : i ≤ i') : RestS w wr R l i' := by
  obtain ⟨cur, h0, h1, h2⟩ := h
  exact ⟨cur, h0, h1, fun j x hj => h2 j x (by omega)⟩
theorem RestS.set {w wr : World} {R : Nat} {l : List SB} {i : Nat} (h : RestS w wr R l (i + 1)) {q : Nat} (hq : q < i * 6 + 6) (u : Value) : RestS w (wr.setCell ⟨R, q, none⟩ u) R l (i + 1) := by
  obtain ⟨cur, h0, h1, h2⟩ := h
  refine ⟨_, heap_set h0 _ _, by simpa using h1, fun j x hj hx => ?_⟩
  obtain ⟨sv, pv, rv, fv, hs, a, b, c, d⟩ := h2 j x hj hx
  refine ⟨sv, pv, rv, fv, hs, ?_, ?_, ?_, ?_⟩ <;> rw [Array.getElem?_setIfInBounds_ne (by omega)] <;> assumption
theorem RestS.other {w wr : World} {R : Nat} {l : List SB} {i : Nat} (h : RestS w wr R l i) {p : Addr} (hp : R ≠ p.block) (u : Value) : RestS w (wr.setCell p u) R l i := by
  obtain ⟨cur, h0, h1, h2⟩ := h
  exact ⟨cur, heap_other h0 hp u, h1, h2⟩
theorem RestR.set {w wr : World} {R : Nat} {l : List RT} {i : Nat} (h : RestR w wr R l i) {q : Nat} (hq : q < i * 2 + 2) (u : Value) : RestR w (wr.setCell ⟨R, q, none⟩ u) R l (i + 1) := by
  obtain ⟨cur, h0, h1, h2⟩ := h
  refine ⟨_, heap_set h0 _ _, by simpa using h1, fun j x hj hx => ?_⟩
  obtain ⟨tv, hs, a⟩ := h2 j x (by omega) hx
  refine ⟨tv, hs, ?_⟩
  rw [Array.getElem?_setIfInBounds_ne (by omega)]
  exact a
theorem RestR.other {w wr : World} {R : Nat} {l : List RT} {i : Nat} (h : RestR w wr R l i) {p : Addr} (hp : R ≠ p.block) (u : Value) : RestR w (wr.setCell p u) R l i := by
  obtain ⟨cur, h0, h1, h2⟩ := h
  exact ⟨cur, heap_other h0 hp u, h1, h2⟩
end Go.Proofs.YtkghplkmfpnhdaaGreatDoor
