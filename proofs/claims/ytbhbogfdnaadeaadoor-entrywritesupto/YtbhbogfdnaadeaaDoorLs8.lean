/-
  Lists that are only read; no statement is proved here.
-/
import Derived.Test.YtbhbogfdnaadeaaDoorGrpR
namespace Go.Proofs.YtbhbogfdnaadeaaDoor
open Go.RowKit
set_option linter.unusedVariables false
set_option linter.unusedSimpArgs false
set_option linter.constructorNameAsVariable false

theorem flat_at {α : Type} (f : α → List Value) (k : Nat) (hf : ∀ a, (f a).length = k) : ∀ (l : List α) (i : Nat) (x : α) (j : Nat), l[i]? = some x → j < k → (l.flatMap f)[i * k + j]? = (f x)[j]? := by
  intro l
  induction l with
  | nil => intro i x j h; simp at h
  | cons a l ih =>
    intro i x j h hj
    rw [List.flatMap_cons]
    cases i with
    | zero =>
      simp only [List.getElem?_cons_zero, Option.some.injEq] at h
      subst h
      rw [Nat.zero_mul, Nat.zero_add, List.getElem?_append_left (by rw [hf]; exact hj)]
    | succ i =>
      rw [List.getElem?_cons_succ] at h
      rw [List.getElem?_append_right (by rw [hf, Nat.succ_mul]; omega), hf, show (i + 1) * k + j - k = i * k + j by rw [Nat.succ_mul]; omega]
      exact ih i x j h hj
abbrev NILS : Value := .slice none 0 0

def Lst {α : Type} (k : Nat) (E : World → Nat → Nat → α → Prop) (w : World) (v : Value) (l : List α) : Prop :=
  ∃ a cap, v = .slice a l.length cap ∧ l.length ≤ cap ∧ cap ≤ maxLen ∧ (a = none → cap = 0) ∧ (l = [] ∨ ∃ b off, a = some ⟨b, off, none⟩ ∧ ∀ i x, l[i]? = some x → E w b (off + i * k) x)
def EI (w : World) (b o : Nat) (x : Int) : Prop := w.cell? ⟨b, o, none⟩ = some (.int .i64 x)
def EV (w : World) (b o : Nat) (x : VT) : Prop := w.cell? ⟨b, o, none⟩ = some (.int .i64 x.num) ∧ w.cell? ⟨b, o + 1, none⟩ = some (.bool x.null) ∧ w.cell? ⟨b, o + 2, none⟩ = some (.int .i64 x.heap)
def EF (w : World) (b o : Nat) (x : FT) : Prop := EV w b o x.ty ∧ w.cell? ⟨b, o + 3, none⟩ = some (.bool x.mut_)
abbrev LI := Lst 1 EI
abbrev LV := Lst 3 EV
abbrev LF := Lst 4 EF
def SubR (w : World) (x : SB) (sv pv rv fv : Value) : Prop := LI w sv x.supers ∧ LV w pv x.comp.params ∧ LV w rv x.comp.results ∧ LF w fv x.comp.fields
def ES (w : World) (b o : Nat) (x : SB) : Prop := ∃ sv pv rv fv, SubR w x sv pv rv fv ∧ w.cell? ⟨b, o, none⟩ = some (.bool x.final_) ∧ w.cell? ⟨b, o + 1, none⟩ = some sv ∧ w.cell? ⟨b, o + 2, none⟩ = some (.int .i64 x.comp.kind) ∧
  w.cell? ⟨b, o + 3, none⟩ = some pv ∧ w.cell? ⟨b, o + 4, none⟩ = some rv ∧ w.cell? ⟨b, o + 5, none⟩ = some fv
abbrev LS := Lst 6 ES
theorem lt_of_cell {w : World} {b o : Nat} {v : Value} (h : w.cell? ⟨b, o, none⟩ = some v) : b < w.heap.size := by
  unfold World.cell? at h
  rcases Nat.lt_or_ge b w.heap.size with h' | h'
  · exact h'
  · rw [Array.getElem?_eq_none h'] at h; cases h
theorem cell_grew {w w' : World} {b o : Nat} {v : Value} (h : w.cell? ⟨b, o, none⟩ = some v) (g : Grew w w') : w'.cell? ⟨b, o, none⟩ = some v := by
  rw [g.1.cell (lt_of_cell h)]; exact h
theorem Lst.grew {α : Type} {k : Nat} {E : World → Nat → Nat → α → Prop} (hE : ∀ (w w' : World) (b o : Nat) (x : α), E w b o x → Grew w w' → E w' b o x) {w w' : World} {v : Value} {l : List α} (h : Lst k E w v l) (g : Grew w w') : Lst k E w' v l := by
  obtain ⟨a, cap, hv, h1, h2, hz, h3⟩ := h
  refine ⟨a, cap, hv, h1, h2, hz, h3.imp_right ?_⟩
  rintro ⟨b, off, ha, hc⟩
  exact ⟨b, off, ha, fun i x hx => hE _ _ _ _ _ (hc i x hx) g⟩
theorem EI.grew {w w' : World} {b o : Nat} {x : Int} (h : EI w b o x) (g : Grew w w') : EI w' b o x := cell_grew h g
theorem EV.grew {w w' : World} {b o : Nat} {x : VT} (h : EV w b o x) (g : Grew w w') : EV w' b o x := ⟨cell_grew h.1 g, cell_grew h.2.1 g, cell_grew h.2.2 g⟩
theorem EF.grew {w w' : World} {b o : Nat} {x : FT} (h : EF w b o x) (g : Grew w w') : EF w' b o x := ⟨h.1.grew g, cell_grew h.2 g⟩
theorem LI.grew {w w' : World} {v : Value} {l : List Int} (h : LI w v l) (g : Grew w w') : LI w' v l := Lst.grew (E := EI) (fun _ _ _ _ _ h g => EI.grew h g) h g
theorem LV.grew {w w' : World} {v : Value} {l : List VT} (h : LV w v l) (g : Grew w w') : LV w' v l := Lst.grew (E := EV) (fun _ _ _ _ _ h g => EV.grew h g) h g
theorem LF.grew {w w' : World} {v : Value} {l : List FT} (h : LF w v l) (g : Grew w w') : LF w' v l := Lst.grew (E := EF) (fun _ _ _ _ _ h g => EF.grew h g) h g
theorem SubR.grew {w w' : World} {x : SB} {sv pv rv fv : Value} (h : SubR w x sv pv rv fv) (g : Grew w w') : SubR w' x sv pv rv fv := ⟨h.1.grew g, h.2.1.grew g, h.2.2.1.grew g, h.2.2.2.grew g⟩
theorem ES.grew {w w' : World} {b o : Nat} {x : SB} (h : ES w b o x) (g : Grew w w') : ES w' b o x := by
  obtain ⟨sv, pv, rv, fv, h0, h1, h2, h3, h4, h5, h6⟩ := h
  exact ⟨sv, pv, rv, fv, h0.grew g, cell_grew h1 g, cell_grew h2 g, cell_grew h3 g, cell_grew h4 g, cell_grew h5 g, cell_grew h6 g⟩
theorem LS.grew {w w' : World} {v : Value} {l : List SB} (h : LS w v l) (g : Grew w w') : LS w' v l := Lst.grew (E := ES) (fun _ _ _ _ _ h g => ES.grew h g) h g
theorem Lst.one {α : Type} {k : Nat} {E : World → Nat → Nat → α → Prop} {w : World} {v : Value} {l : List α} (h : Lst k E w v l) : ∃ a cap, v = .slice a l.length cap ∧ l.length ≤ cap ∧ cap ≤ maxLen := by
  obtain ⟨a, cap, hv, h1, h2, hz, h3⟩ := h
  exact ⟨a, cap, hv, h1, h2⟩
theorem Lst.nil {α : Type} (k : Nat) (E : World → Nat → Nat → α → Prop) (w : World) : Lst k E w NILS [] := ⟨none, 0, rfl, Nat.le_refl _, by decide, fun _ => rfl, Or.inl rfl⟩
theorem Lst.get {α : Type} {k : Nat} {E : World → Nat → Nat → α → Prop} {w : World} {a : Option Addr} {n cap : Nat} {l : List α} (h : Lst k E w (.slice a n cap) l) (hn : 0 < l.length) : ∃ b off, a = some ⟨b, off, none⟩ ∧ n ≤ cap ∧ ∀ i x, l[i]? = some x → E w b (off + i * k) x := by
  obtain ⟨a', cap', hv, h1, h2, hz, h3⟩ := h
  injection hv with e1 e2 e3
  subst e1 e2 e3
  rcases h3 with rfl | ⟨b, off, ha, hc⟩
  · simp at hn
  · exact ⟨b, off, ha, h1, hc⟩
theorem row_maxC {w : World} {B : Nat} {e : TypeId} {k : Nat} {v : Value} {n : Nat} {cs : List Value} (h : w.ownsRow B e k v n cs) : ∃ a c, v = .slice a n c ∧ n ≤ c ∧ c ≤ maxLen ∧ (a = none → c = 0) := by
  obtain ⟨_, ⟨h1, h2⟩ | ⟨g, cap, cur, hv, _, _, h3, h4, _⟩⟩ := h
  · exact ⟨none, 0, by rw [h1, h2], by omega, by decide, fun _ => rfl⟩
  · exact ⟨_, _, hv, h3, h4, fun hh => by cases hh⟩
theorem row_lst {α : Type} {E : World → Nat → Nat → α → Prop} {f : α → List Value} {k : Nat} (hf : ∀ a, (f a).length = k) {w : World} {B : Nat} {e : TypeId} {v : Value} {l : List α} (h : w.ownsRow B e k v l.length (l.flatMap f))
    (hE : ∀ b o x, (∀ j, j < k → w.cell? ⟨b, o + j, none⟩ = (f x)[j]?) → E w b o x) : Lst k E w v l := by
  obtain ⟨a, c, hv, h1, h2, hz⟩ := row_maxC h
  have h0 := h
  refine ⟨a, c, hv, h1, h2, hz, ?_⟩
  obtain ⟨hl, ⟨_, h3⟩ | ⟨g, cap, cur, hv', hB, hg, h3⟩⟩ := h
  · left; exact List.eq_nil_of_length_eq_zero h3
  · right
    have hva := hv.symm.trans hv'
    injection hva with e1 _ _
    refine ⟨g, 0, e1, fun i x hx => hE _ _ _ fun j hj => ?_⟩
    have hi : i < l.length := (List.getElem?_eq_some_iff.1 hx).1
    have hij : i * k + j < l.length * k := by
      have : (i + 1) * k ≤ l.length * k := Nat.mul_le_mul_right k hi
      rw [Nat.succ_mul] at this
      omega
    rw [hv'] at h0
    have := h0.cellAt (i * k + j) hij
    rw [Nat.zero_add, this]
    exact flat_at f k hf l i x j hx hj
theorem RowI.lst {B : Nat} {w : World} {v : Value} {l : List Int} (h : RowI B w v l) : LI w v l := row_lst (f := ic1) (k := 1) (E := EI) (fun _ => rfl) h (fun b o x hh => hh 0 (by decide))
theorem RowV.lst {B : Nat} {w : World} {v : Value} {l : List VT} (h : RowV B w v l) : LV w v l := row_lst (f := VT.c) (k := 3) (E := EV) (fun _ => rfl) h (fun b o x hh => ⟨hh 0 (by decide), hh 1 (by decide), hh 2 (by decide)⟩)
theorem RowF.lst {B : Nat} {w : World} {v : Value} {l : List FT} (h : RowF B w v l) : LF w v l := row_lst (f := FT.c) (k := 4) (E := EF) (fun _ => rfl) h (fun b o x hh => ⟨⟨hh 0 (by decide), hh 1 (by decide), hh 2 (by decide)⟩, hh 3 (by decide)⟩)
theorem SubC.subR {B : Nat} {w : World} {cs : List Value} {x : SB} (h : SubC B w cs x) : ∃ sv pv rv fv, cs = [.bool x.final_, sv, .int .i64 x.comp.kind, pv, rv, fv] ∧ SubR w x sv pv rv fv := by
  obtain ⟨sv, pv, rv, fv, e, a1, a2, a3, a4⟩ := h
  exact ⟨sv, pv, rv, fv, e, a1.lst, a2.lst, a3.lst, a4.lst⟩
theorem SubsQ.lst {B : Nat} {w : World} {v : Value} {l : List SB} (h : SubsQ B w v l) : LS w v l := by
  obtain ⟨cs, hr, he⟩ := h
  obtain ⟨a, c, hv, h1, h2, hz⟩ := row_maxC hr
  have h0 := hr
  refine ⟨a, c, hv, h1, h2, hz, ?_⟩
  obtain ⟨hl, ⟨_, h3⟩ | ⟨g, cap, cur, hv', hB, hg, h3⟩⟩ := hr
  · left; exact List.eq_nil_of_length_eq_zero h3
  · right
    have hva := hv.symm.trans hv'
    injection hva with e1 _ _
    refine ⟨g, 0, e1, fun i x hx => ?_⟩
    have hi : i < l.length := (List.getElem?_eq_some_iff.1 hx).1
    obtain ⟨sv, pv, rv, fv, ec, hs⟩ := (he i x hx).subR
    rw [hv'] at h0
    have key : ∀ k, k < 6 → w.cell? ⟨g, 0 + i * 6 + k, none⟩ = [Value.bool x.final_, sv, .int .i64 x.comp.kind, pv, rv, fv][k]? := by
      intro k hk
      rw [Nat.zero_add, h0.cellAt _ (by omega), ← ec, List.getElem?_take, if_pos hk, List.getElem?_drop]
    exact ⟨sv, pv, rv, fv, hs, key 0 (by decide), key 1 (by decide), key 2 (by decide), key 3 (by decide), key 4 (by decide), key 5 (by decide)⟩
end Go.Proofs.YtbhbogfdnaadeaaDoor
