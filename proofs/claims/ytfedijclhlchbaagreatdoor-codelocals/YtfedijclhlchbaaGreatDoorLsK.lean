/-
  Lists that are only read: value types and runs of locals; no statement is proved here.
-/
import Derived.Test.YtfedijclhlchbaaGreatDoorKtr
namespace Go.Proofs.YtfedijclhlchbaaGreatDoor
open Go.RowKit
set_option linter.unusedVariables false
set_option linter.unusedSimpArgs false
set_option linter.constructorNameAsVariable false

theorem flat_at {α : Type} (f : α → List Value) (k : Nat) (hf : ∀ a, (f a).length = k) : ∀ (l : List α) (i : Nat) (x : α) (j : Nat), l[i]? = some x → j < k → (l.flatMap f)[i * k + j]? = (f x)[j]? := by
  intro l
  induction l with
  | nil => intro i x j h; simp at h
  | cons a l ih =>
    intro i x j h hj
    rw [List.flatMap_cons]
    cases i with
    | zero =>
      simp only [List.getElem?_cons_zero, Option.some.injEq] at h
      subst h
      rw [Nat.zero_mul, Nat.zero_add, List.getElem?_append_left (by rw [hf]; exact hj)]
    | succ i =>
      rw [List.getElem?_cons_succ] at h
      rw [List.getElem?_append_right (by rw [hf, Nat.succ_mul]; omega), hf, show (i + 1) * k + j - k = i * k + j by rw [Nat.succ_mul]; omega]
      exact ih i x j h hj
abbrev NILS : Value := .slice none 0 0

def Lst {α : Type} (k : Nat) (E : World → Nat → Nat → α → Prop) (w : World) (v : Value) (l : List α) : Prop :=
  ∃ a cap, v = .slice a l.length cap ∧ l.length ≤ cap ∧ cap ≤ maxLen ∧ (a = none → cap = 0) ∧ (l = [] ∨ ∃ b off, a = some ⟨b, off, none⟩ ∧ ∀ i x, l[i]? = some x → E w b (off + i * k) x)
def EV (w : World) (b o : Nat) (x : VT) : Prop := w.cell? ⟨b, o, none⟩ = some (.int .i64 x.num) ∧ w.cell? ⟨b, o + 1, none⟩ = some (.bool x.null) ∧ w.cell? ⟨b, o + 2, none⟩ = some (.int .i64 x.heap)
def EL (w : World) (b o : Nat) (x : LC) : Prop := w.cell? ⟨b, o, none⟩ = some (.int .u32 x.count) ∧ w.cell? ⟨b, o + 1, none⟩ = some (.int .i64 x.ty.num) ∧ w.cell? ⟨b, o + 2, none⟩ = some (.bool x.ty.null) ∧ w.cell? ⟨b, o + 3, none⟩ = some (.int .i64 x.ty.heap)
abbrev LV := Lst 3 EV
abbrev LL := Lst 4 EL
theorem Lst.grew {α : Type} {k : Nat} {E : World → Nat → Nat → α → Prop} (hE : ∀ (w w' : World) (b o : Nat) (x : α), E w b o x → Grew w w' → E w' b o x) {w w' : World} {v : Value} {l : List α} (h : Lst k E w v l) (g : Grew w w') : Lst k E w' v l := by
  obtain ⟨a, cap, hv, h1, h2, hz, h3⟩ := h
  refine ⟨a, cap, hv, h1, h2, hz, h3.imp_right ?_⟩
  rintro ⟨b, off, ha, hc⟩
  exact ⟨b, off, ha, fun i x hx => hE _ _ _ _ _ (hc i x hx) g⟩
theorem EV.grew {w w' : World} {b o : Nat} {x : VT} (h : EV w b o x) (g : Grew w w') : EV w' b o x := ⟨cell_grew h.1 g, cell_grew h.2.1 g, cell_grew h.2.2 g⟩
theorem LV.grew {w w' : World} {v : Value} {l : List VT} (h : LV w v l) (g : Grew w w') : LV w' v l := Lst.grew (E := EV) (fun _ _ _ _ _ h g => EV.grew h g) h g
theorem EL.grew {w w' : World} {b o : Nat} {x : LC} (h : EL w b o x) (g : Grew w w') : EL w' b o x := ⟨cell_grew h.1 g, cell_grew h.2.1 g, cell_grew h.2.2.1 g, cell_grew h.2.2.2 g⟩
theorem LL.grew {w w' : World} {v : Value} {l : List LC} (h : LL w v l) (g : Grew w w') : LL w' v l := Lst.grew (E := EL) (fun _ _ _ _ _ h g => EL.grew h g) h g
theorem Lst.one {α : Type} {k : Nat} {E : World → Nat → Nat → α → Prop} {w : World} {v : Value} {l : List α} (h : Lst k E w v l) : ∃ a cap, v = .slice a l.length cap ∧ l.length ≤ cap ∧ cap ≤ maxLen := by
  obtain ⟨a, cap, hv, h1, h2, hz, h3⟩ := h
  exact ⟨a, cap, hv, h1, h2⟩
theorem Lst.nil {α : Type} (k : Nat) (E : World → Nat → Nat → α → Prop) (w : World) : Lst k E w NILS [] := ⟨none, 0, rfl, Nat.le_refl _, by decide, fun _ => rfl, Or.inl rfl⟩
theorem Lst.get {α : Type} {k : Nat} {E : World → Nat → Nat → α → Prop} {w : World} {a : Option Addr} {n cap : Nat} {l : List α} (h : Lst k E w (.slice a n cap) l) (hn : 0 < l.length) : ∃ b off, a = some ⟨b, off, none⟩ ∧ n ≤ cap ∧ ∀ i x, l[i]? = some x → E w b (off + i * k) x := by
  obtain ⟨a', cap', hv, h1, h2, hz, h3⟩ := h
  injection hv with e1 e2 e3
  subst e1 e2 e3
  rcases h3 with rfl | ⟨b, off, ha, hc⟩
  · simp at hn
  · exact ⟨b, off, ha, h1, hc⟩
theorem row_maxC {w : World} {B : Nat} {e : TypeId} {k : Nat} {v : Value} {n : Nat} {cs : List Value} (h : w.ownsRow B e k v n cs) : ∃ a c, v = .slice a n c ∧ n ≤ c ∧ c ≤ maxLen ∧ (a = none → c = 0) := by
  obtain ⟨_, ⟨h1, h2⟩ | ⟨g, cap, cur, hv, _, _, h3, h4, _⟩⟩ := h
  · exact ⟨none, 0, by rw [h1, h2], by omega, by decide, fun _ => rfl⟩
  · exact ⟨_, _, hv, h3, h4, fun hh => by cases hh⟩
theorem row_lst {α : Type} {E : World → Nat → Nat → α → Prop} {f : α → List Value} {k : Nat} (hf : ∀ a, (f a).length = k) {w : World} {B : Nat} {e : TypeId} {v : Value} {l : List α} (h : w.ownsRow B e k v l.length (l.flatMap f))
    (hE : ∀ b o x, (∀ j, j < k → w.cell? ⟨b, o + j, none⟩ = (f x)[j]?) → E w b o x) : Lst k E w v l := by
  obtain ⟨a, c, hv, h1, h2, hz⟩ := row_maxC h
  have h0 := h
  refine ⟨a, c, hv, h1, h2, hz, ?_⟩
  obtain ⟨hl, ⟨_, h3⟩ | ⟨g, cap, cur, hv', hB, hg, h3⟩⟩ := h
  · left; exact List.eq_nil_of_length_eq_zero h3
  · right
    have hva := hv.symm.trans hv'
    injection hva with e1 _ _
    refine ⟨g, 0, e1, fun i x hx => hE _ _ _ fun j hj => ?_⟩
    have hi : i < l.length := (List.getElem?_eq_some_iff.1 hx).1
    have hij : i * k + j < l.length * k := by
      have : (i + 1) * k ≤ l.length * k := Nat.mul_le_mul_right k hi
      rw [Nat.succ_mul] at this
      omega
    rw [hv'] at h0
    have := h0.cellAt (i * k + j) hij
    rw [Nat.zero_add, this]
    exact flat_at f k hf l i x j hx hj
theorem RowV.lst {B : Nat} {w : World} {v : Value} {l : List VT} (h : RowV B w v l) : LV w v l := row_lst (f := VT.c) (k := 3) (E := EV) (fun _ => rfl) h (fun b o x hh => ⟨hh 0 (by decide), hh 1 (by decide), hh 2 (by decide)⟩)
theorem RowL.lst {B : Nat} {w : World} {v : Value} {l : List LC} (h : RowL B w v l) : LL w v l := row_lst (f := LC.c) (k := 4) (E := EL) (fun _ => rfl) h (fun b o x hh => ⟨hh 0 (by decide), hh 1 (by decide), hh 2 (by decide), hh 3 (by decide)⟩)
/- Where a row lies there are elements of its type. -/
theorem row_tag {w : World} {B : Nat} {e : TypeId} {k : Nat} {v : Value} {n : Nat} {cs : List Value} (h : w.ownsRow B e k v n cs) {g : Nat} (hg : v.ownBlock = some g) : ∃ cur f, w.heap[g]? = some (.cells cur e f) := by
  obtain ⟨h1, ⟨rfl, rfl⟩ | ⟨g', cap, cur, hv, hB, hh, h3⟩⟩ := h
  · cases hg
  · rw [hv] at hg
    have : some g' = some g := hg
    injection this with this
    subst this
    exact ⟨_, _, hh⟩
theorem row_not {w : World} {B : Nat} {e t : TypeId} {k : Nat} {v : Value} {n : Nat} {cs : List Value} (h : w.ownsRow B e k v n cs) {g : Nat} {ds : Array Value} {f : Nat × Nat} (ho : w.heap[g]? = some (.cells ds t f)) (hne : t ≠ e) : some g ≠ v.ownBlock := by
  intro hg
  obtain ⟨cur, f', hh⟩ := row_tag h hg.symm
  rw [hh] at ho
  injection ho with ho
  injection ho with _ h2 _
  exact hne h2.symm
theorem TB.grew {w0 w w' : World} {B : Nat} (t : TB B B w w') (g : Grew w0 w) (hB : w0.heap.size ≤ B) : Grew w0 w' :=
  ⟨⟨t.os.trans g.1.os, t.tape.trans g.1.tape, t.output.trans g.1.output, Nat.le_trans g.2 t.size, fun k hk => (t.block k (Nat.lt_of_lt_of_le hk g.2) (by omega) (by omega)).trans (g.1.block k hk)⟩, Nat.le_trans g.2 t.size⟩
theorem grown_grew {w0 w w' : World} (h : w.grownBy w' none) (g : Grew w0 w) : Grew w0 w' :=
  ⟨⟨h.os.trans g.1.os, h.tape.trans g.1.tape, h.output.trans g.1.output, Nat.le_trans g.2 h.size, fun k hk => (h.block k (Nat.lt_of_lt_of_le hk g.2) (by simp)).trans (g.1.block k hk)⟩, Nat.le_trans g.2 h.size⟩
end Go.Proofs.YtfedijclhlchbaaGreatDoor
