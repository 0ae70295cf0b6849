/-
  Types as plain data; slices that read as lists of them; no statement is proved here.
-/
import Derived.Test.YtnmbniojejckpaaGreatDoorRowM
import Derived.Deep.RegionLaw
set_option maxRecDepth 100000
set_option maxHeartbeats 8000000
namespace Go.Proofs.YtnmbniojejckpaaGreatDoor
open Go.RowKit
set_option linter.unusedVariables false
set_option linter.unusedSimpArgs false
structure VT where
  num : Int
  null : Bool
  heap : Int
structure FT where
  ty : VT
  mut_ : Bool
structure CT where
  kind : Int
  params : List VT
  results : List VT
  fields : List FT
structure SB where
  final_ : Bool
  supers : List Int
  comp : CT
structure RT where
  types : List SB
  explicit : Bool
def VT.v (x : VT) : Value := .agg #[.int .i64 x.num, .bool x.null, .int .i64 x.heap]
def FT.v (x : FT) : Value := .agg #[.int .i64 x.ty.num, .bool x.ty.null, .int .i64 x.ty.heap, .bool x.mut_]
def VT.c (x : VT) : List Value := [.int .i64 x.num, .bool x.null, .int .i64 x.heap]
def FT.c (x : FT) : List Value := [.int .i64 x.ty.num, .bool x.ty.null, .int .i64 x.ty.heap, .bool x.mut_]
def ic1 (n : Int) : List Value := [.int .i64 n]
abbrev NILS : Value := .slice none 0 0
/- The slice reads as this list, its elements by E. -/
def Lst {α : Type} (k : Nat) (E : World → Nat → Nat → α → Prop) (w : World) (v : Value) (l : List α) : Prop :=
  ∃ a cap, v = .slice a l.length cap ∧ l.length ≤ cap ∧ cap ≤ maxLen ∧ (a = none → cap = 0) ∧ (l = [] ∨ ∃ b off, a = some ⟨b, off, none⟩ ∧ ∀ i x, l[i]? = some x → E w b (off + i * k) x)
def EI (w : World) (b o : Nat) (x : Int) : Prop := w.cell? ⟨b, o, none⟩ = some (.int .i64 x)
def EV (w : World) (b o : Nat) (x : VT) : Prop := w.cell? ⟨b, o, none⟩ = some (.int .i64 x.num) ∧ w.cell? ⟨b, o + 1, none⟩ = some (.bool x.null) ∧ w.cell? ⟨b, o + 2, none⟩ = some (.int .i64 x.heap)
def EF (w : World) (b o : Nat) (x : FT) : Prop := EV w b o x.ty ∧ w.cell? ⟨b, o + 3, none⟩ = some (.bool x.mut_)
abbrev LI := Lst 1 EI
abbrev LV := Lst 3 EV
abbrev LF := Lst 4 EF
def SubR (w : World) (x : SB) (sv pv rv fv : Value) : Prop := LI w sv x.supers ∧ LV w pv x.comp.params ∧ LV w rv x.comp.results ∧ LF w fv x.comp.fields
def ES (w : World) (b o : Nat) (x : SB) : Prop := ∃ sv pv rv fv, SubR w x sv pv rv fv ∧ w.cell? ⟨b, o, none⟩ = some (.bool x.final_) ∧ w.cell? ⟨b, o + 1, none⟩ = some sv ∧ w.cell? ⟨b, o + 2, none⟩ = some (.int .i64 x.comp.kind) ∧
  w.cell? ⟨b, o + 3, none⟩ = some pv ∧ w.cell? ⟨b, o + 4, none⟩ = some rv ∧ w.cell? ⟨b, o + 5, none⟩ = some fv
abbrev LS := Lst 6 ES
def ER (w : World) (b o : Nat) (x : RT) : Prop := ∃ tv, LS w tv x.types ∧ w.cell? ⟨b, o, none⟩ = some tv ∧ w.cell? ⟨b, o + 1, none⟩ = some (.bool x.explicit)
abbrev LR := Lst 2 ER
def SubV (w : World) (v : Value) (x : SB) : Prop := ∃ sv pv rv fv, v = .agg #[.bool x.final_, sv, .int .i64 x.comp.kind, pv, rv, fv] ∧ SubR w x sv pv rv fv
def RecV (w : World) (v : Value) (x : RT) : Prop := ∃ tv, v = .agg #[tv, .bool x.explicit] ∧ LS w tv x.types
theorem lt_of_cell {w : World} {b o : Nat} {v : Value} (h : w.cell? ⟨b, o, none⟩ = some v) : b < w.heap.size := by
  unfold World.cell? at h
  rcases Nat.lt_or_ge b w.heap.size with h' | h'
  · exact h'
  · rw [Array.getElem?_eq_none h'] at h; cases h
theorem cell_grew {w w' : World} {b o : Nat} {v : Value} (h : w.cell? ⟨b, o, none⟩ = some v) (g : Grew w w') : w'.cell? ⟨b, o, none⟩ = some v := by
  rw [g.1.cell (lt_of_cell h)]; exact h
theorem Lst.grew {α : Type} {k : Nat} {E : World → Nat → Nat → α → Prop} (hE : ∀ (w w' : World) (b o : Nat) (x : α), E w b o x → Grew w w' → E w' b o x) {w w' : World} {v : Value} {l : List α} (h : Lst k E w v l) (g : Grew w w') : Lst k E w' v l := by
  obtain ⟨a, cap, hv, h1, h2, hz, h3⟩ := h
  refine ⟨a, cap, hv, h1, h2, hz, h3.imp_right ?_⟩
  rintro ⟨b, off, ha, hc⟩
  exact ⟨b, off, ha, fun i x hx => hE _ _ _ _ _ (hc i x hx) g⟩
theorem EI.grew {w w' : World} {b o : Nat} {x : Int} (h : EI w b o x) (g : Grew w w') : EI w' b o x := cell_grew h g
theorem EV.grew {w w' : World} {b o : Nat} {x : VT} (h : EV w b o x) (g : Grew w w') : EV w' b o x := ⟨cell_grew h.1 g, cell_grew h.2.1 g, cell_grew h.2.2 g⟩
theorem EF.grew {w w' : World} {b o : Nat} {x : FT} (h : EF w b o x) (g : Grew w w') : EF w' b o x := ⟨h.1.grew g, cell_grew h.2 g⟩
theorem LI.grew {w w' : World} {v : Value} {l : List Int} (h : LI w v l) (g : Grew w w') : LI w' v l := Lst.grew (E := EI) (fun _ _ _ _ _ h g => EI.grew h g) h g
theorem LV.grew {w w' : World} {v : Value} {l : List VT} (h : LV w v l) (g : Grew w w') : LV w' v l := Lst.grew (E := EV) (fun _ _ _ _ _ h g => EV.grew h g) h g
theorem LF.grew {w w' : World} {v : Value} {l : List FT} (h : LF w v l) (g : Grew w w') : LF w' v l := Lst.grew (E := EF) (fun _ _ _ _ _ h g => EF.grew h g) h g
theorem SubR.grew {w w' : World} {x : SB} {sv pv rv fv : Value} (h : SubR w x sv pv rv fv) (g : Grew w w') : SubR w' x sv pv rv fv := ⟨h.1.grew g, h.2.1.grew g, h.2.2.1.grew g, h.2.2.2.grew g⟩
theorem ES.grew {w w' : World} {b o : Nat} {x : SB} (h : ES w b o x) (g : Grew w w') : ES w' b o x := by
  obtain ⟨sv, pv, rv, fv, h0, h1, h2, h3, h4, h5, h6⟩ := h
  exact ⟨sv, pv, rv, fv, h0.grew g, cell_grew h1 g, cell_grew h2 g, cell_grew h3 g, cell_grew h4 g, cell_grew h5 g, cell_grew h6 g⟩
theorem LS.grew {w w' : World} {v : Value} {l : List SB} (h : LS w v l) (g : Grew w w') : LS w' v l := Lst.grew (E := ES) (fun _ _ _ _ _ h g => ES.grew h g) h g
theorem ER.grew {w w' : World} {b o : Nat} {x : RT} (h : ER w b o x) (g : Grew w w') : ER w' b o x := by
  obtain ⟨tv, h0, h1, h2⟩ := h
  exact ⟨tv, h0.grew g, cell_grew h1 g, cell_grew h2 g⟩
theorem LR.grew {w w' : World} {v : Value} {l : List RT} (h : LR w v l) (g : Grew w w') : LR w' v l := Lst.grew (E := ER) (fun _ _ _ _ _ h g => ER.grew h g) h g
theorem SubV.grew {w w' : World} {v : Value} {x : SB} (h : SubV w v x) (g : Grew w w') : SubV w' v x := by
  obtain ⟨sv, pv, rv, fv, hv, h0⟩ := h
  exact ⟨sv, pv, rv, fv, hv, h0.grew g⟩
theorem RecV.grew {w w' : World} {v : Value} {x : RT} (h : RecV w v x) (g : Grew w w') : RecV w' v x := by
  obtain ⟨tv, hv, h0⟩ := h
  exact ⟨tv, hv, h0.grew g⟩
theorem Lst.one {α : Type} {k : Nat} {E : World → Nat → Nat → α → Prop} {w : World} {v : Value} {l : List α} (h : Lst k E w v l) : ∃ a cap, v = .slice a l.length cap ∧ l.length ≤ cap ∧ cap ≤ maxLen := by
  obtain ⟨a, cap, hv, h1, h2, hz, h3⟩ := h
  exact ⟨a, cap, hv, h1, h2⟩
theorem Lst.nil {α : Type} (k : Nat) (E : World → Nat → Nat → α → Prop) (w : World) : Lst k E w NILS [] := ⟨none, 0, rfl, Nat.le_refl _, by decide, fun _ => rfl, Or.inl rfl⟩
/- Where the elements lie. -/
theorem Lst.get {α : Type} {k : Nat} {E : World → Nat → Nat → α → Prop} {w : World} {a : Option Addr} {n cap : Nat} {l : List α} (h : Lst k E w (.slice a n cap) l) (hn : 0 < l.length) : ∃ b off, a = some ⟨b, off, none⟩ ∧ n ≤ cap ∧ ∀ i x, l[i]? = some x → E w b (off + i * k) x := by
  obtain ⟨a', cap', hv, h1, h2, hz, h3⟩ := h
  injection hv with e1 e2 e3
  subst e1 e2 e3
  rcases h3 with rfl | ⟨b, off, ha, hc⟩
  · simp at hn
  · exact ⟨b, off, ha, h1, hc⟩
theorem Lst.len {α : Type} {k : Nat} {E : World → Nat → Nat → α → Prop} {w : World} {a : Option Addr} {n cap : Nat} {l : List α} (h : Lst k E w (.slice a n cap) l) : n = l.length := by
  obtain ⟨a', cap', hv, h1, h2, hz, h3⟩ := h
  injection hv with e1 e2 e3
/- The first of a list. -/
theorem Lst.take {α : Type} {k : Nat} {E : World → Nat → Nat → α → Prop} {w : World} {a : Option Addr} {n cap : Nat} {l : List α} (h : Lst k E w (.slice a n cap) l) (g : Nat) (hg : g ≤ l.length) : Lst k E w (.slice a g cap) (l.take g) := by
  obtain ⟨a', cap', hv, h1, h2, hz, h3⟩ := h
  injection hv with e1 e2 e3
  subst e1 e2 e3
  refine ⟨a, cap, by rw [List.length_take, Nat.min_eq_left hg], by rw [List.length_take]; omega, h2, hz, ?_⟩
  rcases h3 with rfl | ⟨b, off, ha, hc⟩
  · left; simp
  · right
    refine ⟨b, off, ha, fun i x hx => hc i x ?_⟩
    rw [List.getElem?_take] at hx
    split at hx
    · exact hx
    · cases hx
/- Rows of the call's own. -/
theorem infoI : (Tryz.prog.info? 3).map (fun i => (i.zero, i.size, i.bytes)) = some (some (.int .i64 0), 1, 8) := by kernel_rfl
theorem infoV : (Tryz.prog.info? 46).map (fun i => (i.zero, i.size, i.bytes)) = some (some (.agg #[.int .i64 0, .bool false, .int .i64 0]), 3, 24) := by kernel_rfl
theorem infoF : (Tryz.prog.info? 112).map (fun i => (i.zero, i.size, i.bytes)) = some (some (.agg #[.int .i64 0, .bool false, .int .i64 0, .bool false]), 4, 32) := by kernel_rfl
theorem infoS : (Tryz.prog.info? 108).map (fun i => (i.zero, i.size, i.bytes)) = some (some (.agg #[.bool false, .slice none 0 0, .int .i64 0, .slice none 0 0, .slice none 0 0, .slice none 0 0]), 6, 112) := by kernel_rfl
def RowI (B : Nat) (w : World) (v : Value) (l : List Int) : Prop := w.ownsRow B 3 1 v l.length (l.flatMap ic1)
def RowV (B : Nat) (w : World) (v : Value) (l : List VT) : Prop := w.ownsRow B 46 3 v l.length (l.flatMap VT.c)
def RowF (B : Nat) (w : World) (v : Value) (l : List FT) : Prop := w.ownsRow B 112 4 v l.length (l.flatMap FT.c)
theorem RowI.nil (B : Nat) (w : World) : RowI B w (.slice none 0 0) [] := World.ownsRow_nil _ _ _ _
theorem RowV.nil (B : Nat) (w : World) : RowV B w (.slice none 0 0) [] := World.ownsRow_nil _ _ _ _
theorem RowF.nil (B : Nat) (w : World) : RowF B w (.slice none 0 0) [] := World.ownsRow_nil _ _ _ _
theorem RowI.snoc {B : Nat} {w : World} {v : Value} {l : List Int} {a : Int} (h : w.ownsRow B 3 1 v (l.length + 1) (l.flatMap ic1 ++ ic1 a)) : RowI B w v (l ++ [a]) := by
  unfold RowI
  rw [List.length_append, List.flatMap_append]
  simpa using h
theorem RowV.snoc {B : Nat} {w : World} {v : Value} {l : List VT} {a : VT} (h : w.ownsRow B 46 3 v (l.length + 1) (l.flatMap VT.c ++ a.c)) : RowV B w v (l ++ [a]) := by
  unfold RowV
  rw [List.length_append, List.flatMap_append]
  simpa using h
theorem RowF.snoc {B : Nat} {w : World} {v : Value} {l : List FT} {a : FT} (h : w.ownsRow B 112 4 v (l.length + 1) (l.flatMap FT.c ++ a.c)) : RowF B w v (l ++ [a]) := by
  unfold RowF
  rw [List.length_append, List.flatMap_append]
  simpa using h
theorem flat_at {α : Type} (f : α → List Value) (k : Nat) (hf : ∀ a, (f a).length = k) : ∀ (l : List α) (i : Nat) (x : α) (j : Nat), l[i]? = some x → j < k → (l.flatMap f)[i * k + j]? = (f x)[j]? := by
  intro l
  induction l with
  | nil => intro i x j h; simp at h
  | cons a l ih =>
    intro i x j h hj
    rw [List.flatMap_cons]
    cases i with
    | zero =>
      simp only [List.getElem?_cons_zero, Option.some.injEq] at h
      subst h
      rw [Nat.zero_mul, Nat.zero_add, List.getElem?_append_left (by rw [hf]; exact hj)]
    | succ i =>
      rw [List.getElem?_cons_succ] at h
      rw [List.getElem?_append_right (by rw [hf, Nat.succ_mul]; omega), hf, show (i + 1) * k + j - k = i * k + j by rw [Nat.succ_mul]; omega]
      exact ih i x j h hj
theorem row_max {w : World} {B : Nat} {e : TypeId} {k : Nat} {v : Value} {n : Nat} {cs : List Value} (h : w.ownsRow B e k v n cs) : ∃ a c, v = .slice a n c ∧ n ≤ c ∧ c ≤ maxLen ∧ (a = none → c = 0) := by
  obtain ⟨_, ⟨h1, h2⟩ | ⟨g, cap, cur, hv, _, _, h3, h4, _⟩⟩ := h
  · exact ⟨none, 0, by rw [h1, h2], by omega, by decide, fun _ => rfl⟩
  · exact ⟨_, _, hv, h3, h4, fun hh => by cases hh⟩
theorem row_lst {α : Type} {E : World → Nat → Nat → α → Prop} {f : α → List Value} {k : Nat} (hf : ∀ a, (f a).length = k) {w : World} {B : Nat} {e : TypeId} {v : Value} {l : List α} (h : w.ownsRow B e k v l.length (l.flatMap f))
    (hE : ∀ b o x, (∀ j, j < k → w.cell? ⟨b, o + j, none⟩ = (f x)[j]?) → E w b o x) : Lst k E w v l := by
  obtain ⟨a, c, hv, h1, h2, hz⟩ := row_max h
  have h0 := h
  refine ⟨a, c, hv, h1, h2, hz, ?_⟩
  obtain ⟨hl, ⟨_, h3⟩ | ⟨g, cap, cur, hv', hB, hg, h3⟩⟩ := h
  · left; exact List.eq_nil_of_length_eq_zero h3
  · right
    have hva := hv.symm.trans hv'
    injection hva with e1 _ _
    refine ⟨g, 0, e1, fun i x hx => hE _ _ _ fun j hj => ?_⟩
    have hi : i < l.length := (List.getElem?_eq_some_iff.1 hx).1
    have hij : i * k + j < l.length * k := by
      have : (i + 1) * k ≤ l.length * k := Nat.mul_le_mul_right k hi
      rw [Nat.succ_mul] at this
      omega
    rw [hv'] at h0
    have := h0.cellAt (i * k + j) hij
    rw [Nat.zero_add, this]
    exact flat_at f k hf l i x j hx hj
theorem RowI.lst {B : Nat} {w : World} {v : Value} {l : List Int} (h : RowI B w v l) : LI w v l := row_lst (f := ic1) (k := 1) (E := EI) (fun _ => rfl) h (fun b o x hh => hh 0 (by decide))
theorem RowV.lst {B : Nat} {w : World} {v : Value} {l : List VT} (h : RowV B w v l) : LV w v l := row_lst (f := VT.c) (k := 3) (E := EV) (fun _ => rfl) h (fun b o x hh => ⟨hh 0 (by decide), hh 1 (by decide), hh 2 (by decide)⟩)
theorem RowF.lst {B : Nat} {w : World} {v : Value} {l : List FT} (h : RowF B w v l) : LF w v l := row_lst (f := FT.c) (k := 4) (E := EF) (fun _ => rfl) h (fun b o x hh => ⟨⟨hh 0 (by decide), hh 1 (by decide), hh 2 (by decide)⟩, hh 3 (by decide)⟩)
theorem row_grew {w w' : World} {B : Nat} {e : TypeId} {k : Nat} {v : Value} {n : Nat} {cs : List Value} (h : w.ownsRow B e k v n cs) (g : Grew w w') : w'.ownsRow B e k v n cs := row_turn h (g.turn []) (by simp)
theorem RowI.grew {B : Nat} {w w' : World} {v : Value} {l : List Int} (h : RowI B w v l) (g : Grew w w') : RowI B w' v l := row_grew h g
theorem RowV.grew {B : Nat} {w w' : World} {v : Value} {l : List VT} (h : RowV B w v l) (g : Grew w w') : RowV B w' v l := row_grew h g
theorem RowF.grew {B : Nat} {w w' : World} {v : Value} {l : List FT} (h : RowF B w v l) (g : Grew w w') : RowF B w' v l := row_grew h g
theorem TB.grew {b B : Nat} {w w' : World} (h : TB b B w w') (hb : w.heap.size ≤ b) (hB : w.heap.size ≤ B) : Grew w w' :=
  ⟨⟨h.os, h.tape, h.output, h.size, fun k hk => h.block k hk (by omega) (by omega)⟩, h.size⟩
theorem TB.grew' {b B : Nat} {w0 w w' : World} (h : TB b B w w') (g : Grew w0 w) (hb : w0.heap.size ≤ b) (hB : w0.heap.size ≤ B) : Grew w0 w' :=
  ⟨⟨h.os.trans g.1.os, h.tape.trans g.1.tape, h.output.trans g.1.output, Nat.le_trans g.2 h.size, fun k hk => (h.block k (Nat.lt_of_lt_of_le hk g.2) (by omega) (by omega)).trans (g.1.block k hk)⟩, Nat.le_trans g.2 h.size⟩
/- Blocks of structs. -/
def sobj (f : Bool) (sv : Value) (k : Int) (pv rv fv : Value) : Obj := .cells #[.bool f, sv, .int .i64 k, pv, rv, fv] 108 (0, 0)
def cobj (k : Int) (pv rv fv : Value) : Obj := .cells #[.int .i64 k, pv, rv, fv] 106 (0, 0)
def fobj (x : FT) : Obj := .cells #[.int .i64 x.ty.num, .bool x.ty.null, .int .i64 x.ty.heap, .bool x.mut_] 112 (0, 0)
theorem box_s {w : World} {b : Nat} {f : Bool} {sv : Value} {k : Int} {pv rv fv : Value} (h : w.heap[b]? = some (sobj f sv k pv rv fv)) :
    w.cell? ⟨b, 0, none⟩ = some (.bool f) ∧ w.cell? ⟨b, 1, none⟩ = some sv ∧ w.cell? ⟨b, 2, none⟩ = some (.int .i64 k) ∧ w.cell? ⟨b, 3, none⟩ = some pv ∧ w.cell? ⟨b, 4, none⟩ = some rv ∧ w.cell? ⟨b, 5, none⟩ = some fv :=
  ⟨cell_of h 0, cell_of h 1, cell_of h 2, cell_of h 3, cell_of h 4, cell_of h 5⟩
theorem box_c {w : World} {b : Nat} {k : Int} {pv rv fv : Value} (h : w.heap[b]? = some (cobj k pv rv fv)) :
    w.cell? ⟨b, 0, none⟩ = some (.int .i64 k) ∧ w.cell? ⟨b, 1, none⟩ = some pv ∧ w.cell? ⟨b, 2, none⟩ = some rv ∧ w.cell? ⟨b, 3, none⟩ = some fv :=
  ⟨cell_of h 0, cell_of h 1, cell_of h 2, cell_of h 3⟩
theorem Grew.other {w w' : World} (g : Grew w w') {b : Nat} {o : Obj} (h : w.heap[b]? = some o) : w'.heap[b]? = some o := (g.turn []).other h (by simp)
end Go.Proofs.YtnmbniojejckpaaGreatDoor
