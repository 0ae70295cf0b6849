/-
  The deferred functions that recover; no statement is proved here.
-/
import Derived.Test.YtfnfbioenngjoaaDoorCod
import Derived.Test.YtfnfbioenngjoaaDoorReaders
import Derived.Defers
import Derived.Recover
namespace Go.Proofs.YtfnfbioenngjoaaDoor
open Go.RowKit
set_option linter.unusedVariables false
set_option linter.unusedSimpArgs false

theorem Reads.drewN {w : World} {v : Value} {l : List Int} (h : Reads w v l) (n : Nat) : Reads (w.drewN n) v l := ((Grew.refl w).drewN n).reads h
theorem q0_same {f : FuncId} {args : Array Value} {w : World} {x : Nat} {v : Value} (h : ∀ k, Calls Tryd.prog f args (w.drewN k) fun e w' => e = .returned v ∧ w' = w.drewN k) :
    Calls Tryd.prog f args (w.drewN x) fun e w'' => e = .returned v ∧ ∃ n, w'' = w.drewN n := (h x).mono fun _ _ ⟨he, hm⟩ => ⟨he, x, hm⟩
/- What cursors and writers give up with. -/
def flt (p e : Int) : List PanicEntry := [{ v := .iface 78 (.agg #[.int .i64 p, .int .i64 e]), recovered := false }]
theorem giveUp_any (p e : Int) (w : World) :
    Calls Tryd.prog 50 #[.int .i64 p, .int .i64 e] w fun en w' => en = .panicked (flt p e) ∧ w' = w := by
  go_enter Tryd.func50, Tryd.ntmps50
  go_wp2
  exact ⟨rfl, rfl, rfl⟩
end Go.Proofs.YtfnfbioenngjoaaDoor

namespace Go.Proofs.YtfnfbioenngjoaaDoor
open Go.RowKit
set_option linter.unusedVariables false
set_option linter.unusedSimpArgs false

theorem wrap64_sg (n : Int) : wrap64 n = sg64 n := by unfold wrap64 sg64; omega
end Go.Proofs.YtfnfbioenngjoaaDoor

namespace Go.Proofs.YtfnfbioenngjoaaDoor
open Go.RowKit
set_option linter.unusedVariables false
set_option linter.unusedSimpArgs false
set_option linter.constructorNameAsVariable false

def vt (n : Int) (nul : Bool) (h : Int) : Value := .agg #[.int .i64 n, .bool nul, .int .i64 h]
def VT.v (x : VT) : Value := vt x.num x.null x.heap
def FT.v (x : FT) : Value := .agg #[.int .i64 x.ty.num, .bool x.ty.null, .int .i64 x.ty.heap, .bool x.mut_]
def BK.v (x : BK) : Value := .agg #[.int .i64 x.type_, .int .i64 x.result.num, .bool x.result.null, .int .i64 x.result.heap]
theorem atR_in {α : Type} {l : List Int} {p : Nat} {k : Int → RS α} (h : p < l.length) : atR l p k = k (l.getD p 0) := by unfold atR; rw [if_pos h]
theorem atR_no {α : Type} {l : List Int} {p : Nat} {k : Int → RS α} (h : ¬ p < l.length) : atR l p k = .error (p, 3) := by unfold atR; rw [if_neg h]
end Go.Proofs.YtfnfbioenngjoaaDoor

namespace Go.Proofs.YtfnfbioenngjoaaDoor
open Go.RowKit
set_option linter.unusedVariables false
set_option linter.unusedSimpArgs false
set_option linter.constructorNameAsVariable false

end Go.Proofs.YtfnfbioenngjoaaDoor

namespace Go.Proofs.YtfnfbioenngjoaaDoor
open Go.RowKit
set_option linter.unusedVariables false
set_option linter.unusedSimpArgs false
set_option linter.constructorNameAsVariable false

def VT.c (x : VT) : List Value := [.int .i64 x.num, .bool x.null, .int .i64 x.heap]
theorem infoV : (Tryd.prog.info? 23).map (fun i => (i.zero, i.size, i.bytes)) = some (some (.agg #[.int .i64 0, .bool false, .int .i64 0]), 3, 24) := by kernel_rfl
/- The slice holds these elements. -/
def RowV (B : Nat) (w : World) (v : Value) (l : List VT) : Prop := w.ownsRow B 23 3 v l.length (l.flatMap VT.c)
theorem RowV.nil (B : Nat) (w : World) : RowV B w (.slice none 0 0) [] := World.ownsRow_nil _ _ _ _
theorem RowV.snoc {B : Nat} {w : World} {v : Value} {l : List VT} {a : VT} (h : w.ownsRow B 23 3 v (l.length + 1) (l.flatMap VT.c ++ VT.c a)) : RowV B w v (l ++ [a]) := by
  unfold RowV
  rw [List.length_append, List.flatMap_append]
  simpa using h
end Go.Proofs.YtfnfbioenngjoaaDoor

namespace Go.Proofs.YtfnfbioenngjoaaDoor
open Go.RowKit
set_option linter.unusedVariables false
set_option linter.unusedSimpArgs false
set_option linter.constructorNameAsVariable false

def FT.c (x : FT) : List Value := [.int .i64 x.ty.num, .bool x.ty.null, .int .i64 x.ty.heap, .bool x.mut_]
end Go.Proofs.YtfnfbioenngjoaaDoor

namespace Go.Proofs.YtfnfbioenngjoaaDoor
open Go.RowKit
set_option linter.unusedVariables false
set_option linter.unusedSimpArgs false
set_option linter.constructorNameAsVariable false

def ic1 (n : Int) : List Value := [.int .i64 n]
theorem infoI : (Tryd.prog.info? 3).map (fun i => (i.zero, i.size, i.bytes)) = some (some (.int .i64 0), 1, 8) := by kernel_rfl
/- The slice holds these elements. -/
def RowI (B : Nat) (w : World) (v : Value) (l : List Int) : Prop := w.ownsRow B 3 1 v l.length (l.flatMap ic1)
theorem RowI.nil (B : Nat) (w : World) : RowI B w (.slice none 0 0) [] := World.ownsRow_nil _ _ _ _
theorem RowI.snoc {B : Nat} {w : World} {v : Value} {l : List Int} {a : Int} (h : w.ownsRow B 3 1 v (l.length + 1) (l.flatMap ic1 ++ ic1 a)) : RowI B w v (l ++ [a]) := by
  unfold RowI
  rw [List.length_append, List.flatMap_append]
  simpa using h
end Go.Proofs.YtfnfbioenngjoaaDoor

namespace Go.Proofs.YtfnfbioenngjoaaDoor
open Go.RowKit
set_option linter.unusedVariables false
set_option linter.unusedSimpArgs false
set_option linter.constructorNameAsVariable false

theorem RowV.turn {B : Nat} {w w' : World} {v : Value} {l : List VT} {S : List Nat} (h : RowV B w v l) (t : Turn S w w') (hS : ∀ x ∈ S, NoT w x 23) : RowV B w' v l := row_turn h t hS
theorem RowI.turn {B : Nat} {w w' : World} {v : Value} {l : List Int} {S : List Nat} (h : RowI B w v l) (t : Turn S w w') (hS : ∀ x ∈ S, NoT w x 3) : RowI B w' v l := row_turn h t hS
theorem RowV.low {B B' : Nat} {w : World} {v : Value} {l : List VT} (h : RowV B w v l) (hb : B' ≤ B) : RowV B' w v l := row_low h hb
theorem RowI.low {B B' : Nat} {w : World} {v : Value} {l : List Int} (h : RowI B w v l) (hb : B' ≤ B) : RowI B' w v l := row_low h hb
theorem row_new (w : World) (e : TypeId) (k : Nat) (hk : 0 < k) (cs : Array Value) (hc : cs.size = k) (h1 : ∀ u ∈ cs.toList, u.oneCell' = true) : (w.alloc (.cells cs e)).ownsRow w.heap.size e k (.slice (some ⟨w.heap.size, 0, none⟩) 1 1) 1 cs.toList := by
  refine ⟨by simp [hc], Or.inr ⟨w.heap.size, 1, cs, rfl, Nat.le_refl _, heap_alloc_last _ _, ?_⟩⟩
  refine ⟨Nat.le_refl _, by unfold maxLen; omega, ?_⟩
  simp [hc]
  exact List.take_of_length_le (by simp [hc])
end Go.Proofs.YtfnfbioenngjoaaDoor

namespace Go.Proofs.YtfnfbioenngjoaaDoor
open Go.RowKit
set_option linter.unusedVariables false
set_option linter.unusedSimpArgs false
set_option linter.constructorNameAsVariable false

theorem flat_at {α : Type} (f : α → List Value) (k : Nat) (hf : ∀ a, (f a).length = k) : ∀ (l : List α) (i : Nat) (x : α) (j : Nat), l[i]? = some x → j < k → (l.flatMap f)[i * k + j]? = (f x)[j]? := by
  intro l
  induction l with
  | nil => intro i x j h; simp at h
  | cons a l ih =>
    intro i x j h hj
    rw [List.flatMap_cons]
    cases i with
    | zero =>
      simp only [List.getElem?_cons_zero, Option.some.injEq] at h
      subst h
      rw [Nat.zero_mul, Nat.zero_add, List.getElem?_append_left (by rw [hf]; exact hj)]
    | succ i =>
      rw [List.getElem?_cons_succ] at h
      rw [List.getElem?_append_right (by rw [hf, Nat.succ_mul]; omega), hf, show (i + 1) * k + j - k = i * k + j by rw [Nat.succ_mul]; omega]
      exact ih i x j h hj
abbrev NILS : Value := .slice none 0 0

def Lst {α : Type} (k : Nat) (E : World → Nat → Nat → α → Prop) (w : World) (v : Value) (l : List α) : Prop :=
  ∃ a cap, v = .slice a l.length cap ∧ l.length ≤ cap ∧ cap ≤ maxLen ∧ (a = none → cap = 0) ∧ (l = [] ∨ ∃ b off, a = some ⟨b, off, none⟩ ∧ ∀ i x, l[i]? = some x → E w b (off + i * k) x)
def EI (w : World) (b o : Nat) (x : Int) : Prop := w.cell? ⟨b, o, none⟩ = some (.int .i64 x)
def EV (w : World) (b o : Nat) (x : VT) : Prop := w.cell? ⟨b, o, none⟩ = some (.int .i64 x.num) ∧ w.cell? ⟨b, o + 1, none⟩ = some (.bool x.null) ∧ w.cell? ⟨b, o + 2, none⟩ = some (.int .i64 x.heap)
def EF (w : World) (b o : Nat) (x : FT) : Prop := EV w b o x.ty ∧ w.cell? ⟨b, o + 3, none⟩ = some (.bool x.mut_)
abbrev LI := Lst 1 EI
abbrev LV := Lst 3 EV
abbrev LF := Lst 4 EF
def SubR (w : World) (x : SB) (sv pv rv fv : Value) : Prop := LI w sv x.supers ∧ LV w pv x.comp.params ∧ LV w rv x.comp.results ∧ LF w fv x.comp.fields
def ES (w : World) (b o : Nat) (x : SB) : Prop := ∃ sv pv rv fv, SubR w x sv pv rv fv ∧ w.cell? ⟨b, o, none⟩ = some (.bool x.final_) ∧ w.cell? ⟨b, o + 1, none⟩ = some sv ∧ w.cell? ⟨b, o + 2, none⟩ = some (.int .i64 x.comp.kind) ∧
  w.cell? ⟨b, o + 3, none⟩ = some pv ∧ w.cell? ⟨b, o + 4, none⟩ = some rv ∧ w.cell? ⟨b, o + 5, none⟩ = some fv
abbrev LS := Lst 6 ES
theorem lt_of_cell {w : World} {b o : Nat} {v : Value} (h : w.cell? ⟨b, o, none⟩ = some v) : b < w.heap.size := by
  unfold World.cell? at h
  rcases Nat.lt_or_ge b w.heap.size with h' | h'
  · exact h'
  · rw [Array.getElem?_eq_none h'] at h; cases h
theorem cell_grew {w w' : World} {b o : Nat} {v : Value} (h : w.cell? ⟨b, o, none⟩ = some v) (g : Grew w w') : w'.cell? ⟨b, o, none⟩ = some v := by
  rw [g.1.cell (lt_of_cell h)]; exact h
theorem Lst.grew {α : Type} {k : Nat} {E : World → Nat → Nat → α → Prop} (hE : ∀ (w w' : World) (b o : Nat) (x : α), E w b o x → Grew w w' → E w' b o x) {w w' : World} {v : Value} {l : List α} (h : Lst k E w v l) (g : Grew w w') : Lst k E w' v l := by
  obtain ⟨a, cap, hv, h1, h2, hz, h3⟩ := h
  refine ⟨a, cap, hv, h1, h2, hz, h3.imp_right ?_⟩
  rintro ⟨b, off, ha, hc⟩
  exact ⟨b, off, ha, fun i x hx => hE _ _ _ _ _ (hc i x hx) g⟩
theorem EI.grew {w w' : World} {b o : Nat} {x : Int} (h : EI w b o x) (g : Grew w w') : EI w' b o x := cell_grew h g
theorem EV.grew {w w' : World} {b o : Nat} {x : VT} (h : EV w b o x) (g : Grew w w') : EV w' b o x := ⟨cell_grew h.1 g, cell_grew h.2.1 g, cell_grew h.2.2 g⟩
theorem EF.grew {w w' : World} {b o : Nat} {x : FT} (h : EF w b o x) (g : Grew w w') : EF w' b o x := ⟨h.1.grew g, cell_grew h.2 g⟩
theorem LI.grew {w w' : World} {v : Value} {l : List Int} (h : LI w v l) (g : Grew w w') : LI w' v l := Lst.grew (E := EI) (fun _ _ _ _ _ h g => EI.grew h g) h g
theorem LV.grew {w w' : World} {v : Value} {l : List VT} (h : LV w v l) (g : Grew w w') : LV w' v l := Lst.grew (E := EV) (fun _ _ _ _ _ h g => EV.grew h g) h g
theorem LF.grew {w w' : World} {v : Value} {l : List FT} (h : LF w v l) (g : Grew w w') : LF w' v l := Lst.grew (E := EF) (fun _ _ _ _ _ h g => EF.grew h g) h g
theorem SubR.grew {w w' : World} {x : SB} {sv pv rv fv : Value} (h : SubR w x sv pv rv fv) (g : Grew w w') : SubR w' x sv pv rv fv := ⟨h.1.grew g, h.2.1.grew g, h.2.2.1.grew g, h.2.2.2.grew g⟩
theorem ES.grew {w w' : World} {b o : Nat} {x : SB} (h : ES w b o x) (g : Grew w w') : ES w' b o x := by
  obtain ⟨sv, pv, rv, fv, h0, h1, h2, h3, h4, h5, h6⟩ := h
  exact ⟨sv, pv, rv, fv, h0.grew g, cell_grew h1 g, cell_grew h2 g, cell_grew h3 g, cell_grew h4 g, cell_grew h5 g, cell_grew h6 g⟩
theorem LS.grew {w w' : World} {v : Value} {l : List SB} (h : LS w v l) (g : Grew w w') : LS w' v l := Lst.grew (E := ES) (fun _ _ _ _ _ h g => ES.grew h g) h g
theorem Lst.one {α : Type} {k : Nat} {E : World → Nat → Nat → α → Prop} {w : World} {v : Value} {l : List α} (h : Lst k E w v l) : ∃ a cap, v = .slice a l.length cap ∧ l.length ≤ cap ∧ cap ≤ maxLen := by
  obtain ⟨a, cap, hv, h1, h2, hz, h3⟩ := h
  exact ⟨a, cap, hv, h1, h2⟩
theorem Lst.nil {α : Type} (k : Nat) (E : World → Nat → Nat → α → Prop) (w : World) : Lst k E w NILS [] := ⟨none, 0, rfl, Nat.le_refl _, by decide, fun _ => rfl, Or.inl rfl⟩
theorem Lst.get {α : Type} {k : Nat} {E : World → Nat → Nat → α → Prop} {w : World} {a : Option Addr} {n cap : Nat} {l : List α} (h : Lst k E w (.slice a n cap) l) (hn : 0 < l.length) : ∃ b off, a = some ⟨b, off, none⟩ ∧ n ≤ cap ∧ ∀ i x, l[i]? = some x → E w b (off + i * k) x := by
  obtain ⟨a', cap', hv, h1, h2, hz, h3⟩ := h
  injection hv with e1 e2 e3
  subst e1 e2 e3
  rcases h3 with rfl | ⟨b, off, ha, hc⟩
  · simp at hn
  · exact ⟨b, off, ha, h1, hc⟩
theorem row_maxC {w : World} {B : Nat} {e : TypeId} {k : Nat} {v : Value} {n : Nat} {cs : List Value} (h : w.ownsRow B e k v n cs) : ∃ a c, v = .slice a n c ∧ n ≤ c ∧ c ≤ maxLen ∧ (a = none → c = 0) := by
  obtain ⟨_, ⟨h1, h2⟩ | ⟨g, cap, cur, hv, _, _, h3, h4, _⟩⟩ := h
  · exact ⟨none, 0, by rw [h1, h2], by omega, by decide, fun _ => rfl⟩
  · exact ⟨_, _, hv, h3, h4, fun hh => by cases hh⟩
theorem row_lst {α : Type} {E : World → Nat → Nat → α → Prop} {f : α → List Value} {k : Nat} (hf : ∀ a, (f a).length = k) {w : World} {B : Nat} {e : TypeId} {v : Value} {l : List α} (h : w.ownsRow B e k v l.length (l.flatMap f))
    (hE : ∀ b o x, (∀ j, j < k → w.cell? ⟨b, o + j, none⟩ = (f x)[j]?) → E w b o x) : Lst k E w v l := by
  obtain ⟨a, c, hv, h1, h2, hz⟩ := row_maxC h
  have h0 := h
  refine ⟨a, c, hv, h1, h2, hz, ?_⟩
  obtain ⟨hl, ⟨_, h3⟩ | ⟨g, cap, cur, hv', hB, hg, h3⟩⟩ := h
  · left; exact List.eq_nil_of_length_eq_zero h3
  · right
    have hva := hv.symm.trans hv'
    injection hva with e1 _ _
    refine ⟨g, 0, e1, fun i x hx => hE _ _ _ fun j hj => ?_⟩
    have hi : i < l.length := (List.getElem?_eq_some_iff.1 hx).1
    have hij : i * k + j < l.length * k := by
      have : (i + 1) * k ≤ l.length * k := Nat.mul_le_mul_right k hi
      rw [Nat.succ_mul] at this
      omega
    rw [hv'] at h0
    have := h0.cellAt (i * k + j) hij
    rw [Nat.zero_add, this]
    exact flat_at f k hf l i x j hx hj
theorem RowI.lst {B : Nat} {w : World} {v : Value} {l : List Int} (h : RowI B w v l) : LI w v l := row_lst (f := ic1) (k := 1) (E := EI) (fun _ => rfl) h (fun b o x hh => hh 0 (by decide))
theorem RowV.lst {B : Nat} {w : World} {v : Value} {l : List VT} (h : RowV B w v l) : LV w v l := row_lst (f := VT.c) (k := 3) (E := EV) (fun _ => rfl) h (fun b o x hh => ⟨hh 0 (by decide), hh 1 (by decide), hh 2 (by decide)⟩)
end Go.Proofs.YtfnfbioenngjoaaDoor

namespace Go.Proofs.YtfnfbioenngjoaaDoor
open Go.RowKit
set_option linter.unusedVariables false
set_option linter.unusedSimpArgs false
set_option linter.constructorNameAsVariable false

def ic (n : Int) (t : TypeId) : Obj := .cells #[.int .i64 n] t (0, 0)
theorem assertF (v : Value) (w : World) : (Instr.typeAssert (.iface 78 v) 20 78 false).run Tryd.prog w = .ok v w := by kernel_rfl
theorem heap_four (w : World) (o1 o2 o3 o4 : Obj) : ((((w.alloc o1).alloc o2).alloc o3).alloc o4).heap[w.heap.size]? = some o1 ∧ ((((w.alloc o1).alloc o2).alloc o3).alloc o4).heap[w.heap.size + 1]? = some o2 ∧ ((((w.alloc o1).alloc o2).alloc o3).alloc o4).heap[w.heap.size + 1 + 1]? = some o3 ∧ ((((w.alloc o1).alloc o2).alloc o3).alloc o4).heap[w.heap.size + 1 + 1 + 1]? = some o4 := by
  have h1 : (w.alloc o1).heap.size = w.heap.size + 1 := by simp
  have h2 : ((w.alloc o1).alloc o2).heap.size = w.heap.size + 1 + 1 := by simp
  have h3 : (((w.alloc o1).alloc o2).alloc o3).heap.size = w.heap.size + 1 + 1 + 1 := by simp
  refine ⟨heap_alloc (heap_alloc (heap_alloc (heap_alloc_last _ _) _) _) _, ?_, ?_, ?_⟩
  · rw [← h1]
    exact heap_alloc (heap_alloc (heap_alloc_last _ _) _) _
  · rw [← h2]
    exact heap_alloc (heap_alloc_last _ _) _
  · rw [← h3]
    exact heap_alloc_last _ _
theorem heap_three (w : World) (o1 o2 o3 : Obj) : (((w.alloc o1).alloc o2).alloc o3).heap[w.heap.size]? = some o1 ∧ (((w.alloc o1).alloc o2).alloc o3).heap[w.heap.size + 1]? = some o2 ∧ (((w.alloc o1).alloc o2).alloc o3).heap[w.heap.size + 1 + 1]? = some o3 := by
  have h1 : (w.alloc o1).heap.size = w.heap.size + 1 := by simp
  have h2 : ((w.alloc o1).alloc o2).heap.size = w.heap.size + 1 + 1 := by simp
  refine ⟨heap_alloc (heap_alloc (heap_alloc_last _ _) _) _, ?_, ?_⟩
  · rw [← h1]
    exact heap_alloc (heap_alloc_last _ _) _
  · rw [← h2]
    exact heap_alloc_last _ _
/- What a call at a place answers. -/
def topR {α : Type} (R : Nat → RS α) (z : α) (l : List Int) (x : Int) : α × Int × Int :=
  if 0 ≤ x ∧ x ≤ l.length then match R x.toNat with
    | .ok (a, q) => (a, q, 0)
    | .error (f, e) => (z, f, e)
  else (z, 0, 1)
theorem topR_in {α : Type} {R : Nat → RS α} {z : α} {l : List Int} {p : Nat} (hp : p ≤ l.length) : topR R z l p = match R p with
    | .ok (a, q) => (a, (q : Int), 0)
    | .error (f, e) => (z, (f : Int), (e : Int)) := by
  unfold topR
  rw [if_pos (by omega), Int.toNat_natCast]
theorem topR_out {α : Type} {R : Nat → RS α} {z : α} {l : List Int} {x : Int} (h : ¬ (0 ≤ x ∧ x ≤ l.length)) : topR R z l x = (z, 0, 1) := by
  unfold topR; rw [if_neg h]
def ansV (x : VT × Int × Int) : Value := .tuple #[x.1.v, .int .i64 x.2.1, .int .i64 x.2.2]
def ansR (x : VT × Int × Int) : Value := .tuple #[x.1.v, .int .i64 x.2.1, .int .i64 x.2.2]
end Go.Proofs.YtfnfbioenngjoaaDoor
