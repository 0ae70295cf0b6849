/-
  A checker in memory; no statement is proved here.
-/
import Derived.Test.YtkghplkmfpnhdaaGreatDoorLoO
import Derived.Test.YtkghplkmfpnhdaaGreatDoorCpC
namespace Go.Proofs.YtkghplkmfpnhdaaGreatDoor
open Go.RowKit
set_option linter.unusedVariables false
set_option linter.unusedSimpArgs false

/- A frame as its cells tell it. -/
structure FV where
  op : Int
  inn : Value
  out : Value
  height : Nat
  fresh : Nat
  dead : Bool
def FV.c (x : FV) : List Value := [.int .i64 x.op, x.inn, x.out, .int .i64 x.height, .int .i64 x.fresh, .bool x.dead]
def FV.v (x : FV) : Value := .agg #[.int .i64 x.op, x.inn, x.out, .int .i64 x.height, .int .i64 x.fresh, .bool x.dead]
def isSl (v : Value) : Prop := ∃ a n c, v = .slice a n c
theorem isSl.one {v : Value} (h : isSl v) : v.oneCell' = true := by
  obtain ⟨a, n, c, rfl⟩ := h
  cases a <;> rfl
def cu (n : Int) : List Value := [.int .u32 n]
theorem infoFr : (Tryz.prog.info? 73).map (fun i => (i.zero, i.size, i.bytes)) = some (some (.agg #[.int .i64 0, .slice none 0 0, .slice none 0 0, .int .i64 0, .int .i64 0, .bool false]), 6, 80) := by kernel_rfl
theorem infoU : (Tryz.prog.info? 47).map (fun i => (i.zero, i.size, i.bytes)) = some (some (.int .u32 0), 1, 4) := by kernel_rfl
def RowFr (B : Nat) (w : World) (v : Value) (l : List FV) : Prop := w.ownsRow B 73 6 v l.length (l.flatMap FV.c)
def RowU (B : Nat) (w : World) (v : Value) (l : List Int) : Prop := w.ownsRow B 47 1 v l.length (l.flatMap cu)
def ckObj (gv rv lv fv ov qv : Value) : Obj := .cells #[.bool true, gv, rv, lv, fv, ov, qv] 60 (0, 0)
/- The checker at C: its locals, the fresh ones, its operands, its frames; all in blocks from B on. -/
structure CK (B : Nat) (w : World) (C : Nat) (lv fv ov qv : Value) (lo : List LO) (fr : List Int) (ops : List VT) (fs : List FV) : Prop where
  obj : ∃ gv rv, isSl gv ∧ isSl rv ∧ w.heap[C]? = some (ckObj gv rv lv fv ov qv)
  base : B ≤ C
  rlo : RowLo B w lv lo
  rfr : RowU B w fv fr
  rops : RowV B w ov ops
  rfs : RowFr B w qv fs
  sl : ∀ x ∈ fs, isSl x.inn ∧ isSl x.out
theorem CK.grew {B : Nat} {w w' : World} {C : Nat} {lv fv ov qv : Value} {lo : List LO} {fr : List Int} {ops : List VT} {fs : List FV} (h : CK B w C lv fv ov qv lo fr ops fs) (g : Grew w w') : CK B w' C lv fv ov qv lo fr ops fs := by
  obtain ⟨⟨gv, rv, a, b, c⟩, h1, h2, h3, h4, h5, h6⟩ := h
  exact ⟨⟨gv, rv, a, b, (g.turn []).other c (by simp)⟩, h1, row_grew h2 g, row_grew h3 g, row_grew h4 g, row_grew h5 g, h6⟩
theorem CK.lt {B : Nat} {w : World} {C : Nat} {lv fv ov qv : Value} {lo : List LO} {fr : List Int} {ops : List VT} {fs : List FV} (h : CK B w C lv fv ov qv lo fr ops fs) : C < w.heap.size := by
  obtain ⟨gv, rv, a, b, c⟩ := h.obj
  exact lt_of_obj c
theorem CK.c0 {B : Nat} {w : World} {C : Nat} {lv fv ov qv : Value} {lo : List LO} {fr : List Int} {ops : List VT} {fs : List FV} (h : CK B w C lv fv ov qv lo fr ops fs) : w.cell? ⟨C, 0, none⟩ = some (.bool true) := by
  obtain ⟨gv, rv, a, b, c⟩ := h.obj
  rw [cell_of c]; rfl
theorem CK.c3 {B : Nat} {w : World} {C : Nat} {lv fv ov qv : Value} {lo : List LO} {fr : List Int} {ops : List VT} {fs : List FV} (h : CK B w C lv fv ov qv lo fr ops fs) : w.cell? ⟨C, 3, none⟩ = some lv := by
  obtain ⟨gv, rv, a, b, c⟩ := h.obj
  rw [cell_of c]; rfl
theorem CK.c4 {B : Nat} {w : World} {C : Nat} {lv fv ov qv : Value} {lo : List LO} {fr : List Int} {ops : List VT} {fs : List FV} (h : CK B w C lv fv ov qv lo fr ops fs) : w.cell? ⟨C, 4, none⟩ = some fv := by
  obtain ⟨gv, rv, a, b, c⟩ := h.obj
  rw [cell_of c]; rfl
theorem CK.c5 {B : Nat} {w : World} {C : Nat} {lv fv ov qv : Value} {lo : List LO} {fr : List Int} {ops : List VT} {fs : List FV} (h : CK B w C lv fv ov qv lo fr ops fs) : w.cell? ⟨C, 5, none⟩ = some ov := by
  obtain ⟨gv, rv, a, b, c⟩ := h.obj
  rw [cell_of c]; rfl
theorem CK.c6 {B : Nat} {w : World} {C : Nat} {lv fv ov qv : Value} {lo : List LO} {fr : List Int} {ops : List VT} {fs : List FV} (h : CK B w C lv fv ov qv lo fr ops fs) : w.cell? ⟨C, 6, none⟩ = some qv := by
  obtain ⟨gv, rv, a, b, c⟩ := h.obj
  rw [cell_of c]; rfl
theorem CK.z {B : Nat} {w : World} {C : Nat} {lv fv ov qv : Value} {lo : List LO} {fr : List Int} {ops : List VT} {fs : List FV} (h : CK B w C lv fv ov qv lo fr ops fs) (j : Nat) : w.frozen? ⟨C, j, none⟩ = false := by
  obtain ⟨gv, rv, a, b, c⟩ := h.obj
  exact free_of c j
/- Of what lies below B nothing has changed. -/
def KB (B : Nat) (w w' : World) : Prop := Below B w w' ∧ w.heap.size ≤ w'.heap.size
theorem KB.refl (B : Nat) (w : World) : KB B w w := ⟨Below.refl _ _, Nat.le_refl _⟩
theorem KB.trans {B : Nat} {a b c : World} (h : KB B a b) (k : KB B b c) : KB B a c := ⟨h.1.trans k.1, Nat.le_trans h.2 k.2⟩
theorem Grew.kb {w w' : World} (g : Grew w w') {B : Nat} (hB : B ≤ w.heap.size) : KB B w w' := ⟨g.1.mono hB, g.2⟩
theorem KB.grew {w0 w w' : World} (g : Grew w0 w) (k : KB w0.heap.size w w') : Grew w0 w' := ⟨g.1.trans k.1, Nat.le_trans g.2 k.2⟩
theorem KB.set {B : Nat} {w w' : World} (h : KB B w w') {p : Addr} (hp : B ≤ p.block) (u : Value) : KB B w (w'.setCell p u) :=
  ⟨h.1.setCell hp u, by have := h.2; simpa using this⟩
theorem CK.set5 {B : Nat} {w : World} {C : Nat} {lv fv ov qv : Value} {lo : List LO} {fr : List Int} {ops ops' : List VT} {fs : List FV} (h : CK B w C lv fv ov qv lo fr ops fs) {u : Value} (hu : RowV B w u ops') : CK B (w.setCell ⟨C, 5, none⟩ u) C lv fv u qv lo fr ops' fs := by
  obtain ⟨⟨gv, rv, a, b, c⟩, h1, h2, h3, h4, h5, h6⟩ := h
  exact ⟨⟨gv, rv, a, b, by rw [heap_set c]; rfl⟩, h1, row_set h2 (NoT.of c (by decide)) _, row_set h3 (NoT.of c (by decide)) _, row_set hu (NoT.of c (by decide)) _, row_set h5 (NoT.of c (by decide)) _, h6⟩
theorem CK.set6 {B : Nat} {w : World} {C : Nat} {lv fv ov qv : Value} {lo : List LO} {fr : List Int} {ops : List VT} {fs fs' : List FV} (h : CK B w C lv fv ov qv lo fr ops fs) {u : Value} (hu : RowFr B w u fs') (hs : ∀ x ∈ fs', isSl x.inn ∧ isSl x.out) : CK B (w.setCell ⟨C, 6, none⟩ u) C lv fv ov u lo fr ops fs' := by
  obtain ⟨⟨gv, rv, a, b, c⟩, h1, h2, h3, h4, h5, h6⟩ := h
  exact ⟨⟨gv, rv, a, b, by rw [heap_set c]; rfl⟩, h1, row_set h2 (NoT.of c (by decide)) _, row_set h3 (NoT.of c (by decide)) _, row_set h4 (NoT.of c (by decide)) _, row_set hu (NoT.of c (by decide)) _, hs⟩
theorem CK.set4 {B : Nat} {w : World} {C : Nat} {lv fv ov qv : Value} {lo : List LO} {fr fr' : List Int} {ops : List VT} {fs : List FV} (h : CK B w C lv fv ov qv lo fr ops fs) {u : Value} (hu : RowU B w u fr') : CK B (w.setCell ⟨C, 4, none⟩ u) C lv u ov qv lo fr' ops fs := by
  obtain ⟨⟨gv, rv, a, b, c⟩, h1, h2, h3, h4, h5, h6⟩ := h
  exact ⟨⟨gv, rv, a, b, by rw [heap_set c]; rfl⟩, h1, row_set h2 (NoT.of c (by decide)) _, row_set hu (NoT.of c (by decide)) _, row_set h4 (NoT.of c (by decide)) _, row_set h5 (NoT.of c (by decide)) _, h6⟩
/- The first elements of a row. -/
theorem row_cut {w : World} {B : Nat} {e : TypeId} {k : Nat} {a : Option Addr} {n c : Nat} {cs : List Value} (h : w.ownsRow B e k (.slice a n c) n cs) {m : Nat} (hm : m ≤ n) : w.ownsRow B e k (.slice a m c) m (cs.take (m * k)) := by
  obtain ⟨hl, ⟨h1, h2⟩ | ⟨g, cap, cur, hv, hB, hg, h3, h4, h5, h6⟩⟩ := h
  · subst h2
    obtain rfl : m = 0 := by omega
    injection h1 with e1 e2 e3
    subst e1 e3
    exact ⟨by simp, Or.inl ⟨rfl, rfl⟩⟩
  · injection hv with e1 e2 e3
    subst e1 e3
    have hmk : m * k ≤ n * k := Nat.mul_le_mul_right k hm
    refine ⟨by rw [List.length_take, hl]; omega, Or.inr ⟨g, c, cur, rfl, hB, hg, by omega, h4, h5, ?_⟩⟩
    rw [← h6, List.take_take, Nat.min_eq_left hmk]
theorem flat_take {α : Type} (f : α → List Value) (k : Nat) (hf : ∀ a, (f a).length = k) : ∀ (l : List α) (m : Nat), (l.take m).flatMap f = (l.flatMap f).take (m * k) := by
  intro l
  induction l with
  | nil => simp
  | cons a l ih =>
    intro m
    cases m with
    | zero => simp
    | succ m =>
      rw [List.take_succ_cons, List.flatMap_cons, List.flatMap_cons, ih m, Nat.succ_mul, List.take_append, hf]
      congr 1
      · rw [List.take_of_length_le (by rw [hf]; omega)]
      · congr 1; omega
theorem RowV.cut {B : Nat} {w : World} {a : Option Addr} {c : Nat} {l : List VT} (h : RowV B w (.slice a l.length c) l) {m : Nat} (hm : m ≤ l.length) : RowV B w (.slice a m c) (l.take m) := by
  unfold RowV
  rw [List.length_take, Nat.min_eq_left hm, flat_take VT.c 3 (fun _ => rfl)]
  exact row_cut h hm
theorem RowFr.cut {B : Nat} {w : World} {a : Option Addr} {c : Nat} {l : List FV} (h : RowFr B w (.slice a l.length c) l) {m : Nat} (hm : m ≤ l.length) : RowFr B w (.slice a m c) (l.take m) := by
  unfold RowFr
  rw [List.length_take, Nat.min_eq_left hm, flat_take FV.c 6 (fun _ => rfl)]
  exact row_cut h hm
theorem RowU.cut {B : Nat} {w : World} {a : Option Addr} {c : Nat} {l : List Int} (h : RowU B w (.slice a l.length c) l) {m : Nat} (hm : m ≤ l.length) : RowU B w (.slice a m c) (l.take m) := by
  unfold RowU
  rw [List.length_take, Nat.min_eq_left hm, flat_take cu 1 (fun _ => rfl)]
  exact row_cut h hm
theorem RowFr.snoc {B : Nat} {w : World} {v : Value} {l : List FV} {a : FV} (h : w.ownsRow B 73 6 v (l.length + 1) (l.flatMap FV.c ++ a.c)) : RowFr B w v (l ++ [a]) := by
  unfold RowFr
  rw [List.length_append, List.flatMap_append]
  simpa using h
theorem RowU.snoc {B : Nat} {w : World} {v : Value} {l : List Int} {a : Int} (h : w.ownsRow B 47 1 v (l.length + 1) (l.flatMap cu ++ cu a)) : RowU B w v (l ++ [a]) := by
  unfold RowU
  rw [List.length_append, List.flatMap_append]
  simpa using h
theorem RowFr.nil (B : Nat) (w : World) : RowFr B w NILS [] := World.ownsRow_nil _ _ _ _
theorem RowU.nil (B : Nat) (w : World) : RowU B w NILS [] := World.ownsRow_nil _ _ _ _
/- The last frame. -/
theorem RowFr.last {B : Nat} {w : World} {v : Value} {l : List FV} {x : FV} (h : RowFr B w v (l ++ [x])) : ∃ g c, v = .slice (some ⟨g, 0, none⟩) (l.length + 1) c ∧ l.length + 1 ≤ c ∧ c ≤ maxLen ∧ B ≤ g ∧ (∃ cur : Array Value, w.heap[g]? = some (.cells cur 73 (0, 0))) ∧ ∀ j, j < 6 → w.cell? ⟨g, l.length * 6 + j, none⟩ = (FV.c x)[j]? := by
  have h0 := h
  obtain ⟨hl, ⟨_, h3⟩ | ⟨g, cap, cur, hv', hB, hg, h3, h4, h5, h6⟩⟩ := h
  · simp at h3
  · have hl2 : (l ++ [x]).length = l.length + 1 := by simp
    rw [hl2] at hv' h3
    refine ⟨g, cap, hv', h3, h4, hB, ⟨cur, hg⟩, fun j hj => ?_⟩
    rw [hv'] at h0
    unfold RowFr at h0
    rw [hl2] at h0
    have := h0.cellAt (l.length * 6 + j) (by omega)
    rw [this]
    exact flat_at FV.c 6 (fun _ => rfl) (l ++ [x]) l.length x j (by simp) hj
end Go.Proofs.YtkghplkmfpnhdaaGreatDoor
