/-
  The checker's piles: push, cut, height, nth; no statement is proved here.
-/
import Derived.Test.YtnmbniojejckpaaGreatDoorLoO
import Derived.Test.YtnmbniojejckpaaGreatDoorCpC
set_option maxRecDepth 100000
set_option maxHeartbeats 8000000
namespace Go.Proofs.YtnmbniojejckpaaGreatDoor
open Go.RowKit
set_option linter.unusedVariables false
set_option linter.unusedSimpArgs false
/- A frame as its cells tell it. -/
structure FV where
  op : Int
  inn : Value
  out : Value
  height : Nat
  fresh : Nat
  dead : Bool
def FV.c (x : FV) : List Value := [.int .i64 x.op, x.inn, x.out, .int .i64 x.height, .int .i64 x.fresh, .bool x.dead]
def FV.v (x : FV) : Value := .agg #[.int .i64 x.op, x.inn, x.out, .int .i64 x.height, .int .i64 x.fresh, .bool x.dead]
def isSl (v : Value) : Prop := ∃ a n c, v = .slice a n c
theorem isSl.one {v : Value} (h : isSl v) : v.oneCell' = true := by
  obtain ⟨a, n, c, rfl⟩ := h
  cases a <;> rfl
def cu (n : Int) : List Value := [.int .u32 n]
theorem infoFr : (Tryz.prog.info? 80).map (fun i => (i.zero, i.size, i.bytes)) = some (some (.agg #[.int .i64 0, .slice none 0 0, .slice none 0 0, .int .i64 0, .int .i64 0, .bool false]), 6, 80) := by kernel_rfl
def RowFr (B : Nat) (w : World) (v : Value) (l : List FV) : Prop := w.ownsRow B 80 6 v l.length (l.flatMap FV.c)
def RowU (B : Nat) (w : World) (v : Value) (l : List Int) : Prop := w.ownsRow B 41 1 v l.length (l.flatMap cu)
def ckObj (gv rv lv fv ov qv : Value) : Obj := .cells #[.bool true, gv, rv, lv, fv, ov, qv] 63 (0, 0)
/- The checker at C: its locals, the fresh ones, its operands, its frames; all in blocks from B on. -/
structure CHK (G : Value → Prop) (B : Nat) (w : World) (C : Nat) (lv fv ov qv : Value) (lo : List LO) (fr : List Int) (ops : List VT) (fs : List FV) : Prop where
  obj : ∃ gv rv, (isSl gv ∧ G gv) ∧ isSl rv ∧ w.heap[C]? = some (ckObj gv rv lv fv ov qv)
  base : B ≤ C
  rlo : RowLo B w lv lo
  rfr : RowU B w fv fr
  rops : RowV B w ov ops
  rfs : RowFr B w qv fs
  sl : ∀ x ∈ fs, isSl x.inn ∧ isSl x.out
variable {G : Value → Prop}
theorem CHK.grew {B : Nat} {w w' : World} {C : Nat} {lv fv ov qv : Value} {lo : List LO} {fr : List Int} {ops : List VT} {fs : List FV} (h : CHK G B w C lv fv ov qv lo fr ops fs) (g : Grew w w') : CHK G B w' C lv fv ov qv lo fr ops fs := by
  obtain ⟨⟨gv, rv, a, b, c⟩, h1, h2, h3, h4, h5, h6⟩ := h
  exact ⟨⟨gv, rv, a, b, (g.turn []).other c (by simp)⟩, h1, row_grew h2 g, row_grew h3 g, row_grew h4 g, row_grew h5 g, h6⟩
theorem CHK.lt {B : Nat} {w : World} {C : Nat} {lv fv ov qv : Value} {lo : List LO} {fr : List Int} {ops : List VT} {fs : List FV} (h : CHK G B w C lv fv ov qv lo fr ops fs) : C < w.heap.size := by
  obtain ⟨gv, rv, a, b, c⟩ := h.obj
  exact lt_of_obj c
theorem CHK.c0 {B : Nat} {w : World} {C : Nat} {lv fv ov qv : Value} {lo : List LO} {fr : List Int} {ops : List VT} {fs : List FV} (h : CHK G B w C lv fv ov qv lo fr ops fs) : w.cell? ⟨C, 0, none⟩ = some (.bool true) := by
  obtain ⟨gv, rv, a, b, c⟩ := h.obj
  rw [cell_of c]; rfl
theorem CHK.c3 {B : Nat} {w : World} {C : Nat} {lv fv ov qv : Value} {lo : List LO} {fr : List Int} {ops : List VT} {fs : List FV} (h : CHK G B w C lv fv ov qv lo fr ops fs) : w.cell? ⟨C, 3, none⟩ = some lv := by
  obtain ⟨gv, rv, a, b, c⟩ := h.obj
  rw [cell_of c]; rfl
theorem CHK.c4 {B : Nat} {w : World} {C : Nat} {lv fv ov qv : Value} {lo : List LO} {fr : List Int} {ops : List VT} {fs : List FV} (h : CHK G B w C lv fv ov qv lo fr ops fs) : w.cell? ⟨C, 4, none⟩ = some fv := by
  obtain ⟨gv, rv, a, b, c⟩ := h.obj
  rw [cell_of c]; rfl
theorem CHK.c5 {B : Nat} {w : World} {C : Nat} {lv fv ov qv : Value} {lo : List LO} {fr : List Int} {ops : List VT} {fs : List FV} (h : CHK G B w C lv fv ov qv lo fr ops fs) : w.cell? ⟨C, 5, none⟩ = some ov := by
  obtain ⟨gv, rv, a, b, c⟩ := h.obj
  rw [cell_of c]; rfl
theorem CHK.c6 {B : Nat} {w : World} {C : Nat} {lv fv ov qv : Value} {lo : List LO} {fr : List Int} {ops : List VT} {fs : List FV} (h : CHK G B w C lv fv ov qv lo fr ops fs) : w.cell? ⟨C, 6, none⟩ = some qv := by
  obtain ⟨gv, rv, a, b, c⟩ := h.obj
  rw [cell_of c]; rfl
theorem CHK.z {B : Nat} {w : World} {C : Nat} {lv fv ov qv : Value} {lo : List LO} {fr : List Int} {ops : List VT} {fs : List FV} (h : CHK G B w C lv fv ov qv lo fr ops fs) (j : Nat) : w.frozen? ⟨C, j, none⟩ = false := by
  obtain ⟨gv, rv, a, b, c⟩ := h.obj
  exact free_of c j
/- Of what lies below B nothing has changed. -/
def KB (B : Nat) (w w' : World) : Prop := Below B w w' ∧ w.heap.size ≤ w'.heap.size
theorem KB.refl (B : Nat) (w : World) : KB B w w := ⟨Below.refl _ _, Nat.le_refl _⟩
theorem KB.trans {B : Nat} {a b c : World} (h : KB B a b) (k : KB B b c) : KB B a c := ⟨h.1.trans k.1, Nat.le_trans h.2 k.2⟩
theorem Grew.kb {w w' : World} (g : Grew w w') {B : Nat} (hB : B ≤ w.heap.size) : KB B w w' := ⟨g.1.mono hB, g.2⟩
theorem KB.grew {w0 w w' : World} (g : Grew w0 w) (k : KB w0.heap.size w w') : Grew w0 w' := ⟨g.1.trans k.1, Nat.le_trans g.2 k.2⟩
theorem KB.set {B : Nat} {w w' : World} (h : KB B w w') {p : Addr} (hp : B ≤ p.block) (u : Value) : KB B w (w'.setCell p u) :=
  ⟨h.1.setCell hp u, by have := h.2; simpa using this⟩
theorem CHK.set5 {B : Nat} {w : World} {C : Nat} {lv fv ov qv : Value} {lo : List LO} {fr : List Int} {ops ops' : List VT} {fs : List FV} (h : CHK G B w C lv fv ov qv lo fr ops fs) {u : Value} (hu : RowV B w u ops') : CHK G B (w.setCell ⟨C, 5, none⟩ u) C lv fv u qv lo fr ops' fs := by
  obtain ⟨⟨gv, rv, a, b, c⟩, h1, h2, h3, h4, h5, h6⟩ := h
  exact ⟨⟨gv, rv, a, b, by rw [heap_set c]; rfl⟩, h1, row_set h2 (NoT.of c (by decide)) _, row_set h3 (NoT.of c (by decide)) _, row_set hu (NoT.of c (by decide)) _, row_set h5 (NoT.of c (by decide)) _, h6⟩
theorem CHK.set6 {B : Nat} {w : World} {C : Nat} {lv fv ov qv : Value} {lo : List LO} {fr : List Int} {ops : List VT} {fs fs' : List FV} (h : CHK G B w C lv fv ov qv lo fr ops fs) {u : Value} (hu : RowFr B w u fs') (hs : ∀ x ∈ fs', isSl x.inn ∧ isSl x.out) : CHK G B (w.setCell ⟨C, 6, none⟩ u) C lv fv ov u lo fr ops fs' := by
  obtain ⟨⟨gv, rv, a, b, c⟩, h1, h2, h3, h4, h5, h6⟩ := h
  exact ⟨⟨gv, rv, a, b, by rw [heap_set c]; rfl⟩, h1, row_set h2 (NoT.of c (by decide)) _, row_set h3 (NoT.of c (by decide)) _, row_set h4 (NoT.of c (by decide)) _, row_set hu (NoT.of c (by decide)) _, hs⟩
/- The first elements of a row. -/
theorem row_cut {w : World} {B : Nat} {e : TypeId} {k : Nat} {a : Option Addr} {n c : Nat} {cs : List Value} (h : w.ownsRow B e k (.slice a n c) n cs) {m : Nat} (hm : m ≤ n) : w.ownsRow B e k (.slice a m c) m (cs.take (m * k)) := by
  obtain ⟨hl, ⟨h1, h2⟩ | ⟨g, cap, cur, hv, hB, hg, h3, h4, h5, h6⟩⟩ := h
  · subst h2
    obtain rfl : m = 0 := by omega
    injection h1 with e1 e2 e3
    subst e1 e3
    exact ⟨by simp, Or.inl ⟨rfl, rfl⟩⟩
  · injection hv with e1 e2 e3
    subst e1 e3
    have hmk : m * k ≤ n * k := Nat.mul_le_mul_right k hm
    refine ⟨by rw [List.length_take, hl]; omega, Or.inr ⟨g, c, cur, rfl, hB, hg, by omega, h4, h5, ?_⟩⟩
    rw [← h6, List.take_take, Nat.min_eq_left hmk]
theorem flat_take {α : Type} (f : α → List Value) (k : Nat) (hf : ∀ a, (f a).length = k) : ∀ (l : List α) (m : Nat), (l.take m).flatMap f = (l.flatMap f).take (m * k) := by
  intro l
  induction l with
  | nil => simp
  | cons a l ih =>
    intro m
    cases m with
    | zero => simp
    | succ m =>
      rw [List.take_succ_cons, List.flatMap_cons, List.flatMap_cons, ih m, Nat.succ_mul, List.take_append, hf]
      congr 1
      · rw [List.take_of_length_le (by rw [hf]; omega)]
      · congr 1; omega
theorem RowV.cut {B : Nat} {w : World} {a : Option Addr} {c : Nat} {l : List VT} (h : RowV B w (.slice a l.length c) l) {m : Nat} (hm : m ≤ l.length) : RowV B w (.slice a m c) (l.take m) := by
  unfold RowV
  rw [List.length_take, Nat.min_eq_left hm, flat_take VT.c 3 (fun _ => rfl)]
  exact row_cut h hm
theorem RowFr.cut {B : Nat} {w : World} {a : Option Addr} {c : Nat} {l : List FV} (h : RowFr B w (.slice a l.length c) l) {m : Nat} (hm : m ≤ l.length) : RowFr B w (.slice a m c) (l.take m) := by
  unfold RowFr
  rw [List.length_take, Nat.min_eq_left hm, flat_take FV.c 6 (fun _ => rfl)]
  exact row_cut h hm
theorem RowU.cut {B : Nat} {w : World} {a : Option Addr} {c : Nat} {l : List Int} (h : RowU B w (.slice a l.length c) l) {m : Nat} (hm : m ≤ l.length) : RowU B w (.slice a m c) (l.take m) := by
  unfold RowU
  rw [List.length_take, Nat.min_eq_left hm, flat_take cu 1 (fun _ => rfl)]
  exact row_cut h hm
theorem RowFr.snoc {B : Nat} {w : World} {v : Value} {l : List FV} {a : FV} (h : w.ownsRow B 80 6 v (l.length + 1) (l.flatMap FV.c ++ a.c)) : RowFr B w v (l ++ [a]) := by
  unfold RowFr
  rw [List.length_append, List.flatMap_append]
  simpa using h
theorem RowU.snoc {B : Nat} {w : World} {v : Value} {l : List Int} {a : Int} (h : w.ownsRow B 41 1 v (l.length + 1) (l.flatMap cu ++ cu a)) : RowU B w v (l ++ [a]) := by
  unfold RowU
  rw [List.length_append, List.flatMap_append]
  simpa using h
theorem RowFr.nil (B : Nat) (w : World) : RowFr B w NILS [] := World.ownsRow_nil _ _ _ _
theorem RowU.nil (B : Nat) (w : World) : RowU B w NILS [] := World.ownsRow_nil _ _ _ _
/- The last frame. -/
theorem RowFr.last {B : Nat} {w : World} {v : Value} {l : List FV} {x : FV} (h : RowFr B w v (l ++ [x])) : ∃ g c, v = .slice (some ⟨g, 0, none⟩) (l.length + 1) c ∧ l.length + 1 ≤ c ∧ c ≤ maxLen ∧ B ≤ g ∧ (∃ cur : Array Value, w.heap[g]? = some (.cells cur 80 (0, 0))) ∧ ∀ j, j < 6 → w.cell? ⟨g, l.length * 6 + j, none⟩ = (FV.c x)[j]? := by
  have h0 := h
  obtain ⟨hl, ⟨_, h3⟩ | ⟨g, cap, cur, hv', hB, hg, h3, h4, h5, h6⟩⟩ := h
  · simp at h3
  · have hl2 : (l ++ [x]).length = l.length + 1 := by simp
    rw [hl2] at hv' h3
    refine ⟨g, cap, hv', h3, h4, hB, ⟨cur, hg⟩, fun j hj => ?_⟩
    rw [hv'] at h0
    unfold RowFr at h0
    rw [hl2] at h0
    have := h0.cellAt (l.length * 6 + j) (by omega)
    rw [this]
    exact flat_at FV.c 6 (fun _ => rfl) (l ++ [x]) l.length x j (by simp) hj
variable {G : Value → Prop}
/- An append of a whole list. -/
theorem wp_appR {ops : Array Oper} {rest : List Oper} {o : Oper} {a : Act} {w : World} {Q : Exit → Act → World → Prop} (hgd : o.guard = none) (s x : Operand) (t e : TypeId) (k bytes : Nat) (z : Value)
    (hu : Tryz.prog.underlying t = some (.slice e)) (hi : (Tryz.prog.info? e).map (fun i => (i.zero, i.size, i.bytes)) = some (some z, k, bytes)) (hz : z.cells.size = k) (hk : 0 < k) (hbt : bytes ≤ 1000)
    (ho : o.op = .call { callee := .builtin .append, args := #[s, x], argTypes := #[t, t] }) {B : Nat} {v u : Value} {n m : Nat} {cs ds : List Value}
    (hs : a.eval s = v) (hx : a.eval x = u) (hh : w.ownsRow B e k v n cs) (hr : Raw k w u m ds) (hB : B ≤ w.heap.size) (hn : n + m ≤ 8388608)
    (h : ∀ v' w', w'.ownsRow B e k v' (n + m) (cs ++ ds) → KB B w w' → (∀ x < w.heap.size, some x ≠ v.ownBlock → w'.heap[x]? = w.heap[x]?) → wpList Tryz.prog ops Q rest (a.put o.dst v') w') :
    wpList Tryz.prog ops Q (o :: rest) a w := by
  obtain ⟨i0, hi0, hz0, hz1, hz2⟩ := info_parts hi
  obtain ⟨hl, h1, a0, cap, rfl, hc, hm, hz', h3⟩ := hr
  cases a0 with
  | none =>
    have hc0 : cap = 0 := hz' rfl
    have hm0 : m = 0 := by omega
    subst hc0 hm0
    have hds : ds = [] := List.eq_nil_of_length_eq_zero (by rw [hl]; simp)
    subst hds
    exact wpList_append_own_none hgd s x t ho B e i0 k hu hi0 v n cs hs hh hx (h v w (by simpa using hh) (KB.refl _ _) (fun _ _ _ => rfl))
  | some ad =>
    have hsrc : ∀ j u, ds[j]? = some u → w.cell? (ad.add j) = some u := by
      intro j u hj
      rcases h3 with h3 | ⟨b, off, ha, hcell⟩
      · have hjl := (List.getElem?_eq_some_iff.1 hj).1
        rw [hl, h3] at hjl
        simp at hjl
      · injection ha with ha
        subst ha
        rw [add_at]
        exact hcell j u hj
    have hbb : (n + m) * bytes ≤ 8388608 * 1000 := Nat.mul_le_mul hn hbt
    refine wpList_append_own _ hgd s x t ho B e i0 z k bytes hu hi0 hz0 hz1 hz2 hz hk v n cs hs hh ad m cap ds hx hl hsrc h1 (by unfold maxLen; omega) (by omega) hB ?_
    intro v' w' ho' hg' _
    have tb : TB B B w w' := own_turn hh hg'
    exact h v' w' ho' ⟨⟨tb.os, tb.tape, tb.output, tb.size, fun k hk => tb.block k (by omega) (by omega) hk⟩, tb.size⟩ (fun x hx hne => hg'.block x hx hne)
/- Only this block, another one and new ones may have turned. -/
def Two (C : Nat) (v : Value) (w w' : World) : Prop := ∀ x < w.heap.size, x ≠ C → some x ≠ v.ownBlock → w'.heap[x]? = w.heap[x]?
theorem row_two {w w' : World} {B : Nat} {e : TypeId} {k : Nat} {v : Value} {n : Nat} {cs : List Value} {C : Nat} {q : Value} (h : w.ownsRow B e k v n cs) (t : Two C q w w') (hC : NoT w C e) (hq : ∀ g, q.ownBlock = some g → NoT w g e) : w'.ownsRow B e k v n cs := by
  obtain ⟨h1, h2 | ⟨g, cap, cur, hv, hB, hg, h3⟩⟩ := h
  · exact ⟨h1, Or.inl h2⟩
  · exact ⟨h1, Or.inr ⟨g, cap, cur, hv, hB, (t g (lt_of_obj hg) (fun hx => hC _ _ (by rw [← hx]; exact hg)) (fun hx => hq g hx.symm _ _ hg)).trans hg, h3⟩⟩
theorem row_tagk {w : World} {B : Nat} {e : TypeId} {k : Nat} {v : Value} {n : Nat} {cs : List Value} (h : w.ownsRow B e k v n cs) {g : Nat} (hg : v.ownBlock = some g) : ∃ cur f, w.heap[g]? = some (.cells cur e f) := by
  obtain ⟨h1, ⟨rfl, rfl⟩ | ⟨g', cap, cur, hv, hB, hh, h3⟩⟩ := h
  · cases hg
  · rw [hv] at hg
    have : some g' = some g := hg
    injection this with this
    subst this
    exact ⟨_, _, hh⟩
theorem row_no {w : World} {B : Nat} {e t : TypeId} {k : Nat} {v : Value} {n : Nat} {cs : List Value} (h : w.ownsRow B e k v n cs) (hne : e ≠ t) : ∀ g, v.ownBlock = some g → NoT w g t := by
  intro g hg
  obtain ⟨cur, f, hh⟩ := row_tagk h hg
  exact NoT.of hh hne
/- Only one row's block and new ones may have turned. -/
def Keep (v : Value) (w w' : World) : Prop := ∀ x < w.heap.size, some x ≠ v.ownBlock → w'.heap[x]? = w.heap[x]?
theorem row_keep {w w' : World} {B : Nat} {e : TypeId} {k : Nat} {v : Value} {n : Nat} {cs : List Value} {q : Value} (h : w.ownsRow B e k v n cs) (t : Keep q w w') (hq : ∀ g, q.ownBlock = some g → NoT w g e) : w'.ownsRow B e k v n cs := by
  obtain ⟨h1, h2 | ⟨g, cap, cur, hv, hB, hg, h3⟩⟩ := h
  · exact ⟨h1, Or.inl h2⟩
  · exact ⟨h1, Or.inr ⟨g, cap, cur, hv, hB, (t g (lt_of_obj hg) (fun hx => hq g hx.symm _ _ hg)).trans hg, h3⟩⟩
theorem obj_keep {w w' : World} {q : Value} {C : Nat} {cs : Array Value} {t : TypeId} {f : Nat × Nat} (h : w.heap[C]? = some (.cells cs t f)) (k : Keep q w w') (hq : ∀ g, q.ownBlock = some g → NoT w g t) : w'.heap[C]? = some (.cells cs t f) :=
  (k C (lt_of_obj h) (fun hx => hq C hx.symm _ _ h)).trans h
theorem Keep.two {v : Value} {w w' : World} (h : Keep v w w') (C j : Nat) (u : Value) : Two C v w (w'.setCell ⟨C, j, none⟩ u) := fun x hx hC hv => by
  rw [Below.heap_setCell _ _ _ _ (by simpa using hC)]; exact h x hx hv
theorem CHK.pushF {B : Nat} {w w' : World} {C : Nat} {lv fv ov qv : Value} {lo : List LO} {fr : List Int} {ops : List VT} {fs fs' : List FV} (h : CHK G B w C lv fv ov qv lo fr ops fs) (k : Keep qv w w') {u : Value} (hu : RowFr B w' u fs') (hs : ∀ x ∈ fs', isSl x.inn ∧ isSl x.out) : w'.cell? ⟨C, 6, none⟩ = some qv ∧ w'.frozen? ⟨C, 6, none⟩ = false ∧ CHK G B (w'.setCell ⟨C, 6, none⟩ u) C lv fv ov u lo fr ops fs' := by
  obtain ⟨⟨gv, rv, a, b, c⟩, h1, h2, h3, h4, h5, h6⟩ := h
  have c' := obj_keep c k (row_no h5 (by decide))
  refine ⟨by rw [cell_of c']; rfl, free_of c' 6, ⟨gv, rv, a, b, by rw [heap_set c']; rfl⟩, h1, ?_, ?_, ?_, ?_, hs⟩
  · exact row_set (row_keep h2 k (row_no h5 (by decide))) (NoT.of c' (by decide)) _
  · exact row_set (row_keep h3 k (row_no h5 (by decide))) (NoT.of c' (by decide)) _
  · exact row_set (row_keep h4 k (row_no h5 (by decide))) (NoT.of c' (by decide)) _
  · exact row_set hu (NoT.of c' (by decide)) _
theorem CHK.pushV {B : Nat} {w w' : World} {C : Nat} {lv fv ov qv : Value} {lo : List LO} {fr : List Int} {ops ops' : List VT} {fs : List FV} (h : CHK G B w C lv fv ov qv lo fr ops fs) (k : Keep ov w w') {u : Value} (hu : RowV B w' u ops') : w'.cell? ⟨C, 5, none⟩ = some ov ∧ w'.frozen? ⟨C, 5, none⟩ = false ∧ CHK G B (w'.setCell ⟨C, 5, none⟩ u) C lv fv u qv lo fr ops' fs := by
  obtain ⟨⟨gv, rv, a, b, c⟩, h1, h2, h3, h4, h5, h6⟩ := h
  have c' := obj_keep c k (row_no h4 (by decide))
  refine ⟨by rw [cell_of c']; rfl, free_of c' 5, ⟨gv, rv, a, b, by rw [heap_set c']; rfl⟩, h1, ?_, ?_, ?_, ?_, h6⟩
  · exact row_set (row_keep h2 k (row_no h4 (by decide))) (NoT.of c' (by decide)) _
  · exact row_set (row_keep h3 k (row_no h4 (by decide))) (NoT.of c' (by decide)) _
  · exact row_set hu (NoT.of c' (by decide)) _
  · exact row_set (row_keep h5 k (row_no h4 (by decide))) (NoT.of c' (by decide)) _
theorem Hid.mk' {p : Prop} (h : p) : Hid p := h
theorem pushF_any {B : Nat} {w : World} {C : Nat} {lv fv ov qv : Value} {lo : List LO} {fr : List Int} {ops : List VT} {fs : List FV} (h : CHK G B w C lv fv ov qv lo fr ops fs) {u : Value} {l : List FV} (hr : Raw 6 w u l.length (l.flatMap FV.c)) (hn : fs.length + l.length ≤ 8388608) (hsl : ∀ x ∈ l, isSl x.inn ∧ isSl x.out) :
    Calls Tryz.prog 21 #[.pointer (some ⟨C, 6, none⟩), u] w fun en w' => ∃ v', en = .returned (.tuple #[]) ∧ CHK G B w' C lv fv ov v' lo fr ops (fs ++ l) ∧ KB B w w' ∧ Two C qv w w' := by
  have c6 := h.c6
  have hCl := h.lt
  have H : Hid (CHK G B w C lv fv ov qv lo fr ops fs) := h
  have HR : Hid (Raw 6 w u l.length (l.flatMap FV.c)) := hr
  obtain ⟨a, cap, hu, _, _⟩ := hr.one
  subst hu
  obtain ⟨qa, qc, hq⟩ := row_one h.rfs
  subst hq
  have hBl : B ≤ w.heap.size := by have := h.base; omega
  have hBC : B ≤ C := h.base
  clear h hr
  go_enter Tryz.func21, Tryz.ntmps21
  go_wp2_with (at_builtin; refine wp_appR (v := .slice qa fs.length qc) (n := fs.length) (cs := fs.flatMap FV.c) (B := B) rfl _ _ 59 80 6 80 _ Tryz.underlying59 infoFr rfl (by decide) (by decide) rfl rfl rfl H.out.rfs HR.out hBl hn ?_; intro v2 w2 hO2 hK2 hG2; obtain ⟨va, vc, hv2⟩ := row_one hO2; subst hv2; rw [← List.flatMap_append, ← List.length_append] at hO2; obtain ⟨n6, z6, K6⟩ := H.out.pushF hG2 hO2 (fun x hx => (List.mem_append.1 hx).elim (H.out.sl x) (hsl x)); have H2 := Hid.mk' K6; have HK := Hid.mk' hK2; have HG := Hid.mk' hG2; clear hO2 hK2 hG2 K6)
  go_end0
  have H2o := H2.out
  rw [List.length_append] at H2o
  exact ⟨_, rfl, H2o, HK.out.set (p := ⟨C, 6, none⟩) hBC _, Keep.two HG.out C 6 _⟩
theorem cutV_any {B : Nat} {w : World} {C : Nat} {lv fv ov qv : Value} {lo : List LO} {fr : List Int} {ops : List VT} {fs : List FV} (h : CHK G B w C lv fv ov qv lo fr ops fs) {m : Nat} (hm : m ≤ ops.length) :
    Calls Tryz.prog 102 #[.pointer (some ⟨C, 5, none⟩), .int .i64 (m : Int)] w fun en w' => ∃ v', en = .returned (.tuple #[]) ∧ CHK G B w' C lv fv v' qv lo fr (ops.take m) fs ∧ KB B w w' ∧ Two C NILS w w' ∧ v'.ownBlock = ov.ownBlock := by
  have c6 := h.c5
  have z6 := h.z 5
  have hCl := h.lt
  have H : Hid (CHK G B w C lv fv ov qv lo fr ops fs) := h
  obtain ⟨qa, qc, hq, hqc, hqm, hq0⟩ := row_max h.rops
  subst hq
  have hBC : B ≤ C := h.base
  have d1 : decide ((m : Int) ≤ (qc : Int)) = true := by simp; omega
  have d2 : decide (m ≤ qc) = true := by simp; omega
  have hm1 : (m : Int) ≤ (qc : Int) := by omega
  have hmx : (qc : Int) ≤ 9223372036854775807 := by have := hqm; simp [maxLen] at this; omega
  clear h
  go_enter Tryz.func102, Tryz.ntmps102
  go_wp2_with fail
  go_end0
  refine ⟨.slice qa m qc, rfl, H.out.set5 (RowV.cut H.out.rops hm), (KB.refl B w).set (p := ⟨C, 5, none⟩) hBC _, fun x hx hC _ => Below.heap_setCell _ _ _ _ (by simpa using hC), ?_⟩
  cases qa <;> rfl
theorem heightV_any {B : Nat} {w : World} {C : Nat} {lv fv ov qv : Value} {lo : List LO} {fr : List Int} {ops : List VT} {fs : List FV} (h : CHK G B w C lv fv ov qv lo fr ops fs) :
    Calls Tryz.prog 100 #[.pointer (some ⟨C, 5, none⟩)] w fun en w' => en = .returned (.int .i64 (ops.length : Int)) ∧ w' = w := by
  have c6 := h.c5
  obtain ⟨qa, qc, hq⟩ := row_one h.rops
  subst hq
  clear h
  go_enter Tryz.func100, Tryz.ntmps100
  go_wp2_with fail
  go_ret
  exact ⟨rfl, rfl⟩
theorem heightF_any {B : Nat} {w : World} {C : Nat} {lv fv ov qv : Value} {lo : List LO} {fr : List Int} {ops : List VT} {fs : List FV} (h : CHK G B w C lv fv ov qv lo fr ops fs) :
    Calls Tryz.prog 122 #[.pointer (some ⟨C, 6, none⟩)] w fun en w' => en = .returned (.int .i64 (fs.length : Int)) ∧ w' = w := by
  have c6 := h.c6
  obtain ⟨qa, qc, hq⟩ := row_one h.rfs
  subst hq
  clear h
  go_enter Tryz.func122, Tryz.ntmps122
  go_wp2_with fail
  go_ret
  exact ⟨rfl, rfl⟩
theorem nthF_any {B : Nat} {w : World} {C : Nat} {lv fv ov : Value} {lo : List LO} {fr : List Int} {ops : List VT} {fs : List FV} {x : FV} {g c : Nat} (h : CHK G B w C lv fv ov (.slice (some ⟨g, 0, none⟩) (fs.length + 1) c) lo fr ops (fs ++ [x])) :
    Calls Tryz.prog 123 #[.pointer (some ⟨C, 6, none⟩), .int .i64 0] w fun en w' => en = .returned (.pointer (some ⟨g, fs.length * 6, none⟩)) ∧ Grew w w' := by
  have c6 := h.c6
  obtain ⟨g', c', hv, hle, hmx, _⟩ := h.rfs.last
  have hml : fs.length + 1 ≤ 9223372036854775807 := by have := hmx; simp [maxLen] at this; omega
  obtain ⟨N, hN⟩ : ∃ N, fs.length + 1 = N := ⟨_, rfl⟩
  rw [hN] at c6
  have e1 : IntKind.i64.wrap ((N : Int) - 1) = (fs.length : Int) := by rw [IntKind.wrap_i64]; omega
  have e2 : (N : Int) - 1 = (fs.length : Int) := by omega
  have e3 : IntKind.i64.wrap ((fs.length : Int)) = (fs.length : Int) := by rw [IntKind.wrap_i64]; omega
  have d1 : decide (fs.length < N) = true := by simp; omega
  have d2 : decide ((fs.length : Int) < (N : Int)) = true := by simp; omega
  have d3 : (fs.length : Int) < (N : Int) := by omega
  have d4 : fs.length < N := by omega
  clear hN hml
  clear h hv hle hmx
  go_enter Tryz.func123, Tryz.ntmps123
  go_wp2_with fail
  go_quiet (fail)
  go_wp2_with fail
  go_ret
  exact ⟨rfl, (Grew.refl w).drewN _⟩
end Go.Proofs.YtnmbniojejckpaaGreatDoor
