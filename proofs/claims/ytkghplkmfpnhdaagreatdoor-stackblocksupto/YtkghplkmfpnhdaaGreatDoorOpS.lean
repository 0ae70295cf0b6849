/-
  What the arguments of the laws on checkers give: lists of types and of numbers, what a checker is made of; no statement is proved here.
-/
import Derived.Test.YtkghplkmfpnhdaaGreatDoorTy
import Derived.Deep.Slices
import Derived.Deep.Strs
import Derived.ChangeSame
import Derived.SizedLaws
import Derived.ChangeMaps5
namespace Go.Proofs.YtkghplkmfpnhdaaGreatDoor
open Go.ChangeShapes Go.WideShapes Go.Deep
set_option linter.unusedVariables false
set_option linter.unusedSimpArgs false

def R64 (n : Int) : Prop := -9223372036854775808 ≤ n ∧ n ≤ 9223372036854775807
theorem bulk_one {H : Type} (d : DataW H) : 1 ≤ Rows.uptoBulk d := by
  cases d with
  | lit l => cases l <;> simp [Rows.uptoBulk]
  | nil => simp [Rows.uptoBulk]
  | ptr d => simp [Rows.uptoBulk]
  | slice elems spare => simp [Rows.uptoBulk]
  | agg parts => simp [Rows.uptoBulk]
  | iface t d => simp [Rows.uptoBulk]
  | map entries => simp [Rows.uptoBulk]
  | held h => simp [Rows.uptoBulk]
theorem bulk_map {H : Type} {α : Type} {μ : α → Nat} {f : Nat → α} {D : Nat → DataW H} : ∀ (l : List Nat), (∀ i ∈ l, μ (f i) ≤ Rows.uptoBulk (D i)) → ((l.map f).map μ).sum ≤ Rows.uptoBulkAll (l.map D) := by
  intro l
  induction l with
  | nil => intro _; simp
  | cons a l ih =>
    intro h
    have h1 := h a (by simp)
    have h2 := ih (fun i hi => h i (by simp [hi]))
    simp only [List.map_cons, List.sum_cons, Rows.uptoBulkAll]
    omega
section
variable {H : Type} {enc : TypeId × Value → H} {w : World} {base : Nat} {held : Bool}
set_option maxRecDepth 100000 in
theorem open_lst {α : Type} (dflt : α) (P : α → Prop) {E : World → Nat → Nat → α → Prop} {μ : α → Nat} {fuel : Nat} {t e : TypeId} {k : Nat} {cs : List Value} {x : DataW H × List MemPlace} (ht : Tryz.prog.underlying t = some (.slice e)) (hk : Tryz.prog.cellsOf e = k) (hk0 : 0 < k)
    (h : DataW.trod enc Tryz.prog w base (fun _ => true) held fuel t cs = some x)
    (hE : ∀ (b o : Nat) (cs : List Value) (n : Nat) (y : DataW H × List MemPlace), cs.length = k → (∀ j, j < k → w.cell? ⟨b, o + j, none⟩ = cs[j]?) → DataW.trod enc Tryz.prog w base (fun _ => true) held n e cs = some y → ∃ z : α, E w b o z ∧ μ z ≤ Rows.uptoBulk y.1 ∧ P z) :
    ∃ v l, cs = [v] ∧ Lst k E w v l ∧ (l.map μ).sum + 1 ≤ Rows.uptoBulk x.1 ∧ ∀ z ∈ l, P z := by
  have hinh : Inhabited α := ⟨dflt⟩
  rcases open_slice ht h with ⟨rfl, rfl⟩ | ⟨a, len, cap, m, n, D, Pl, rfl, hb, hl, hm, hmm, rfl, hx⟩
  · exact ⟨_, [], rfl, Lst.nil _ _ _, by simp [Rows.uptoBulk], fun z hz => by cases hz⟩
  simp only [if_true] at hmm
  subst hmm
  rw [hk] at hx
  rcases Nat.eq_zero_or_pos len with h0 | h0
  · subst h0
    refine ⟨_, [], rfl, ⟨some a, m, rfl, Nat.zero_le _, hm, (fun h => by cases h), Or.inl rfl⟩, ?_, fun z hz => by cases hz⟩
    simpa using bulk_one _
  · have hcell : ∀ i, i < m → ∃ cs', cs'.length = k ∧ (∀ j, j < k → w.cell? ((a.add (i * k)).add j) = cs'[j]?) ∧ DataW.trod enc Tryz.prog w base (fun _ => true) held n e cs' = some (D i, Pl i) := fun i hi => by
      obtain ⟨cs', h1, h2⟩ := hx i hi
      obtain ⟨_, h3, h4⟩ := World.cells?_some h1
      exact ⟨cs', h3, h4, h2⟩
    have hspot : a.spot = none := by
      obtain ⟨cs', h3, h4, _⟩ := hcell 0 (by omega)
      have h5 := h4 0 hk0
      rw [List.getElem?_eq_getElem (by omega)] at h5
      have := World.cell?_spot h5
      simpa [Addr.add] using this
    obtain ⟨b, off, spot⟩ := a
    simp only at hspot
    subst hspot
    have hadd : ∀ i j, ((⟨b, off, none⟩ : Addr).add (i * k)).add j = ⟨b, off + i * k + j, none⟩ := fun i j => by
      rw [add_add]
      unfold Addr.add
      split
      · rename_i h; congr 1; omega
      · simp [Nat.add_assoc]
    obtain ⟨f, hf⟩ := choose_lt (n := m) (p := fun i z => E w b (off + i * k) z ∧ μ z ≤ Rows.uptoBulk (D i) ∧ P z) (fun i hi => by
      obtain ⟨cs', h3, h4, h5⟩ := hcell i hi
      exact hE b (off + i * k) cs' n _ h3 (fun j hj => by rw [← hadd]; exact h4 j hj) h5)
    refine ⟨_, (List.range len).map f, rfl, ⟨some ⟨b, off, none⟩, m, by simp, by simpa using hl, hm, (fun h => by cases h), Or.inr ⟨b, off, rfl, fun i z hz => ?_⟩⟩, ?_, ?_⟩
    · rw [List.getElem?_map] at hz
      obtain ⟨i', hi', rfl⟩ := Option.map_eq_some_iff.1 hz
      obtain ⟨hlt, he⟩ := List.getElem?_eq_some_iff.1 hi'
      simp only [List.getElem_range] at he
      subst he
      simp only [List.length_range] at hlt
      exact (hf i (by omega)).1
    · have := bulk_map (μ := μ) (f := f) (D := D) (List.range len) (fun i hi => (hf i (by have := List.mem_range.1 hi; omega)).2.1)
      simp only [Rows.uptoBulk]
      omega
    · intro z hz
      obtain ⟨i, hi, rfl⟩ := List.mem_map.1 hz
      exact (hf i (by have := List.mem_range.1 hi; omega)).2.2
theorem cells_int : Tryz.prog.cellsOf 3 = 1 := by kernel_rfl
theorem cells_bool : Tryz.prog.cellsOf 4 = 1 := by kernel_rfl
theorem cells_V : Tryz.prog.cellsOf 44 = 3 := by kernel_rfl
theorem cells_F : Tryz.prog.cellsOf 115 = 4 := by kernel_rfl
theorem cells_C : Tryz.prog.cellsOf 108 = 4 := by kernel_rfl
theorem cells_S : Tryz.prog.cellsOf 110 = 6 := by kernel_rfl
theorem cells_R : Tryz.prog.cellsOf 103 = 2 := by kernel_rfl
theorem cells_li : Tryz.prog.cellsOf 105 = 1 := by kernel_rfl
theorem cells_lv : Tryz.prog.cellsOf 23 = 1 := by kernel_rfl
theorem cells_lf : Tryz.prog.cellsOf 106 = 1 := by kernel_rfl
theorem cells_ls : Tryz.prog.cellsOf 101 = 1 := by kernel_rfl
theorem r64_wf {m : Int} (h : (Lit.int .i64 m).wf = true) : R64 m := by
  have := bounds_i64 h
  unfold R64
  omega
def RgV (v : VT) : Prop := R64 v.num ∧ R64 v.heap
def RgF (v : FT) : Prop := R64 v.ty.num ∧ R64 v.ty.heap
structure Rng (x : SB) : Prop where
  s : ∀ n ∈ x.supers, R64 n
  k : R64 x.comp.kind
  p : ∀ v ∈ x.comp.params, R64 v.num ∧ R64 v.heap
  r : ∀ v ∈ x.comp.results, R64 v.num ∧ R64 v.heap
  f : ∀ v ∈ x.comp.fields, R64 v.ty.num ∧ R64 v.ty.heap
theorem open_I {b o : Nat} {cs : List Value} {n : Nat} {y : DataW H × List MemPlace} (hl : cs.length = 1) (hc : ∀ j, j < 1 → w.cell? ⟨b, o + j, none⟩ = cs[j]?) (h : DataW.trod enc Tryz.prog w base (fun _ => true) held n 3 cs = some y) : ∃ z : Int, EI w b o z ∧ 1 ≤ Rows.uptoBulk y.1 ∧ R64 z := by
  obtain ⟨m, rfl, rfl, wf⟩ := DataW.trod_int Tryz.underlying3 h
  exact ⟨m, hc 0 (by decide), bulk_one _, r64_wf wf⟩
set_option maxRecDepth 100000 in
theorem open_V {b o : Nat} {cs : List Value} {n : Nat} {y : DataW H × List MemPlace} (hl : cs.length = 3) (hc : ∀ j, j < 3 → w.cell? ⟨b, o + j, none⟩ = cs[j]?) (h : DataW.trod enc Tryz.prog w base (fun _ => true) held n 44 cs = some y) : ∃ z : VT, EV w b o z ∧ 1 ≤ Rows.uptoBulk y.1 ∧ RgV z := by
  obtain ⟨y0, y1, y2, m, rfl, _, h0, h1, h2⟩ := trod_struct3 Tryz.underlying44 h
  match cs, hl with
  | [c0, c1, c2], _ =>
    simp only [cells_int, cells_bool, List.drop, List.take] at h0 h1 h2
    obtain ⟨a, e0, _, wa⟩ := DataW.trod_int Tryz.underlying3 h0
    obtain ⟨p, e1, _⟩ := DataW.trod_bool Tryz.underlying4 h1
    obtain ⟨q, e2, _, wq⟩ := DataW.trod_int Tryz.underlying3 h2
    simp only [List.cons.injEq, and_true] at e0 e1 e2
    subst e0 e1 e2
    exact ⟨⟨a, p, q⟩, ⟨hc 0 (by decide), hc 1 (by decide), hc 2 (by decide)⟩, bulk_one _, r64_wf wa, r64_wf wq⟩
set_option maxRecDepth 100000 in
theorem open_F {b o : Nat} {cs : List Value} {n : Nat} {y : DataW H × List MemPlace} (hl : cs.length = 4) (hc : ∀ j, j < 4 → w.cell? ⟨b, o + j, none⟩ = cs[j]?) (h : DataW.trod enc Tryz.prog w base (fun _ => true) held n 115 cs = some y) : ∃ z : FT, EF w b o z ∧ 1 ≤ Rows.uptoBulk y.1 ∧ RgF z := by
  obtain ⟨y0, y1, m, rfl, _, h0, h1⟩ := trod_struct2 Tryz.underlying115 h
  match cs, hl with
  | [c0, c1, c2, c3], _ =>
    simp only [cells_V, cells_bool, List.drop, List.take] at h0 h1
    obtain ⟨v, hv, _, rv⟩ := open_V (b := b) (o := o) rfl (fun j hj => by
      rw [hc j (by omega)]
      match j, hj with
      | 0, _ => rfl
      | 1, _ => rfl
      | 2, _ => rfl) h0
    obtain ⟨p, e1, _⟩ := DataW.trod_bool Tryz.underlying4 h1
    simp only [List.cons.injEq, and_true] at e1
    subst e1
    exact ⟨⟨v, p⟩, ⟨hv, hc 3 (by decide)⟩, bulk_one _, rv⟩
def muS (x : SB) : Nat := x.supers.length + x.comp.params.length + x.comp.results.length + x.comp.fields.length + 1
def muR (r : RT) : Nat := (r.types.map muS).sum + 1
theorem sum_ones {α : Type} (l : List α) : (l.map fun _ => 1).sum = l.length := by
  induction l with
  | nil => rfl
  | cons a l ih => simp only [List.map_cons, List.sum_cons, List.length_cons, ih]; omega
def vt0 : VT := ⟨0, false, 0⟩
def ct0 : CT := ⟨0, [], [], []⟩
set_option maxRecDepth 100000 in
theorem open_S {b o : Nat} {cs : List Value} {n : Nat} {y : DataW H × List MemPlace} (hl : cs.length = 6) (hc : ∀ j, j < 6 → w.cell? ⟨b, o + j, none⟩ = cs[j]?) (h : DataW.trod enc Tryz.prog w base (fun _ => true) held n 110 cs = some y) : ∃ z : SB, ES w b o z ∧ muS z ≤ Rows.uptoBulk y.1 ∧ Rng z := by
  obtain ⟨y0, y1, y2, m, rfl, _, h0, h1, h2⟩ := trod_struct3 Tryz.underlying110 h
  match cs, hl with
  | [c0, c1, c2, c3, c4, c5], _ =>
    simp only [cells_li, cells_bool, cells_C, List.drop, List.take] at h0 h1 h2
    obtain ⟨f, e0, _⟩ := DataW.trod_bool Tryz.underlying4 h0
    obtain ⟨sv, sup, e1, ls, b1, q1⟩ := open_lst (0 : Int) R64 (E := EI) (μ := fun _ => 1) Tryz.underlying105 cells_int (by decide) h1 (fun b o cs n y hl hc h => open_I hl hc h)
    obtain ⟨xs, m', _, rfl, _, hxl, hf⟩ := DataW.trod_struct Tryz.underlying108 h2
    match xs, hxl with
    | [z0, z1, z2, z3], _ =>
      have g0 := hf 0 _ rfl
      have g1 := hf 1 _ rfl
      have g2 := hf 2 _ rfl
      have g3 := hf 3 _ rfl
      simp only [List.getElem_toArray, List.getElem_cons_zero, List.getElem_cons_succ, cells_int, cells_lv, cells_lf, List.drop, List.take, List.getElem?_cons_zero, List.getElem?_cons_succ] at g0 g1 g2 g3
      obtain ⟨k, e2, _, wk⟩ := DataW.trod_int Tryz.underlying3 g0
      obtain ⟨pv, ps, e3, lp, b2, q2⟩ := open_lst vt0 RgV (E := EV) (μ := fun _ => 1) Tryz.underlying23 cells_V (by decide) g1 (fun b o cs n y hl hc h => open_V hl hc h)
      obtain ⟨rv, rs, e4, lr, b3, q3⟩ := open_lst vt0 RgV (E := EV) (μ := fun _ => 1) Tryz.underlying23 cells_V (by decide) g2 (fun b o cs n y hl hc h => open_V hl hc h)
      obtain ⟨fv, fs, e5, lf, b4, q4⟩ := open_lst (⟨vt0, false⟩ : FT) RgF (E := EF) (μ := fun _ => 1) Tryz.underlying106 cells_F (by decide) g3 (fun b o cs n y hl hc h => open_F hl hc h)
      simp only [List.cons.injEq, and_true] at e0 e1 e2 e3 e4 e5
      subst e0 e1 e2 e3 e4 e5
      rw [sum_ones] at b1 b2 b3 b4
      refine ⟨⟨f, sup, ⟨k, ps, rs, fs⟩⟩, ⟨_, _, _, _, ⟨ls, lp, lr, lf⟩, hc 0 (by decide), hc 1 (by decide), hc 2 (by decide), hc 3 (by decide), hc 4 (by decide), hc 5 (by decide)⟩, ?_, ⟨q1, r64_wf wk, q2, q3, q4⟩⟩
      unfold muS
      simp only [Rows.uptoBulk, Rows.uptoBulkAll, List.map_cons, List.map_nil]
      omega
theorem sum_mem {α : Type} {μ : α → Nat} {l : List α} {a : α} (h : a ∈ l) : μ a ≤ (l.map μ).sum := by
  induction l with
  | nil => cases h
  | cons b l ih =>
    simp only [List.map_cons, List.sum_cons]
    rcases List.mem_cons.1 h with rfl | h
    · omega
    · have := ih h; omega
theorem sum_len {α : Type} {μ : α → Nat} (hμ : ∀ a, 1 ≤ μ a) (l : List α) : l.length ≤ (l.map μ).sum := by
  induction l with
  | nil => simp
  | cons a l ih => simp only [List.map_cons, List.sum_cons, List.length_cons]; have := hμ a; omega
set_option maxRecDepth 100000 in
set_option maxRecDepth 100000 in
theorem open_VV {fuel : Nat} {cs : List Value} {x : DataW H × List MemPlace} (h : DataW.trod enc Tryz.prog w base (fun _ => true) held fuel 44 cs = some x) (hl : cs.length = 3) : ∃ n nul hp, cs = [.int .i64 n, .bool nul, .int .i64 hp] ∧ R64 n ∧ R64 hp := by
  obtain ⟨y0, y1, y2, m, rfl, _, h0, h1, h2⟩ := trod_struct3 Tryz.underlying44 h
  match cs, hl with
  | [c0, c1, c2], _ =>
    simp only [cells_int, cells_bool, List.drop, List.take] at h0 h1 h2
    obtain ⟨a, e0, _, wa⟩ := DataW.trod_int Tryz.underlying3 h0
    obtain ⟨p, e1, _⟩ := DataW.trod_bool Tryz.underlying4 h1
    obtain ⟨q, e2, _, wq⟩ := DataW.trod_int Tryz.underlying3 h2
    simp only [List.cons.injEq, and_true] at e0 e1 e2
    subst e0 e1 e2
    exact ⟨a, p, q, rfl, r64_wf wa, r64_wf wq⟩
set_option maxRecDepth 100000 in
theorem open_R {b o : Nat} {cs : List Value} {n : Nat} {y : DataW H × List MemPlace} (hl : cs.length = 2) (hc : ∀ j, j < 2 → w.cell? ⟨b, o + j, none⟩ = cs[j]?) (h : DataW.trod enc Tryz.prog w base (fun _ => true) held n 103 cs = some y) : ∃ z : RT, ER w b o z ∧ muR z ≤ Rows.uptoBulk y.1 ∧ ∀ x ∈ z.types, Rng x := by
  obtain ⟨y0, y1, m, rfl, _, h0, h1⟩ := trod_struct2 Tryz.underlying103 h
  match cs, hl with
  | [c0, c1], _ =>
    simp only [cells_ls, cells_bool, List.drop, List.take] at h0 h1
    obtain ⟨tv, ts, e0, lt, b0, q0⟩ := open_lst (⟨false, [], ct0⟩ : SB) Rng (E := ES) (μ := muS) Tryz.underlying101 cells_S (by decide) h0 (fun b o cs n y hl hc h => open_S hl hc h)
    obtain ⟨p, e1, _⟩ := DataW.trod_bool Tryz.underlying4 h1
    simp only [List.cons.injEq, and_true] at e0 e1
    subst e0 e1
    refine ⟨⟨ts, p⟩, ⟨_, lt, hc 0 (by decide), hc 1 (by decide)⟩, ?_, q0⟩
    unfold muR
    simp only [Rows.uptoBulk, Rows.uptoBulkAll]
    omega
theorem open_LR {fuel : Nat} {v : Value} {x : DataW H × List MemPlace} (h : DataW.trod enc Tryz.prog w base (fun _ => true) held fuel 22 [v] = some x) : ∃ L, LR w v L ∧ (L.map muR).sum + 1 ≤ Rows.uptoBulk x.1 ∧ ∀ r ∈ L, ∀ y ∈ r.types, Rng y := by
  obtain ⟨u, L, e, l, b, q⟩ := open_lst (⟨[], false⟩ : RT) (fun r => ∀ y ∈ r.types, Rng y) (E := ER) (μ := muR) Tryz.underlying22 cells_R (by decide) h (fun b o cs n y hl hc h => open_R hl hc h)
  simp only [List.cons.injEq, and_true] at e
  subst e
  exact ⟨L, l, b, q⟩
theorem open_LV {fuel : Nat} {v : Value} {x : DataW H × List MemPlace} (h : DataW.trod enc Tryz.prog w base (fun _ => true) held fuel 23 [v] = some x) : ∃ L, LV w v L ∧ L.length + 1 ≤ Rows.uptoBulk x.1 ∧ ∀ y ∈ L, RgV y := by
  obtain ⟨u, L, e, l, b, q⟩ := open_lst vt0 RgV (E := EV) (μ := fun _ => 1) Tryz.underlying23 cells_V (by decide) h (fun b o cs n y hl hc h => open_V hl hc h)
  simp only [List.cons.injEq, and_true] at e
  subst e
  rw [sum_ones] at b
  exact ⟨L, l, b, q⟩
theorem cells_u32 : Tryz.prog.cellsOf 47 = 1 := by kernel_rfl
def EU (w : World) (b o : Nat) (x : Int) : Prop := w.cell? ⟨b, o, none⟩ = some (.int .u32 x)
abbrev LU := Lst 1 EU
def R32 (n : Int) : Prop := 0 ≤ n ∧ n ≤ 4294967295
theorem r32_wf {m : Int} (h : (Lit.int .u32 m).wf = true) : R32 m := by
  have := bounds_u32 h
  unfold R32
  omega
theorem open_U {b o : Nat} {cs : List Value} {n : Nat} {y : DataW H × List MemPlace} (hl : cs.length = 1) (hc : ∀ j, j < 1 → w.cell? ⟨b, o + j, none⟩ = cs[j]?) (h : DataW.trod enc Tryz.prog w base (fun _ => true) held n 47 cs = some y) : ∃ z : Int, EU w b o z ∧ 1 ≤ Rows.uptoBulk y.1 ∧ R32 z := by
  obtain ⟨m, rfl, rfl, wf⟩ := DataW.trod_int Tryz.underlying47 h
  exact ⟨m, hc 0 (by decide), bulk_one _, r32_wf wf⟩
theorem open_LU {fuel : Nat} {v : Value} {x : DataW H × List MemPlace} (h : DataW.trod enc Tryz.prog w base (fun _ => true) held fuel 41 [v] = some x) : ∃ L, LU w v L ∧ L.length + 1 ≤ Rows.uptoBulk x.1 ∧ ∀ y ∈ L, R32 y := by
  obtain ⟨u, L, e, l, b, q⟩ := open_lst (0 : Int) R32 (E := EU) (μ := fun _ => 1) Tryz.underlying41 cells_u32 (by decide) h (fun b o cs n y hl hc h => open_U hl hc h)
  simp only [List.cons.injEq, and_true] at e
  subst e
  rw [sum_ones] at b
  exact ⟨L, l, b, q⟩
theorem cells_lr : Tryz.prog.cellsOf 22 = 1 := by kernel_rfl
set_option maxRecDepth 100000 in
theorem open_ST {fuel : Nat} {cs : List Value} {x : DataW H × List MemPlace} (h : DataW.trod enc Tryz.prog w base (fun _ => true) held fuel 25 cs = some x) (hl : cs.length = 4) : ∃ tv pv lv rv L P Q R, cs = [tv, pv, lv, rv] ∧ LR w tv L ∧ LV w pv P ∧ LV w lv Q ∧ LV w rv R ∧ (L.map muR).sum + P.length + Q.length + R.length ≤ Rows.uptoBulk x.1 := by
  obtain ⟨xs, m', _, rfl, _, hxl, hf⟩ := DataW.trod_struct Tryz.underlying25 h
  match cs, hl with
  | [c0, c1, c2, c3], _ =>
    match xs, hxl with
    | [z0, z1, z2, z3], _ =>
      have g0 := hf 0 _ rfl
      have g1 := hf 1 _ rfl
      have g2 := hf 2 _ rfl
      have g3 := hf 3 _ rfl
      simp only [List.getElem_toArray, List.getElem_cons_zero, List.getElem_cons_succ, cells_lr, cells_lv, List.drop, List.take, List.getElem?_cons_zero, List.getElem?_cons_succ] at g0 g1 g2 g3
      obtain ⟨L, l0, b0, q0⟩ := open_LR g0
      obtain ⟨P, l1, b1, _⟩ := open_LV g1
      obtain ⟨Q, l2, b2, _⟩ := open_LV g2
      obtain ⟨R, l3, b3, _⟩ := open_LV g3
      refine ⟨_, _, _, _, L, P, Q, R, rfl, l0, l1, l2, l3, ?_⟩
      simp only [Rows.uptoBulk, Rows.uptoBulkAll, List.map_cons, List.map_nil]
      omega
end
end Go.Proofs.YtkghplkmfpnhdaaGreatDoor
