/-
  What the arguments of the laws on checkers give: lists of types and of numbers, what a checker is made of; no statement is proved here.
-/
import Derived.Test.YtahmjgmaaaegcaaGreatDoorTy
import Derived.Deep.Slices
import Derived.Deep.Strs
import Derived.Lib.SmallJoins
import Derived.ChangeSame
import Derived.SizedLaws
import Derived.ChangeMaps5
namespace Go.Proofs.YtahmjgmaaaegcaaGreatDoor
open Go.ChangeShapes Go.WideShapes Go.Deep
set_option linter.unusedVariables false
set_option linter.unusedSimpArgs false

def R64 (n : Int) : Prop := -9223372036854775808 ≤ n ∧ n ≤ 9223372036854775807
theorem bulk_one {H : Type} (d : DataW H) : 1 ≤ Rows.uptoBulk d := by
  cases d with
  | lit l => cases l <;> simp [Rows.uptoBulk]
  | nil => simp [Rows.uptoBulk]
  | ptr d => simp [Rows.uptoBulk]
  | slice elems spare => simp [Rows.uptoBulk]
  | agg parts => simp [Rows.uptoBulk]
  | iface t d => simp [Rows.uptoBulk]
  | map entries => simp [Rows.uptoBulk]
  | held h => simp [Rows.uptoBulk]
theorem bulk_map {H : Type} {α : Type} {μ : α → Nat} {f : Nat → α} {D : Nat → DataW H} : ∀ (l : List Nat), (∀ i ∈ l, μ (f i) ≤ Rows.uptoBulk (D i)) → ((l.map f).map μ).sum ≤ Rows.uptoBulkAll (l.map D) := by
  intro l
  induction l with
  | nil => intro _; simp
  | cons a l ih =>
    intro h
    have h1 := h a (by simp)
    have h2 := ih (fun i hi => h i (by simp [hi]))
    simp only [List.map_cons, List.sum_cons, Rows.uptoBulkAll]
    omega
section
variable {H : Type} {enc : TypeId × Value → H} {w : World} {base : Nat} {held : Bool}
set_option maxRecDepth 100000 in
theorem open_lst {α : Type} (dflt : α) (P : α → Prop) {E : World → Nat → Nat → α → Prop} {μ : α → Nat} {fuel : Nat} {t e : TypeId} {k : Nat} {cs : List Value} {x : DataW H × List MemPlace} (ht : Tryz.prog.underlying t = some (.slice e)) (hk : Tryz.prog.cellsOf e = k) (hk0 : 0 < k)
    (h : DataW.trod enc Tryz.prog w base (fun _ => true) held fuel t cs = some x)
    (hE : ∀ (b o : Nat) (cs : List Value) (n : Nat) (y : DataW H × List MemPlace), cs.length = k → (∀ j, j < k → w.cell? ⟨b, o + j, none⟩ = cs[j]?) → DataW.trod enc Tryz.prog w base (fun _ => true) held n e cs = some y → ∃ z : α, E w b o z ∧ μ z ≤ Rows.uptoBulk y.1 ∧ P z) :
    ∃ v l, cs = [v] ∧ Lst k E w v l ∧ (l.map μ).sum + 1 ≤ Rows.uptoBulk x.1 ∧ ∀ z ∈ l, P z := by
  have hinh : Inhabited α := ⟨dflt⟩
  rcases open_slice ht h with ⟨rfl, rfl⟩ | ⟨a, len, cap, m, n, D, Pl, rfl, hb, hl, hm, hmm, rfl, hx⟩
  · exact ⟨_, [], rfl, Lst.nil _ _ _, by simp [Rows.uptoBulk], fun z hz => by cases hz⟩
  simp only [if_true] at hmm
  subst hmm
  rw [hk] at hx
  rcases Nat.eq_zero_or_pos len with h0 | h0
  · subst h0
    refine ⟨_, [], rfl, ⟨some a, m, rfl, Nat.zero_le _, hm, (fun h => by cases h), Or.inl rfl⟩, ?_, fun z hz => by cases hz⟩
    simpa using bulk_one _
  · have hcell : ∀ i, i < m → ∃ cs', cs'.length = k ∧ (∀ j, j < k → w.cell? ((a.add (i * k)).add j) = cs'[j]?) ∧ DataW.trod enc Tryz.prog w base (fun _ => true) held n e cs' = some (D i, Pl i) := fun i hi => by
      obtain ⟨cs', h1, h2⟩ := hx i hi
      obtain ⟨_, h3, h4⟩ := World.cells?_some h1
      exact ⟨cs', h3, h4, h2⟩
    have hspot : a.spot = none := by
      obtain ⟨cs', h3, h4, _⟩ := hcell 0 (by omega)
      have h5 := h4 0 hk0
      rw [List.getElem?_eq_getElem (by omega)] at h5
      have := World.cell?_spot h5
      simpa [Addr.add] using this
    obtain ⟨b, off, spot⟩ := a
    simp only at hspot
    subst hspot
    have hadd : ∀ i j, ((⟨b, off, none⟩ : Addr).add (i * k)).add j = ⟨b, off + i * k + j, none⟩ := fun i j => by
      rw [add_add]
      unfold Addr.add
      split
      · rename_i h; congr 1; omega
      · simp [Nat.add_assoc]
    obtain ⟨f, hf⟩ := choose_lt (n := m) (p := fun i z => E w b (off + i * k) z ∧ μ z ≤ Rows.uptoBulk (D i) ∧ P z) (fun i hi => by
      obtain ⟨cs', h3, h4, h5⟩ := hcell i hi
      exact hE b (off + i * k) cs' n _ h3 (fun j hj => by rw [← hadd]; exact h4 j hj) h5)
    refine ⟨_, (List.range len).map f, rfl, ⟨some ⟨b, off, none⟩, m, by simp, by simpa using hl, hm, (fun h => by cases h), Or.inr ⟨b, off, rfl, fun i z hz => ?_⟩⟩, ?_, ?_⟩
    · rw [List.getElem?_map] at hz
      obtain ⟨i', hi', rfl⟩ := Option.map_eq_some_iff.1 hz
      obtain ⟨hlt, he⟩ := List.getElem?_eq_some_iff.1 hi'
      simp only [List.getElem_range] at he
      subst he
      simp only [List.length_range] at hlt
      exact (hf i (by omega)).1
    · have := bulk_map (μ := μ) (f := f) (D := D) (List.range len) (fun i hi => (hf i (by have := List.mem_range.1 hi; omega)).2.1)
      simp only [Rows.uptoBulk]
      omega
    · intro z hz
      obtain ⟨i, hi, rfl⟩ := List.mem_map.1 hz
      exact (hf i (by have := List.mem_range.1 hi; omega)).2.2
theorem cells_int : Tryz.prog.cellsOf 3 = 1 := by kernel_rfl
theorem cells_bool : Tryz.prog.cellsOf 4 = 1 := by kernel_rfl
theorem cells_V : Tryz.prog.cellsOf 29 = 3 := by kernel_rfl
theorem cells_F : Tryz.prog.cellsOf 264 = 4 := by kernel_rfl
theorem cells_C : Tryz.prog.cellsOf 61 = 4 := by kernel_rfl
theorem cells_S : Tryz.prog.cellsOf 66 = 6 := by kernel_rfl
theorem cells_R : Tryz.prog.cellsOf 96 = 2 := by kernel_rfl
theorem cells_li : Tryz.prog.cellsOf 25 = 1 := by kernel_rfl
theorem cells_lv : Tryz.prog.cellsOf 38 = 1 := by kernel_rfl
theorem cells_lf : Tryz.prog.cellsOf 59 = 1 := by kernel_rfl
theorem cells_ls : Tryz.prog.cellsOf 94 = 1 := by kernel_rfl
theorem r64_wf {m : Int} (h : (Lit.int .i64 m).wf = true) : R64 m := by
  have := bounds_i64 h
  unfold R64
  omega
def RgV (v : VT) : Prop := R64 v.num ∧ R64 v.heap
def RgF (v : FT) : Prop := R64 v.ty.num ∧ R64 v.ty.heap
structure Rng (x : SB) : Prop where
  s : ∀ n ∈ x.supers, R64 n
  k : R64 x.comp.kind
  p : ∀ v ∈ x.comp.params, R64 v.num ∧ R64 v.heap
  r : ∀ v ∈ x.comp.results, R64 v.num ∧ R64 v.heap
  f : ∀ v ∈ x.comp.fields, R64 v.ty.num ∧ R64 v.ty.heap
theorem open_I {b o : Nat} {cs : List Value} {n : Nat} {y : DataW H × List MemPlace} (hl : cs.length = 1) (hc : ∀ j, j < 1 → w.cell? ⟨b, o + j, none⟩ = cs[j]?) (h : DataW.trod enc Tryz.prog w base (fun _ => true) held n 3 cs = some y) : ∃ z : Int, EI w b o z ∧ 1 ≤ Rows.uptoBulk y.1 ∧ R64 z := by
  obtain ⟨m, rfl, rfl, wf⟩ := DataW.trod_int Tryz.underlying3 h
  exact ⟨m, hc 0 (by decide), bulk_one _, r64_wf wf⟩
set_option maxRecDepth 100000 in
theorem open_V {b o : Nat} {cs : List Value} {n : Nat} {y : DataW H × List MemPlace} (hl : cs.length = 3) (hc : ∀ j, j < 3 → w.cell? ⟨b, o + j, none⟩ = cs[j]?) (h : DataW.trod enc Tryz.prog w base (fun _ => true) held n 29 cs = some y) : ∃ z : VT, EV w b o z ∧ 1 ≤ Rows.uptoBulk y.1 ∧ RgV z := by
  obtain ⟨y0, y1, y2, m, rfl, _, h0, h1, h2⟩ := trod_struct3 Tryz.underlying29 h
  match cs, hl with
  | [c0, c1, c2], _ =>
    simp only [cells_int, cells_bool, List.drop, List.take] at h0 h1 h2
    obtain ⟨a, e0, _, wa⟩ := DataW.trod_int Tryz.underlying3 h0
    obtain ⟨p, e1, _⟩ := DataW.trod_bool Tryz.underlying4 h1
    obtain ⟨q, e2, _, wq⟩ := DataW.trod_int Tryz.underlying3 h2
    simp only [List.cons.injEq, and_true] at e0 e1 e2
    subst e0 e1 e2
    exact ⟨⟨a, p, q⟩, ⟨hc 0 (by decide), hc 1 (by decide), hc 2 (by decide)⟩, bulk_one _, r64_wf wa, r64_wf wq⟩
set_option maxRecDepth 100000 in
theorem open_F {b o : Nat} {cs : List Value} {n : Nat} {y : DataW H × List MemPlace} (hl : cs.length = 4) (hc : ∀ j, j < 4 → w.cell? ⟨b, o + j, none⟩ = cs[j]?) (h : DataW.trod enc Tryz.prog w base (fun _ => true) held n 264 cs = some y) : ∃ z : FT, EF w b o z ∧ 1 ≤ Rows.uptoBulk y.1 ∧ RgF z := by
  obtain ⟨y0, y1, m, rfl, _, h0, h1⟩ := trod_struct2 Tryz.underlying264 h
  match cs, hl with
  | [c0, c1, c2, c3], _ =>
    simp only [cells_V, cells_bool, List.drop, List.take] at h0 h1
    obtain ⟨v, hv, _, rv⟩ := open_V (b := b) (o := o) rfl (fun j hj => by
      rw [hc j (by omega)]
      match j, hj with
      | 0, _ => rfl
      | 1, _ => rfl
      | 2, _ => rfl) h0
    obtain ⟨p, e1, _⟩ := DataW.trod_bool Tryz.underlying4 h1
    simp only [List.cons.injEq, and_true] at e1
    subst e1
    exact ⟨⟨v, p⟩, ⟨hv, hc 3 (by decide)⟩, bulk_one _, rv⟩
def muS (x : SB) : Nat := x.supers.length + x.comp.params.length + x.comp.results.length + x.comp.fields.length + 1
def muR (r : RT) : Nat := (r.types.map muS).sum + 1
theorem sum_ones {α : Type} (l : List α) : (l.map fun _ => 1).sum = l.length := by
  induction l with
  | nil => rfl
  | cons a l ih => simp only [List.map_cons, List.sum_cons, List.length_cons, ih]; omega
def vt0 : VT := ⟨0, false, 0⟩
def ct0 : CT := ⟨0, [], [], []⟩
set_option maxRecDepth 100000 in
theorem open_S {b o : Nat} {cs : List Value} {n : Nat} {y : DataW H × List MemPlace} (hl : cs.length = 6) (hc : ∀ j, j < 6 → w.cell? ⟨b, o + j, none⟩ = cs[j]?) (h : DataW.trod enc Tryz.prog w base (fun _ => true) held n 66 cs = some y) : ∃ z : SB, ES w b o z ∧ muS z ≤ Rows.uptoBulk y.1 ∧ Rng z := by
  obtain ⟨y0, y1, y2, m, rfl, _, h0, h1, h2⟩ := trod_struct3 Tryz.underlying66 h
  match cs, hl with
  | [c0, c1, c2, c3, c4, c5], _ =>
    simp only [cells_li, cells_bool, cells_C, List.drop, List.take] at h0 h1 h2
    obtain ⟨f, e0, _⟩ := DataW.trod_bool Tryz.underlying4 h0
    obtain ⟨sv, sup, e1, ls, b1, q1⟩ := open_lst (0 : Int) R64 (E := EI) (μ := fun _ => 1) Tryz.underlying25 cells_int (by decide) h1 (fun b o cs n y hl hc h => open_I hl hc h)
    obtain ⟨xs, m', _, rfl, _, hxl, hf⟩ := DataW.trod_struct Tryz.underlying61 h2
    match xs, hxl with
    | [z0, z1, z2, z3], _ =>
      have g0 := hf 0 _ rfl
      have g1 := hf 1 _ rfl
      have g2 := hf 2 _ rfl
      have g3 := hf 3 _ rfl
      simp only [List.getElem_toArray, List.getElem_cons_zero, List.getElem_cons_succ, cells_int, cells_lv, cells_lf, List.drop, List.take, List.getElem?_cons_zero, List.getElem?_cons_succ] at g0 g1 g2 g3
      obtain ⟨k, e2, _, wk⟩ := DataW.trod_int Tryz.underlying3 g0
      obtain ⟨pv, ps, e3, lp, b2, q2⟩ := open_lst vt0 RgV (E := EV) (μ := fun _ => 1) Tryz.underlying38 cells_V (by decide) g1 (fun b o cs n y hl hc h => open_V hl hc h)
      obtain ⟨rv, rs, e4, lr, b3, q3⟩ := open_lst vt0 RgV (E := EV) (μ := fun _ => 1) Tryz.underlying38 cells_V (by decide) g2 (fun b o cs n y hl hc h => open_V hl hc h)
      obtain ⟨fv, fs, e5, lf, b4, q4⟩ := open_lst (⟨vt0, false⟩ : FT) RgF (E := EF) (μ := fun _ => 1) Tryz.underlying59 cells_F (by decide) g3 (fun b o cs n y hl hc h => open_F hl hc h)
      simp only [List.cons.injEq, and_true] at e0 e1 e2 e3 e4 e5
      subst e0 e1 e2 e3 e4 e5
      rw [sum_ones] at b1 b2 b3 b4
      refine ⟨⟨f, sup, ⟨k, ps, rs, fs⟩⟩, ⟨_, _, _, _, ⟨ls, lp, lr, lf⟩, hc 0 (by decide), hc 1 (by decide), hc 2 (by decide), hc 3 (by decide), hc 4 (by decide), hc 5 (by decide)⟩, ?_, ⟨q1, r64_wf wk, q2, q3, q4⟩⟩
      unfold muS
      simp only [Rows.uptoBulk, Rows.uptoBulkAll, List.map_cons, List.map_nil]
      omega
theorem sum_mem {α : Type} {μ : α → Nat} {l : List α} {a : α} (h : a ∈ l) : μ a ≤ (l.map μ).sum := by
  induction l with
  | nil => cases h
  | cons b l ih =>
    simp only [List.map_cons, List.sum_cons]
    rcases List.mem_cons.1 h with rfl | h
    · omega
    · have := ih h; omega
theorem sum_len {α : Type} {μ : α → Nat} (hμ : ∀ a, 1 ≤ μ a) (l : List α) : l.length ≤ (l.map μ).sum := by
  induction l with
  | nil => simp
  | cons a l ih => simp only [List.map_cons, List.sum_cons, List.length_cons]; have := hμ a; omega
set_option maxRecDepth 100000 in
set_option maxRecDepth 100000 in
theorem open_VV {fuel : Nat} {cs : List Value} {x : DataW H × List MemPlace} (h : DataW.trod enc Tryz.prog w base (fun _ => true) held fuel 29 cs = some x) (hl : cs.length = 3) : ∃ n nul hp, cs = [.int .i64 n, .bool nul, .int .i64 hp] ∧ R64 n ∧ R64 hp := by
  obtain ⟨y0, y1, y2, m, rfl, _, h0, h1, h2⟩ := trod_struct3 Tryz.underlying29 h
  match cs, hl with
  | [c0, c1, c2], _ =>
    simp only [cells_int, cells_bool, List.drop, List.take] at h0 h1 h2
    obtain ⟨a, e0, _, wa⟩ := DataW.trod_int Tryz.underlying3 h0
    obtain ⟨p, e1, _⟩ := DataW.trod_bool Tryz.underlying4 h1
    obtain ⟨q, e2, _, wq⟩ := DataW.trod_int Tryz.underlying3 h2
    simp only [List.cons.injEq, and_true] at e0 e1 e2
    subst e0 e1 e2
    exact ⟨a, p, q, rfl, r64_wf wa, r64_wf wq⟩
set_option maxRecDepth 100000 in
theorem open_R {b o : Nat} {cs : List Value} {n : Nat} {y : DataW H × List MemPlace} (hl : cs.length = 2) (hc : ∀ j, j < 2 → w.cell? ⟨b, o + j, none⟩ = cs[j]?) (h : DataW.trod enc Tryz.prog w base (fun _ => true) held n 96 cs = some y) : ∃ z : RT, ER w b o z ∧ muR z ≤ Rows.uptoBulk y.1 ∧ ∀ x ∈ z.types, Rng x := by
  obtain ⟨y0, y1, m, rfl, _, h0, h1⟩ := trod_struct2 Tryz.underlying96 h
  match cs, hl with
  | [c0, c1], _ =>
    simp only [cells_ls, cells_bool, List.drop, List.take] at h0 h1
    obtain ⟨tv, ts, e0, lt, b0, q0⟩ := open_lst (⟨false, [], ct0⟩ : SB) Rng (E := ES) (μ := muS) Tryz.underlying94 cells_S (by decide) h0 (fun b o cs n y hl hc h => open_S hl hc h)
    obtain ⟨p, e1, _⟩ := DataW.trod_bool Tryz.underlying4 h1
    simp only [List.cons.injEq, and_true] at e0 e1
    subst e0 e1
    refine ⟨⟨ts, p⟩, ⟨_, lt, hc 0 (by decide), hc 1 (by decide)⟩, ?_, q0⟩
    unfold muR
    simp only [Rows.uptoBulk, Rows.uptoBulkAll]
    omega
theorem open_LR {fuel : Nat} {v : Value} {x : DataW H × List MemPlace} (h : DataW.trod enc Tryz.prog w base (fun _ => true) held fuel 34 [v] = some x) : ∃ L, LR w v L ∧ (L.map muR).sum + 1 ≤ Rows.uptoBulk x.1 ∧ ∀ r ∈ L, ∀ y ∈ r.types, Rng y := by
  obtain ⟨u, L, e, l, b, q⟩ := open_lst (⟨[], false⟩ : RT) (fun r => ∀ y ∈ r.types, Rng y) (E := ER) (μ := muR) Tryz.underlying34 cells_R (by decide) h (fun b o cs n y hl hc h => open_R hl hc h)
  simp only [List.cons.injEq, and_true] at e
  subst e
  exact ⟨L, l, b, q⟩
theorem open_LV {fuel : Nat} {v : Value} {x : DataW H × List MemPlace} (h : DataW.trod enc Tryz.prog w base (fun _ => true) held fuel 38 [v] = some x) : ∃ L, LV w v L ∧ L.length + 1 ≤ Rows.uptoBulk x.1 ∧ ∀ y ∈ L, RgV y := by
  obtain ⟨u, L, e, l, b, q⟩ := open_lst vt0 RgV (E := EV) (μ := fun _ => 1) Tryz.underlying38 cells_V (by decide) h (fun b o cs n y hl hc h => open_V hl hc h)
  simp only [List.cons.injEq, and_true] at e
  subst e
  rw [sum_ones] at b
  exact ⟨L, l, b, q⟩
theorem cells_u32 : Tryz.prog.cellsOf 102 = 1 := by kernel_rfl
def EU (w : World) (b o : Nat) (x : Int) : Prop := w.cell? ⟨b, o, none⟩ = some (.int .u32 x)
abbrev LU := Lst 1 EU
def R32 (n : Int) : Prop := 0 ≤ n ∧ n ≤ 4294967295
theorem r32_wf {m : Int} (h : (Lit.int .u32 m).wf = true) : R32 m := by
  have := bounds_u32 h
  unfold R32
  omega
theorem open_U {b o : Nat} {cs : List Value} {n : Nat} {y : DataW H × List MemPlace} (hl : cs.length = 1) (hc : ∀ j, j < 1 → w.cell? ⟨b, o + j, none⟩ = cs[j]?) (h : DataW.trod enc Tryz.prog w base (fun _ => true) held n 102 cs = some y) : ∃ z : Int, EU w b o z ∧ 1 ≤ Rows.uptoBulk y.1 ∧ R32 z := by
  obtain ⟨m, rfl, rfl, wf⟩ := DataW.trod_int Tryz.underlying102 h
  exact ⟨m, hc 0 (by decide), bulk_one _, r32_wf wf⟩
theorem open_LU {fuel : Nat} {v : Value} {x : DataW H × List MemPlace} (h : DataW.trod enc Tryz.prog w base (fun _ => true) held fuel 106 [v] = some x) : ∃ L, LU w v L ∧ L.length + 1 ≤ Rows.uptoBulk x.1 ∧ ∀ y ∈ L, R32 y := by
  obtain ⟨u, L, e, l, b, q⟩ := open_lst (0 : Int) R32 (E := EU) (μ := fun _ => 1) Tryz.underlying106 cells_u32 (by decide) h (fun b o cs n y hl hc h => open_U hl hc h)
  simp only [List.cons.injEq, and_true] at e
  subst e
  rw [sum_ones] at b
  exact ⟨L, l, b, q⟩
theorem cells_lr : Tryz.prog.cellsOf 34 = 1 := by kernel_rfl
theorem cells_li9 : Tryz.prog.cellsOf 25 = 1 := by kernel_rfl
theorem cells_tb9 : Tryz.prog.cellsOf 35 = 1 := by kernel_rfl
theorem cells_lm9 : Tryz.prog.cellsOf 36 = 1 := by kernel_rfl
theorem cells_gl9 : Tryz.prog.cellsOf 37 = 1 := by kernel_rfl
theorem cells_i9 : Tryz.prog.cellsOf 3 = 1 := by kernel_rfl
theorem cells_bo9 : Tryz.prog.cellsOf 39 = 1 := by kernel_rfl
def ctxL (tv : Value) (a1 : Option Addr) (l1 c1 : Nat) (a2 : Option Addr) (l2 c2 : Nat) (a3 : Option Addr) (l3 c3 : Nat) (a4 : Option Addr) (l4 c4 : Nat) (a5 : Option Addr) (l5 c5 : Nat) (a6 : Option Addr) (l6 c6 : Nat) (dt : Int) (a8 : Option Addr) (l8 c8 : Nat) : List Value := [tv, .slice a1 l1 c1, .slice a2 l2 c2, .slice a3 l3 c3, .slice a4 l4 c4, .slice a5 l5 c5, .slice a6 l6 c6, .int .i64 dt, .slice a8 l8 c8]
set_option maxRecDepth 100000 in
theorem open_CX {fuel : Nat} {cs : List Value} {x : DataW H × List MemPlace} (h : DataW.trod enc Tryz.prog w base (fun _ => true) held fuel 41 cs = some x) (hl : cs.length = 9) : ∃ tv a1 l1 c1 a2 l2 c2 a3 l3 c3 a4 l4 c4 a5 l5 c5 a6 l6 c6 dt a8 l8 c8 L, cs = ctxL tv a1 l1 c1 a2 l2 c2 a3 l3 c3 a4 l4 c4 a5 l5 c5 a6 l6 c6 dt a8 l8 c8 ∧ LR w tv L ∧ (L.map muR).sum + 1 ≤ Rows.uptoBulk x.1 := by
  obtain ⟨xs, m', _, rfl, _, hxl, hf⟩ := DataW.trod_struct Tryz.underlying41 h
  match cs, hl with
  | [q0, q1, q2, q3, q4, q5, q6, q7, q8], _ =>
    match xs, hxl with
    | [z0, z1, z2, z3, z4, z5, z6, z7, z8], _ =>
      have g0 := hf 0 _ rfl
      have g1 := hf 1 _ rfl
      have g2 := hf 2 _ rfl
      have g3 := hf 3 _ rfl
      have g4 := hf 4 _ rfl
      have g5 := hf 5 _ rfl
      have g6 := hf 6 _ rfl
      have g7 := hf 7 _ rfl
      have g8 := hf 8 _ rfl
      simp only [List.getElem_toArray, List.getElem_cons_zero, List.getElem_cons_succ, cells_lr, cells_li9, cells_tb9, cells_lm9, cells_gl9, cells_lv, cells_i9, cells_bo9, List.drop, List.take, List.getElem?_cons_zero, List.getElem?_cons_succ] at g0 g1 g2 g3 g4 g5 g6 g7 g8
      obtain ⟨L, l0, b0, _⟩ := open_LR g0
      obtain ⟨a1, l1, c1, e1⟩ := Joins.slice_form Tryz.underlying25 g1
      obtain ⟨a2, l2, c2, e2⟩ := Joins.slice_form Tryz.underlying35 g2
      obtain ⟨a3, l3, c3, e3⟩ := Joins.slice_form Tryz.underlying36 g3
      obtain ⟨a4, l4, c4, e4⟩ := Joins.slice_form Tryz.underlying37 g4
      obtain ⟨a5, l5, c5, e5⟩ := Joins.slice_form Tryz.underlying25 g5
      obtain ⟨a6, l6, c6, e6⟩ := Joins.slice_form Tryz.underlying38 g6
      obtain ⟨dt, e7, _, _⟩ := DataW.trod_int Tryz.underlying3 g7
      obtain ⟨a8, l8, c8, e8⟩ := Joins.slice_form Tryz.underlying39 g8
      simp only [List.cons.injEq, and_true] at e1 e2 e3 e4 e5 e6 e7 e8
      subst e1 e2 e3 e4 e5 e6 e7 e8
      refine ⟨_, a1, l1, c1, a2, l2, c2, a3, l3, c3, a4, l4, c4, a5, l5, c5, a6, l6, c6, dt, a8, l8, c8, L, rfl, l0, ?_⟩
      simp only [Rows.uptoBulk, Rows.uptoBulkAll, List.map_cons, List.map_nil]
      omega
set_option maxRecDepth 100000 in
theorem open_BK {fuel : Nat} {cs : List Value} {x : DataW H × List MemPlace} (h : DataW.trod enc Tryz.prog w base (fun _ => true) held fuel 43 cs = some x) (hl : cs.length = 4) : ∃ t n z h, cs = [.int .i64 t, .int .i64 n, .bool z, .int .i64 h] ∧ -9223372036854775808 ≤ t ∧ t ≤ 9223372036854775807 := by
  obtain ⟨xs, m', _, rfl, _, hxl, hf⟩ := DataW.trod_struct Tryz.underlying43 h
  match cs, hl with
  | [q0, q1, q2, q3], _ =>
    match xs, hxl with
    | [z0, z1], _ =>
      have g0 := hf 0 _ rfl
      have g1 := hf 1 _ rfl
      simp only [List.getElem_toArray, List.getElem_cons_zero, List.getElem_cons_succ, cells_i9, cells_V, List.drop, List.take, List.getElem?_cons_zero, List.getElem?_cons_succ] at g0 g1
      obtain ⟨t, e0, _, wt⟩ := DataW.trod_int Tryz.underlying3 g0
      simp only [List.cons.injEq, and_true] at e0
      subst e0
      obtain ⟨n, z, hp, e, _, _⟩ := open_VV g1 rfl
      simp only [List.cons.injEq, and_true] at e
      obtain ⟨rfl, rfl, rfl⟩ := e
      have b := bounds_i64 wt
      exact ⟨t, n, z, hp, rfl, by omega, by omega⟩
end
end Go.Proofs.YtahmjgmaaaegcaaGreatDoor
