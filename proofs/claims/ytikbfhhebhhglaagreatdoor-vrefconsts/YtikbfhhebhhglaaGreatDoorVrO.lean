/-
  What the arguments of VrefConsts give: a context's globals, a list of instructions; no statement is proved here.
-/
import Derived.Test.YtikbfhhebhhglaaGreatDoorVrQ
import Derived.Deep.Slices
import Derived.Deep.Strs
import Derived.Lib.SmallJoins
import Derived.ChangeSame
import Derived.SizedLaws
import Derived.ChangeMaps5
namespace Go.Proofs.YtikbfhhebhhglaaGreatDoor
open Go.ChangeShapes Go.WideShapes Go.Deep
set_option linter.unusedVariables false
set_option linter.unusedSimpArgs false

def R64 (n : Int) : Prop := -9223372036854775808 ≤ n ∧ n ≤ 9223372036854775807
theorem bulk_one {H : Type} (d : DataW H) : 1 ≤ Rows.uptoBulk d := by
  cases d with
  | lit l => cases l <;> simp [Rows.uptoBulk]
  | nil => simp [Rows.uptoBulk]
  | ptr d => simp [Rows.uptoBulk]
  | slice elems spare => simp [Rows.uptoBulk]
  | agg parts => simp [Rows.uptoBulk]
  | iface t d => simp [Rows.uptoBulk]
  | map entries => simp [Rows.uptoBulk]
  | held h => simp [Rows.uptoBulk]
theorem bulk_map {H : Type} {α : Type} {μ : α → Nat} {f : Nat → α} {D : Nat → DataW H} : ∀ (l : List Nat), (∀ i ∈ l, μ (f i) ≤ Rows.uptoBulk (D i)) → ((l.map f).map μ).sum ≤ Rows.uptoBulkAll (l.map D) := by
  intro l
  induction l with
  | nil => intro _; simp
  | cons a l ih =>
    intro h
    have h1 := h a (by simp)
    have h2 := ih (fun i hi => h i (by simp [hi]))
    simp only [List.map_cons, List.sum_cons, Rows.uptoBulkAll]
    omega
section
variable {H : Type} {enc : TypeId × Value → H} {w : World} {base : Nat} {held : Bool}
set_option maxRecDepth 100000 in
theorem open_lst {α : Type} (dflt : α) (P : α → Prop) {E : World → Nat → Nat → α → Prop} {μ : α → Nat} {fuel : Nat} {t e : TypeId} {k : Nat} {cs : List Value} {x : DataW H × List MemPlace} (ht : Tryz.prog.underlying t = some (.slice e)) (hk : Tryz.prog.cellsOf e = k) (hk0 : 0 < k)
    (h : DataW.trod enc Tryz.prog w base (fun _ => true) held fuel t cs = some x)
    (hE : ∀ (b o : Nat) (cs : List Value) (n : Nat) (y : DataW H × List MemPlace), cs.length = k → (∀ j, j < k → w.cell? ⟨b, o + j, none⟩ = cs[j]?) → DataW.trod enc Tryz.prog w base (fun _ => true) held n e cs = some y → ∃ z : α, E w b o z ∧ μ z ≤ Rows.uptoBulk y.1 ∧ P z) :
    ∃ v l, cs = [v] ∧ Lst k E w v l ∧ (l.map μ).sum + 1 ≤ Rows.uptoBulk x.1 ∧ ∀ z ∈ l, P z := by
  have hinh : Inhabited α := ⟨dflt⟩
  rcases open_slice ht h with ⟨rfl, rfl⟩ | ⟨a, len, cap, m, n, D, Pl, rfl, hb, hl, hm, hmm, rfl, hx⟩
  · exact ⟨_, [], rfl, Lst.nil _ _ _, by simp [Rows.uptoBulk], fun z hz => by cases hz⟩
  simp only [if_true] at hmm
  subst hmm
  rw [hk] at hx
  rcases Nat.eq_zero_or_pos len with h0 | h0
  · subst h0
    refine ⟨_, [], rfl, ⟨some a, m, rfl, Nat.zero_le _, hm, (fun h => by cases h), Or.inl rfl⟩, ?_, fun z hz => by cases hz⟩
    simpa using bulk_one _
  · have hcell : ∀ i, i < m → ∃ cs', cs'.length = k ∧ (∀ j, j < k → w.cell? ((a.add (i * k)).add j) = cs'[j]?) ∧ DataW.trod enc Tryz.prog w base (fun _ => true) held n e cs' = some (D i, Pl i) := fun i hi => by
      obtain ⟨cs', h1, h2⟩ := hx i hi
      obtain ⟨_, h3, h4⟩ := World.cells?_some h1
      exact ⟨cs', h3, h4, h2⟩
    have hspot : a.spot = none := by
      obtain ⟨cs', h3, h4, _⟩ := hcell 0 (by omega)
      have h5 := h4 0 hk0
      rw [List.getElem?_eq_getElem (by omega)] at h5
      have := World.cell?_spot h5
      simpa [Addr.add] using this
    obtain ⟨b, off, spot⟩ := a
    simp only at hspot
    subst hspot
    have hadd : ∀ i j, ((⟨b, off, none⟩ : Addr).add (i * k)).add j = ⟨b, off + i * k + j, none⟩ := fun i j => by
      rw [add_add]
      unfold Addr.add
      split
      · rename_i h; congr 1; omega
      · simp [Nat.add_assoc]
    obtain ⟨f, hf⟩ := choose_lt (n := m) (p := fun i z => E w b (off + i * k) z ∧ μ z ≤ Rows.uptoBulk (D i) ∧ P z) (fun i hi => by
      obtain ⟨cs', h3, h4, h5⟩ := hcell i hi
      exact hE b (off + i * k) cs' n _ h3 (fun j hj => by rw [← hadd]; exact h4 j hj) h5)
    refine ⟨_, (List.range len).map f, rfl, ⟨some ⟨b, off, none⟩, m, by simp, by simpa using hl, hm, (fun h => by cases h), Or.inr ⟨b, off, rfl, fun i z hz => ?_⟩⟩, ?_, ?_⟩
    · rw [List.getElem?_map] at hz
      obtain ⟨i', hi', rfl⟩ := Option.map_eq_some_iff.1 hz
      obtain ⟨hlt, he⟩ := List.getElem?_eq_some_iff.1 hi'
      simp only [List.getElem_range] at he
      subst he
      simp only [List.length_range] at hlt
      exact (hf i (by omega)).1
    · have := bulk_map (μ := μ) (f := f) (D := D) (List.range len) (fun i hi => (hf i (by have := List.mem_range.1 hi; omega)).2.1)
      simp only [Rows.uptoBulk]
      omega
    · intro z hz
      obtain ⟨i, hi, rfl⟩ := List.mem_map.1 hz
      exact (hf i (by have := List.mem_range.1 hi; omega)).2.2
theorem cells_int : Tryz.prog.cellsOf 3 = 1 := by kernel_rfl
theorem cells_bool : Tryz.prog.cellsOf 4 = 1 := by kernel_rfl
theorem cells_V : Tryz.prog.cellsOf 46 = 3 := by kernel_rfl
theorem cells_F : Tryz.prog.cellsOf 112 = 4 := by kernel_rfl
theorem cells_C : Tryz.prog.cellsOf 106 = 4 := by kernel_rfl
theorem cells_S : Tryz.prog.cellsOf 108 = 6 := by kernel_rfl
theorem cells_R : Tryz.prog.cellsOf 102 = 2 := by kernel_rfl
theorem cells_li : Tryz.prog.cellsOf 23 = 1 := by kernel_rfl
theorem cells_lv : Tryz.prog.cellsOf 27 = 1 := by kernel_rfl
theorem cells_lf : Tryz.prog.cellsOf 104 = 1 := by kernel_rfl
theorem cells_ls : Tryz.prog.cellsOf 100 = 1 := by kernel_rfl
theorem r64_wf {m : Int} (h : (Lit.int .i64 m).wf = true) : R64 m := by
  have := bounds_i64 h
  unfold R64
  omega
def RgV (v : VT) : Prop := R64 v.num ∧ R64 v.heap
def RgF (v : FT) : Prop := R64 v.ty.num ∧ R64 v.ty.heap
structure Rng (x : SB) : Prop where
  s : ∀ n ∈ x.supers, R64 n
  k : R64 x.comp.kind
  p : ∀ v ∈ x.comp.params, R64 v.num ∧ R64 v.heap
  r : ∀ v ∈ x.comp.results, R64 v.num ∧ R64 v.heap
  f : ∀ v ∈ x.comp.fields, R64 v.ty.num ∧ R64 v.ty.heap
theorem open_I {b o : Nat} {cs : List Value} {n : Nat} {y : DataW H × List MemPlace} (hl : cs.length = 1) (hc : ∀ j, j < 1 → w.cell? ⟨b, o + j, none⟩ = cs[j]?) (h : DataW.trod enc Tryz.prog w base (fun _ => true) held n 3 cs = some y) : ∃ z : Int, EI w b o z ∧ 1 ≤ Rows.uptoBulk y.1 ∧ R64 z := by
  obtain ⟨m, rfl, rfl, wf⟩ := DataW.trod_int Tryz.underlying3 h
  exact ⟨m, hc 0 (by decide), bulk_one _, r64_wf wf⟩
set_option maxRecDepth 100000 in
theorem open_V {b o : Nat} {cs : List Value} {n : Nat} {y : DataW H × List MemPlace} (hl : cs.length = 3) (hc : ∀ j, j < 3 → w.cell? ⟨b, o + j, none⟩ = cs[j]?) (h : DataW.trod enc Tryz.prog w base (fun _ => true) held n 46 cs = some y) : ∃ z : VT, EV w b o z ∧ 1 ≤ Rows.uptoBulk y.1 ∧ RgV z := by
  obtain ⟨y0, y1, y2, m, rfl, _, h0, h1, h2⟩ := trod_struct3 Tryz.underlying46 h
  match cs, hl with
  | [c0, c1, c2], _ =>
    simp only [cells_int, cells_bool, List.drop, List.take] at h0 h1 h2
    obtain ⟨a, e0, _, wa⟩ := DataW.trod_int Tryz.underlying3 h0
    obtain ⟨p, e1, _⟩ := DataW.trod_bool Tryz.underlying4 h1
    obtain ⟨q, e2, _, wq⟩ := DataW.trod_int Tryz.underlying3 h2
    simp only [List.cons.injEq, and_true] at e0 e1 e2
    subst e0 e1 e2
    exact ⟨⟨a, p, q⟩, ⟨hc 0 (by decide), hc 1 (by decide), hc 2 (by decide)⟩, bulk_one _, r64_wf wa, r64_wf wq⟩
set_option maxRecDepth 100000 in
theorem open_VV {fuel : Nat} {cs : List Value} {x : DataW H × List MemPlace} (h : DataW.trod enc Tryz.prog w base (fun _ => true) held fuel 46 cs = some x) (hl : cs.length = 3) : ∃ n nul hp, cs = [.int .i64 n, .bool nul, .int .i64 hp] ∧ R64 n ∧ R64 hp := by
  obtain ⟨y0, y1, y2, m, rfl, _, h0, h1, h2⟩ := trod_struct3 Tryz.underlying46 h
  match cs, hl with
  | [c0, c1, c2], _ =>
    simp only [cells_int, cells_bool, List.drop, List.take] at h0 h1 h2
    obtain ⟨a, e0, _, wa⟩ := DataW.trod_int Tryz.underlying3 h0
    obtain ⟨p, e1, _⟩ := DataW.trod_bool Tryz.underlying4 h1
    obtain ⟨q, e2, _, wq⟩ := DataW.trod_int Tryz.underlying3 h2
    simp only [List.cons.injEq, and_true] at e0 e1 e2
    subst e0 e1 e2
    exact ⟨a, p, q, rfl, r64_wf wa, r64_wf wq⟩
def vt0 : VT := ⟨0, false, 0⟩
theorem cells_lr : Tryz.prog.cellsOf 22 = 1 := by kernel_rfl
theorem cells_tb9 : Tryz.prog.cellsOf 24 = 1 := by kernel_rfl
theorem cells_lm9 : Tryz.prog.cellsOf 25 = 1 := by kernel_rfl
theorem cells_gl9 : Tryz.prog.cellsOf 26 = 1 := by kernel_rfl
theorem cells_bo9 : Tryz.prog.cellsOf 28 = 1 := by kernel_rfl
theorem cells_u32 : Tryz.prog.cellsOf 41 = 1 := by kernel_rfl
theorem cells_u64 : Tryz.prog.cellsOf 42 = 1 := by kernel_rfl
theorem cells_bk9 : Tryz.prog.cellsOf 48 = 4 := by kernel_rfl
theorem cells_ln9 : Tryz.prog.cellsOf 31 = 1 := by kernel_rfl
theorem cells_lu9 : Tryz.prog.cellsOf 49 = 1 := by kernel_rfl
theorem cells_ct9 : Tryz.prog.cellsOf 50 = 1 := by kernel_rfl
theorem cells_in9 : Tryz.prog.cellsOf 52 = 17 := by kernel_rfl
theorem cells_g9 : Tryz.prog.cellsOf 69 = 4 := by kernel_rfl
set_option maxRecDepth 100000 in
theorem open_GE {b o : Nat} {cs : List Value} {n : Nat} {y : DataW H × List MemPlace} (hl : cs.length = 4) (hc : ∀ j, j < 4 → w.cell? ⟨b, o + j, none⟩ = cs[j]?) (h : DataW.trod enc Tryz.prog w base (fun _ => true) held n 69 cs = some y) : ∃ z : GLt, EGl w b o z ∧ 1 ≤ Rows.uptoBulk y.1 ∧ True := by
  obtain ⟨y0, y1, m, rfl, _, h0, h1⟩ := trod_struct2 Tryz.underlying69 h
  match cs, hl with
  | [c0, c1, c2, c3], _ =>
    simp only [cells_V, cells_bool, List.drop, List.take] at h0 h1
    obtain ⟨v, hv, _, rv⟩ := open_V (b := b) (o := o) rfl (fun j hj => by
      rw [hc j (by omega)]
      match j, hj with
      | 0, _ => rfl
      | 1, _ => rfl
      | 2, _ => rfl) h0
    obtain ⟨p, e1, _⟩ := DataW.trod_bool Tryz.underlying4 h1
    simp only [List.cons.injEq, and_true] at e1
    subst e1
    exact ⟨⟨v, p⟩, ⟨hv.1, hv.2.1, hv.2.2, hc 3 (by decide)⟩, bulk_one _, trivial⟩
set_option maxRecDepth 100000 in
theorem open_BK4 {fuel : Nat} {cs : List Value} {x : DataW H × List MemPlace} (h : DataW.trod enc Tryz.prog w base (fun _ => true) held fuel 48 cs = some x) (hl : cs.length = 4) : ∃ t n z h, cs = [.int .i64 t, .int .i64 n, .bool z, .int .i64 h] := by
  obtain ⟨xs, m', _, rfl, _, hxl, hf⟩ := DataW.trod_struct Tryz.underlying48 h
  match cs, hl with
  | [q0, q1, q2, q3], _ =>
    match xs, hxl with
    | [z0, z1], _ =>
      have g0 := hf 0 _ rfl
      have g1 := hf 1 _ rfl
      simp only [List.getElem_toArray, List.getElem_cons_zero, List.getElem_cons_succ, cells_int, cells_V, List.drop, List.take, List.getElem?_cons_zero, List.getElem?_cons_succ] at g0 g1
      obtain ⟨t, e0, _, wt⟩ := DataW.trod_int Tryz.underlying3 g0
      simp only [List.cons.injEq, and_true] at e0
      subst e0
      obtain ⟨n, z, hp, e, _, _⟩ := open_VV g1 rfl
      simp only [List.cons.injEq, and_true] at e
      obtain ⟨rfl, rfl, rfl⟩ := e
      exact ⟨t, n, z, hp, rfl⟩
theorem cells_mm9 : Tryz.prog.cellsOf 44 = 3 := by kernel_rfl
set_option maxRecDepth 100000 in
theorem open_MM {fuel : Nat} {cs : List Value} {x : DataW H × List MemPlace} (h : DataW.trod enc Tryz.prog w base (fun _ => true) held fuel 44 cs = some x) (hl : cs.length = 3) : ∃ a m o, cs = [.int .u32 a, .int .u32 m, .int .u64 o] := by
  obtain ⟨y0, y1, y2, m, rfl, _, h0, h1, h2⟩ := trod_struct3 Tryz.underlying44 h
  match cs, hl with
  | [c0, c1, c2], _ =>
    simp only [cells_u32, cells_u64, List.drop, List.take] at h0 h1 h2
    obtain ⟨a, e0, _, _⟩ := DataW.trod_int Tryz.underlying41 h0
    obtain ⟨p, e1, _, _⟩ := DataW.trod_int Tryz.underlying41 h1
    obtain ⟨q, e2, _, _⟩ := DataW.trod_int Tryz.underlying42 h2
    simp only [List.cons.injEq, and_true] at e0 e1 e2
    subst e0 e1 e2
    exact ⟨a, p, q, rfl⟩
set_option maxRecDepth 100000 in
set_option maxHeartbeats 2000000 in
theorem open_IN {b o : Nat} {cs : List Value} {n : Nat} {y : DataW H × List MemPlace} (hl : cs.length = 17) (hc : ∀ j, j < 17 → w.cell? ⟨b, o + j, none⟩ = cs[j]?) (h : DataW.trod enc Tryz.prog w base (fun _ => true) held n 52 cs = some y) : ∃ z : IT, EIn w b o z ∧ 1 ≤ Rows.uptoBulk y.1 ∧ True := by
  obtain ⟨xs, m', _, rfl, _, hxl, hf⟩ := DataW.trod_struct Tryz.underlying52 h
  match cs, hl with
  | [q0, q1, q2, q3, q4, q5, q6, q7, q8, q9, q10, q11, q12, q13, q14, q15, q16], _ =>
    match xs, hxl with
    | [z0, z1, z2, z3, z4, z5, z6, z7, z8, z9, z10, z11], _ =>
      have g0 := hf 0 _ rfl
      have g1 := hf 1 _ rfl
      have g2 := hf 2 _ rfl
      have g3 := hf 3 _ rfl
      have g4 := hf 4 _ rfl
      have g5 := hf 5 _ rfl
      have g6 := hf 6 _ rfl
      have g7 := hf 7 _ rfl
      have g8 := hf 8 _ rfl
      have g9 := hf 9 _ rfl
      have g10 := hf 10 _ rfl
      have g11 := hf 11 _ rfl
      simp only [List.getElem_toArray, List.getElem_cons_zero, List.getElem_cons_succ, cells_int, cells_bool, cells_u32, cells_u64, cells_mm9, cells_bk9, cells_ln9, cells_lu9, cells_ct9, cells_lv, List.drop, List.take, List.getElem?_cons_zero, List.getElem?_cons_succ] at g0 g1 g2 g3 g4 g5 g6 g7 g8 g9 g10 g11
      obtain ⟨i0, e0, _, wf0⟩ := DataW.trod_int Tryz.underlying3 g0
      obtain ⟨i1, e1, _, wf1⟩ := DataW.trod_int Tryz.underlying41 g1
      obtain ⟨i2, e2, _, wf2⟩ := DataW.trod_int Tryz.underlying41 g2
      obtain ⟨i3, e3, _, wf3⟩ := DataW.trod_int Tryz.underlying42 g3
      obtain ⟨m0, m1, m2, e4⟩ := open_MM g4 rfl
      obtain ⟨r0, r1, r2, r3, e5⟩ := open_BK4 g5 rfl
      obtain ⟨a6, l6, c6, e6⟩ := Joins.slice_form Tryz.underlying31 g6
      obtain ⟨a7, l7, c7, e7⟩ := Joins.slice_form Tryz.underlying31 g7
      obtain ⟨p8, e8, _⟩ := DataW.trod_bool Tryz.underlying4 g8
      obtain ⟨a9, l9, c9, e9⟩ := Joins.slice_form Tryz.underlying49 g9
      obtain ⟨a10, l10, c10, e10⟩ := Joins.slice_form Tryz.underlying27 g10
      obtain ⟨a11, l11, c11, e11⟩ := Joins.slice_form Tryz.underlying50 g11
      simp only [List.cons.injEq, and_true] at e0 e1 e2 e3 e4 e5 e6 e7 e8 e9 e10 e11
      obtain ⟨rfl, rfl, rfl, rfl⟩ := e5
      obtain ⟨rfl, rfl, rfl⟩ := e4
      subst e0 e1 e2 e3 e6 e7 e8 e9 e10 e11
      have hb := bounds_u32 wf1
      have hx : ((i1.toNat : Nat) : Int) = i1 := by omega
      refine ⟨⟨i0, i1.toNat, [.int .u32 i2, .int .u64 i3, .int .u32 m0, .int .u32 m1, .int .u64 m2, .int .i64 r0, .int .i64 r1, .bool r2, .int .i64 r3, .slice a6 l6 c6, .slice a7 l7 c7, .bool p8, .slice a9 l9 c9, .slice a10 l10 c10, .slice a11 l11 c11]⟩, ⟨rfl, by show i1.toNat < 4294967296; omega, hc 0 (by decide), ?_, ?_, ?_⟩, bulk_one _, trivial⟩
      · show w.cell? ⟨b, o + 1, none⟩ = some (.int .u32 ((i1.toNat : Nat) : Int))
        rw [hx]
        exact hc 1 (by decide)
      · intro v hv
        simp only [List.mem_cons, List.mem_nil_iff, or_false] at hv
        rcases hv with rfl | rfl | rfl | rfl | rfl | rfl | rfl | rfl | rfl | rfl | rfl | rfl | rfl | rfl | rfl <;> rfl
      · intro j v hv
        have hj : j < 15 := (List.getElem?_eq_some_iff.1 hv).1
        rw [show o + 2 + j = o + (2 + j) by omega, hc (2 + j) (by omega), ← hv]
        match j, hj with
        | 0, _ => rfl
        | 1, _ => rfl
        | 2, _ => rfl
        | 3, _ => rfl
        | 4, _ => rfl
        | 5, _ => rfl
        | 6, _ => rfl
        | 7, _ => rfl
        | 8, _ => rfl
        | 9, _ => rfl
        | 10, _ => rfl
        | 11, _ => rfl
        | 12, _ => rfl
        | 13, _ => rfl
        | 14, _ => rfl
theorem open_LN {fuel : Nat} {v : Value} {x : DataW H × List MemPlace} (h : DataW.trod enc Tryz.prog w base (fun _ => true) held fuel 31 [v] = some x) : ∃ L, LIn w v L := by
  obtain ⟨u, L, e, l, b, q⟩ := open_lst (⟨0, 0, []⟩ : IT) (fun _ => True) (E := EIn) (μ := fun _ => 1) Tryz.underlying31 cells_in9 (by decide) h (fun b o cs n y hl hc h => open_IN hl hc h)
  simp only [List.cons.injEq, and_true] at e
  subst e
  exact ⟨L, l⟩
theorem open_LG {fuel : Nat} {v : Value} {x : DataW H × List MemPlace} (h : DataW.trod enc Tryz.prog w base (fun _ => true) held fuel 26 [v] = some x) : ∃ L, LGl w v L := by
  obtain ⟨u, L, e, l, b, q⟩ := open_lst (⟨vt0, false⟩ : GLt) (fun _ => True) (E := EGl) (μ := fun _ => 1) Tryz.underlying26 cells_g9 (by decide) h (fun b o cs n y hl hc h => open_GE hl hc h)
  simp only [List.cons.injEq, and_true] at e
  subst e
  exact ⟨L, l⟩
set_option maxRecDepth 100000 in
theorem open_CG {fuel : Nat} {cs : List Value} {x : DataW H × List MemPlace} (h : DataW.trod enc Tryz.prog w base (fun _ => true) held fuel 30 cs = some x) (hl : cs.length = 9) : ∃ s0 s1 s2 s3 gv s5 s6 s7 s8 L, cs = [s0, s1, s2, s3, gv, s5, s6, s7, s8] ∧ LGl w gv L := by
  obtain ⟨xs, m', _, rfl, _, hxl, hf⟩ := DataW.trod_struct Tryz.underlying30 h
  match cs, hl with
  | [q0, q1, q2, q3, q4, q5, q6, q7, q8], _ =>
    match xs, hxl with
    | [z0, z1, z2, z3, z4, z5, z6, z7, z8], _ =>
      have g4 := hf 4 _ rfl
      simp only [List.getElem_toArray, List.getElem_cons_zero, List.getElem_cons_succ, cells_lr, cells_li, cells_tb9, cells_lm9, cells_gl9, cells_lv, cells_int, cells_bo9, List.drop, List.take, List.getElem?_cons_zero, List.getElem?_cons_succ] at g4
      obtain ⟨L, l4⟩ := open_LG g4
      exact ⟨q0, q1, q2, q3, q4, q5, q6, q7, q8, L, rfl, l4⟩
end
end Go.Proofs.YtikbfhhebhhglaaGreatDoor
