/-
  The numbering of a list of groups as plain data; no statement is proved here.
-/
import Derived.Test.YtnmbniojejckpaaGreatDoorTxM
import Derived.Test.YtnmbniojejckpaaGreatDoorCp
import Derived.Deep.Slices
import Derived.Deep.Strs
import Derived.Test.YtnmbniojejckpaaGreatDoorCls
set_option maxRecDepth 100000
set_option maxHeartbeats 8000000
namespace Go.Proofs.YtnmbniojejckpaaGreatDoor
open Go.ChangeShapes Go.WideShapes Go.Deep
set_option linter.unusedVariables false
set_option linter.unusedSimpArgs false
theorem bulk_one {H : Type} (d : DataW H) : 1 ≤ Rows.uptoBulk d := by
  cases d with
  | lit l => cases l <;> simp [Rows.uptoBulk]
  | nil => simp [Rows.uptoBulk]
  | ptr d => simp [Rows.uptoBulk]
  | slice elems spare => simp [Rows.uptoBulk]
  | agg parts => simp [Rows.uptoBulk]
  | iface t d => simp [Rows.uptoBulk]
  | map entries => simp [Rows.uptoBulk]
  | held h => simp [Rows.uptoBulk]
theorem bulk_map {H : Type} {α : Type} {μ : α → Nat} {f : Nat → α} {D : Nat → DataW H} : ∀ (l : List Nat), (∀ i ∈ l, μ (f i) ≤ Rows.uptoBulk (D i)) → ((l.map f).map μ).sum ≤ Rows.uptoBulkAll (l.map D) := by
  intro l
  induction l with
  | nil => intro _; simp
  | cons a l ih =>
    intro h
    have h1 := h a (by simp)
    have h2 := ih (fun i hi => h i (by simp [hi]))
    simp only [List.map_cons, List.sum_cons, Rows.uptoBulkAll]
    omega
section
variable {H : Type} {enc : TypeId × Value → H} {w : World} {base : Nat} {held : Bool}
theorem open_lst {α : Type} (dflt : α) (P : α → Prop) {E : World → Nat → Nat → α → Prop} {μ : α → Nat} {fuel : Nat} {t e : TypeId} {k : Nat} {cs : List Value} {x : DataW H × List MemPlace} (ht : Tryz.prog.underlying t = some (.slice e)) (hk : Tryz.prog.cellsOf e = k) (hk0 : 0 < k)
    (h : DataW.trod enc Tryz.prog w base (fun _ => true) held fuel t cs = some x)
    (hE : ∀ (b o : Nat) (cs : List Value) (n : Nat) (y : DataW H × List MemPlace), cs.length = k → (∀ j, j < k → w.cell? ⟨b, o + j, none⟩ = cs[j]?) → DataW.trod enc Tryz.prog w base (fun _ => true) held n e cs = some y → ∃ z : α, E w b o z ∧ μ z ≤ Rows.uptoBulk y.1 ∧ P z) :
    ∃ v l, cs = [v] ∧ Lst k E w v l ∧ (l.map μ).sum + 1 ≤ Rows.uptoBulk x.1 ∧ ∀ z ∈ l, P z := by
  have hinh : Inhabited α := ⟨dflt⟩
  rcases open_slice ht h with ⟨rfl, rfl⟩ | ⟨a, len, cap, m, n, D, Pl, rfl, hb, hl, hm, hmm, rfl, hx⟩
  · exact ⟨_, [], rfl, Lst.nil _ _ _, by simp [Rows.uptoBulk], fun z hz => by cases hz⟩
  simp only [if_true] at hmm
  subst hmm
  rw [hk] at hx
  rcases Nat.eq_zero_or_pos len with h0 | h0
  · subst h0
    refine ⟨_, [], rfl, ⟨some a, m, rfl, Nat.zero_le _, hm, (fun h => by cases h), Or.inl rfl⟩, ?_, fun z hz => by cases hz⟩
    simpa using bulk_one _
  · have hcell : ∀ i, i < m → ∃ cs', cs'.length = k ∧ (∀ j, j < k → w.cell? ((a.add (i * k)).add j) = cs'[j]?) ∧ DataW.trod enc Tryz.prog w base (fun _ => true) held n e cs' = some (D i, Pl i) := fun i hi => by
      obtain ⟨cs', h1, h2⟩ := hx i hi
      obtain ⟨_, h3, h4⟩ := World.cells?_some h1
      exact ⟨cs', h3, h4, h2⟩
    have hspot : a.spot = none := by
      obtain ⟨cs', h3, h4, _⟩ := hcell 0 (by omega)
      have h5 := h4 0 hk0
      rw [List.getElem?_eq_getElem (by omega)] at h5
      have := World.cell?_spot h5
      simpa [Addr.add] using this
    obtain ⟨b, off, spot⟩ := a
    simp only at hspot
    subst hspot
    have hadd : ∀ i j, ((⟨b, off, none⟩ : Addr).add (i * k)).add j = ⟨b, off + i * k + j, none⟩ := fun i j => by
      rw [add_add]
      unfold Addr.add
      split
      · rename_i h; congr 1; omega
      · simp [Nat.add_assoc]
    obtain ⟨f, hf⟩ := choose_lt (n := m) (p := fun i z => E w b (off + i * k) z ∧ μ z ≤ Rows.uptoBulk (D i) ∧ P z) (fun i hi => by
      obtain ⟨cs', h3, h4, h5⟩ := hcell i hi
      exact hE b (off + i * k) cs' n _ h3 (fun j hj => by rw [← hadd]; exact h4 j hj) h5)
    refine ⟨_, (List.range len).map f, rfl, ⟨some ⟨b, off, none⟩, m, by simp, by simpa using hl, hm, (fun h => by cases h), Or.inr ⟨b, off, rfl, fun i z hz => ?_⟩⟩, ?_, ?_⟩
    · rw [List.getElem?_map] at hz
      obtain ⟨i', hi', rfl⟩ := Option.map_eq_some_iff.1 hz
      obtain ⟨hlt, he⟩ := List.getElem?_eq_some_iff.1 hi'
      simp only [List.getElem_range] at he
      subst he
      simp only [List.length_range] at hlt
      exact (hf i (by omega)).1
    · have := bulk_map (μ := μ) (f := f) (D := D) (List.range len) (fun i hi => (hf i (by have := List.mem_range.1 hi; omega)).2.1)
      simp only [Rows.uptoBulk]
      omega
    · intro z hz
      obtain ⟨i, hi, rfl⟩ := List.mem_map.1 hz
      exact (hf i (by have := List.mem_range.1 hi; omega)).2.2
theorem cells_int : Tryz.prog.cellsOf 3 = 1 := by kernel_rfl
theorem cells_bool : Tryz.prog.cellsOf 4 = 1 := by kernel_rfl
theorem cells_V : Tryz.prog.cellsOf 46 = 3 := by kernel_rfl
theorem cells_F : Tryz.prog.cellsOf 112 = 4 := by kernel_rfl
theorem cells_C : Tryz.prog.cellsOf 106 = 4 := by kernel_rfl
theorem cells_S : Tryz.prog.cellsOf 108 = 6 := by kernel_rfl
theorem cells_R : Tryz.prog.cellsOf 102 = 2 := by kernel_rfl
theorem cells_li : Tryz.prog.cellsOf 23 = 1 := by kernel_rfl
theorem cells_lv : Tryz.prog.cellsOf 27 = 1 := by kernel_rfl
theorem cells_lf : Tryz.prog.cellsOf 104 = 1 := by kernel_rfl
theorem cells_ls : Tryz.prog.cellsOf 100 = 1 := by kernel_rfl
theorem r64_wf {m : Int} (h : (Lit.int .i64 m).wf = true) : R64 m := by
  have := bounds_i64 h
  unfold R64
  omega
def RgV (v : VT) : Prop := R64 v.num ∧ R64 v.heap
def RgF (v : FT) : Prop := R64 v.ty.num ∧ R64 v.ty.heap
theorem open_I {b o : Nat} {cs : List Value} {n : Nat} {y : DataW H × List MemPlace} (hl : cs.length = 1) (hc : ∀ j, j < 1 → w.cell? ⟨b, o + j, none⟩ = cs[j]?) (h : DataW.trod enc Tryz.prog w base (fun _ => true) held n 3 cs = some y) : ∃ z : Int, EI w b o z ∧ 1 ≤ Rows.uptoBulk y.1 ∧ R64 z := by
  obtain ⟨m, rfl, rfl, wf⟩ := DataW.trod_int Tryz.underlying3 h
  exact ⟨m, hc 0 (by decide), bulk_one _, r64_wf wf⟩
theorem open_V {b o : Nat} {cs : List Value} {n : Nat} {y : DataW H × List MemPlace} (hl : cs.length = 3) (hc : ∀ j, j < 3 → w.cell? ⟨b, o + j, none⟩ = cs[j]?) (h : DataW.trod enc Tryz.prog w base (fun _ => true) held n 46 cs = some y) : ∃ z : VT, EV w b o z ∧ 1 ≤ Rows.uptoBulk y.1 ∧ RgV z := by
  obtain ⟨y0, y1, y2, m, rfl, _, h0, h1, h2⟩ := trod_struct3 Tryz.underlying46 h
  match cs, hl with
  | [c0, c1, c2], _ =>
    simp only [cells_int, cells_bool, List.drop, List.take] at h0 h1 h2
    obtain ⟨a, e0, _, wa⟩ := DataW.trod_int Tryz.underlying3 h0
    obtain ⟨p, e1, _⟩ := DataW.trod_bool Tryz.underlying4 h1
    obtain ⟨q, e2, _, wq⟩ := DataW.trod_int Tryz.underlying3 h2
    simp only [List.cons.injEq, and_true] at e0 e1 e2
    subst e0 e1 e2
    exact ⟨⟨a, p, q⟩, ⟨hc 0 (by decide), hc 1 (by decide), hc 2 (by decide)⟩, bulk_one _, r64_wf wa, r64_wf wq⟩
theorem open_F {b o : Nat} {cs : List Value} {n : Nat} {y : DataW H × List MemPlace} (hl : cs.length = 4) (hc : ∀ j, j < 4 → w.cell? ⟨b, o + j, none⟩ = cs[j]?) (h : DataW.trod enc Tryz.prog w base (fun _ => true) held n 112 cs = some y) : ∃ z : FT, EF w b o z ∧ 1 ≤ Rows.uptoBulk y.1 ∧ RgF z := by
  obtain ⟨y0, y1, m, rfl, _, h0, h1⟩ := trod_struct2 Tryz.underlying112 h
  match cs, hl with
  | [c0, c1, c2, c3], _ =>
    simp only [cells_V, cells_bool, List.drop, List.take] at h0 h1
    obtain ⟨v, hv, _, rv⟩ := open_V (b := b) (o := o) rfl (fun j hj => by
      rw [hc j (by omega)]
      match j, hj with
      | 0, _ => rfl
      | 1, _ => rfl
      | 2, _ => rfl) h0
    obtain ⟨p, e1, _⟩ := DataW.trod_bool Tryz.underlying4 h1
    simp only [List.cons.injEq, and_true] at e1
    subst e1
    exact ⟨⟨v, p⟩, ⟨hv, hc 3 (by decide)⟩, bulk_one _, rv⟩
def muS (x : SB) : Nat := x.supers.length + x.comp.params.length + x.comp.results.length + x.comp.fields.length + 1
def muR (r : RT) : Nat := (r.types.map muS).sum + 1
theorem sum_ones {α : Type} (l : List α) : (l.map fun _ => 1).sum = l.length := by
  induction l with
  | nil => rfl
  | cons a l ih => simp only [List.map_cons, List.sum_cons, List.length_cons, ih]; omega
def vt0 : VT := ⟨0, false, 0⟩
def ct0 : CT := ⟨0, [], [], []⟩
theorem open_S {b o : Nat} {cs : List Value} {n : Nat} {y : DataW H × List MemPlace} (hl : cs.length = 6) (hc : ∀ j, j < 6 → w.cell? ⟨b, o + j, none⟩ = cs[j]?) (h : DataW.trod enc Tryz.prog w base (fun _ => true) held n 108 cs = some y) : ∃ z : SB, ES w b o z ∧ muS z ≤ Rows.uptoBulk y.1 ∧ Rng z := by
  obtain ⟨y0, y1, y2, m, rfl, _, h0, h1, h2⟩ := trod_struct3 Tryz.underlying108 h
  match cs, hl with
  | [c0, c1, c2, c3, c4, c5], _ =>
    simp only [cells_li, cells_bool, cells_C, List.drop, List.take] at h0 h1 h2
    obtain ⟨f, e0, _⟩ := DataW.trod_bool Tryz.underlying4 h0
    obtain ⟨sv, sup, e1, ls, b1, q1⟩ := open_lst (0 : Int) R64 (E := EI) (μ := fun _ => 1) Tryz.underlying23 cells_int (by decide) h1 (fun b o cs n y hl hc h => open_I hl hc h)
    obtain ⟨xs, m', _, rfl, _, hxl, hf⟩ := DataW.trod_struct Tryz.underlying106 h2
    match xs, hxl with
    | [z0, z1, z2, z3], _ =>
      have g0 := hf 0 _ rfl
      have g1 := hf 1 _ rfl
      have g2 := hf 2 _ rfl
      have g3 := hf 3 _ rfl
      simp only [List.getElem_toArray, List.getElem_cons_zero, List.getElem_cons_succ, cells_int, cells_lv, cells_lf, List.drop, List.take, List.getElem?_cons_zero, List.getElem?_cons_succ] at g0 g1 g2 g3
      obtain ⟨k, e2, _, wk⟩ := DataW.trod_int Tryz.underlying3 g0
      obtain ⟨pv, ps, e3, lp, b2, q2⟩ := open_lst vt0 RgV (E := EV) (μ := fun _ => 1) Tryz.underlying27 cells_V (by decide) g1 (fun b o cs n y hl hc h => open_V hl hc h)
      obtain ⟨rv, rs, e4, lr, b3, q3⟩ := open_lst vt0 RgV (E := EV) (μ := fun _ => 1) Tryz.underlying27 cells_V (by decide) g2 (fun b o cs n y hl hc h => open_V hl hc h)
      obtain ⟨fv, fs, e5, lf, b4, q4⟩ := open_lst (⟨vt0, false⟩ : FT) RgF (E := EF) (μ := fun _ => 1) Tryz.underlying104 cells_F (by decide) g3 (fun b o cs n y hl hc h => open_F hl hc h)
      simp only [List.cons.injEq, and_true] at e0 e1 e2 e3 e4 e5
      subst e0 e1 e2 e3 e4 e5
      rw [sum_ones] at b1 b2 b3 b4
      refine ⟨⟨f, sup, ⟨k, ps, rs, fs⟩⟩, ⟨_, _, _, _, ⟨ls, lp, lr, lf⟩, hc 0 (by decide), hc 1 (by decide), hc 2 (by decide), hc 3 (by decide), hc 4 (by decide), hc 5 (by decide)⟩, ?_, ⟨q1, r64_wf wk, q2, q3, q4⟩⟩
      unfold muS
      simp only [Rows.uptoBulk, Rows.uptoBulkAll, List.map_cons, List.map_nil]
      omega
theorem open_R {b o : Nat} {cs : List Value} {n : Nat} {y : DataW H × List MemPlace} (hl : cs.length = 2) (hc : ∀ j, j < 2 → w.cell? ⟨b, o + j, none⟩ = cs[j]?) (h : DataW.trod enc Tryz.prog w base (fun _ => true) held n 102 cs = some y) : ∃ z : RT, ER w b o z ∧ muR z ≤ Rows.uptoBulk y.1 ∧ ∀ x ∈ z.types, Rng x := by
  obtain ⟨y0, y1, m, rfl, _, h0, h1⟩ := trod_struct2 Tryz.underlying102 h
  match cs, hl with
  | [c0, c1], _ =>
    simp only [cells_ls, cells_bool, List.drop, List.take] at h0 h1
    obtain ⟨tv, ts, e0, lt, b0, q0⟩ := open_lst (⟨false, [], ct0⟩ : SB) Rng (E := ES) (μ := muS) Tryz.underlying100 cells_S (by decide) h0 (fun b o cs n y hl hc h => open_S hl hc h)
    obtain ⟨p, e1, _⟩ := DataW.trod_bool Tryz.underlying4 h1
    simp only [List.cons.injEq, and_true] at e0 e1
    subst e0 e1
    refine ⟨⟨ts, p⟩, ⟨_, lt, hc 0 (by decide), hc 1 (by decide)⟩, ?_, q0⟩
    unfold muR
    simp only [Rows.uptoBulk, Rows.uptoBulkAll]
    omega
theorem sum_mem {α : Type} {μ : α → Nat} {l : List α} {a : α} (h : a ∈ l) : μ a ≤ (l.map μ).sum := by
  induction l with
  | nil => cases h
  | cons b l ih =>
    simp only [List.map_cons, List.sum_cons]
    rcases List.mem_cons.1 h with rfl | h
    · omega
    · have := ih h; omega
theorem sum_len {α : Type} {μ : α → Nat} (hμ : ∀ a, 1 ≤ μ a) (l : List α) : l.length ≤ (l.map μ).sum := by
  induction l with
  | nil => simp
  | cons a l ih => simp only [List.map_cons, List.sum_cons, List.length_cons]; have := hμ a; omega
theorem cnt_sum (L : List RT) : cntT L ≤ (L.map muR).sum := by
  induction L with
  | nil => simp [cntT]
  | cons r L ih =>
    have := sum_len (μ := muS) (fun a => by unfold muS; omega) r.types
    simp only [cntT, List.map_cons, List.sum_cons]
    unfold muR at ih ⊢
    omega
theorem sml_of {L : List RT} (h : (L.map muR).sum ≤ 1048576) : SmlL L := by
  refine ⟨Nat.le_trans (sum_len (fun a => by unfold muR; omega) L) h, Nat.le_trans (cnt_sum L) h, fun r hr x hx => ?_⟩
  have h1 := sum_mem (μ := muR) hr
  have h2 := sum_mem (μ := muS) hx
  have h3 : muR r = (r.types.map muS).sum + 1 := rfl
  have h4 : muS x = x.supers.length + x.comp.params.length + x.comp.results.length + x.comp.fields.length + 1 := rfl
  exact ⟨by omega, by omega, by omega, by omega⟩
/- A list of groups that came in. -/
theorem open_LR {fuel : Nat} {v : Value} {x : DataW H × List MemPlace} (h : DataW.trod enc Tryz.prog w base (fun _ => true) held fuel 22 [v] = some x) : ∃ L, LR w v L ∧ (L.map muR).sum + 1 ≤ Rows.uptoBulk x.1 ∧ ∀ r ∈ L, ∀ y ∈ r.types, Rng y := by
  obtain ⟨u, L, e, l, b, q⟩ := open_lst (⟨[], false⟩ : RT) (fun r => ∀ y ∈ r.types, Rng y) (E := ER) (μ := muR) Tryz.underlying22 cells_R (by decide) h (fun b o cs n y hl hc h => open_R hl hc h)
  simp only [List.cons.injEq, and_true] at e
  subst e
  exact ⟨L, l, b, q⟩
end
end Go.Proofs.YtnmbniojejckpaaGreatDoor
namespace Go.Proofs.YtnmbniojejckpaaGreatDoor
open Go.RowKit
set_option linter.unusedVariables false
set_option linter.unusedSimpArgs false
def idsOf (n : Int) (k : Nat) : List Int := (List.range k).map fun (i : Nat) => n + (i : Int)
theorem idsOf_len (n : Int) (k : Nat) : (idsOf n k).length = k := by simp [idsOf]
theorem idsOf_succ (n : Int) (k : Nat) : idsOf n (k + 1) = idsOf n k ++ [n + (k : Int)] := by simp [idsOf, List.range_succ]
/- The groups one by one: each is rolled up by the ids ahead, and placed. -/
def numF {σ : Type} (step : σ → List SB → Option (Int × σ)) : List RT → List Int → σ → Option (List Int) × σ
  | [], ids, s => (some ids, s)
  | r :: L, ids, s => match step s (r.types.map (SB.sw (toldN ids))) with
    | none => (none, s)
    | some (n, s') => numF step L (ids ++ idsOf n r.types.length) s'
theorem numF_at {σ : Type} {step : σ → List SB → Option (Int × σ)} {L : List RT} {i : Nat} {r : RT} (h : L[i]? = some r) (ids : List Int) (s : σ) :
    numF step (L.drop i) ids s = match step s (r.types.map (SB.sw (toldN ids))) with
      | none => (none, s)
      | some (n, s') => numF step (L.drop (i + 1)) (ids ++ idsOf n r.types.length) s' := by
  obtain ⟨hi, he⟩ := List.getElem?_eq_some_iff.1 h
  rw [List.drop_eq_getElem_cons hi, he]
  rfl
theorem okS_iff {e h : Int} : okS e h = true ↔ 0 ≤ h ∧ h < e := by unfold okS; simp
theorem mem_vis {l : List VT} {v : VT} (h : v ∈ l) (h5 : v.num = 5) (h0 : absB v.heap = false) : v.heap ∈ l.flatMap visV := by
  rw [List.mem_flatMap]
  refine ⟨v, h, ?_⟩
  unfold visV
  rw [if_pos ⟨h5, h0⟩]
  simp
theorem abs_no {h : Int} (h0 : 0 ≤ h) : absB h = false := by unfold absB; simp; omega
theorem fineP_num {x : SB} {e : Int} (h : fineP x e = true) : ∀ n ∈ seenL x, 0 ≤ n ∧ n < e := fun n hn => okS_iff.1 (List.all_eq_true.1 h n hn)
theorem fineP_in {x : SB} {N : Nat} (h : fineP x (N : Int) = true) : In (Below' N) x := by
  have hn := fineP_num h
  unfold seenL at hn
  refine ⟨fun n hs => hn n (by simp [hs]), fun hk v hv h5 h0 => hn _ ?_, fun hk v hv h5 h0 => hn _ ?_, fun hk v hv h5 h0 => hn _ ?_⟩
  · have e : x.comp.ofK.params = x.comp.params := by unfold CT.ofK; rw [if_pos hk]
    rw [e]
    have := mem_vis hv h5 (abs_no h0)
    simp [this]
  · have e : x.comp.ofK.results = x.comp.results := by unfold CT.ofK; rw [if_pos hk]
    rw [e]
    have := mem_vis hv h5 (abs_no h0)
    simp [this]
  · have e : x.comp.ofK.fields = x.comp.fields := by unfold CT.ofK; rw [if_neg (by omega), if_pos hk]
    rw [e]
    have := mem_vis (l := x.comp.fields.map FT.ty) (v := v.ty) (List.mem_map.2 ⟨v, hv, rfl⟩) h5 (abs_no h0)
    simp [this]
theorem V_rng {f : Int → Int} {v : VT} (hv : R64 v.num ∧ R64 v.heap) (hf : v.num = 5 → 0 ≤ v.heap → R64 (f v.heap)) : R64 (v.sw f).num ∧ R64 (v.sw f).heap := by
  unfold VT.sw
  by_cases h5 : v.num = 5
  · rw [if_pos h5]
    by_cases h0 : 0 ≤ v.heap
    · rw [if_pos h0]; exact ⟨by unfold R64; simp only; omega, hf h5 h0⟩
    · rw [if_neg h0]; exact hv
  · rw [if_neg h5]; exact ⟨hv.1, by unfold R64; simp only; omega⟩
theorem sw_rng {x : SB} {f : Int → Int} {D : Int → Prop} (hx : Rng x) (hd : In D x) (hf : ∀ n, D n → R64 (f n)) : Rng (x.sw f) := by
  obtain ⟨h1, h2, h3, h4, h5⟩ := hx
  obtain ⟨d1, d2, d3, d4⟩ := hd
  refine ⟨fun n hn => ?_, ?_, fun v hv => ?_, fun v hv => ?_, fun v hv => ?_⟩
  · obtain ⟨m, hm, rfl⟩ := List.mem_map.1 hn
    exact hf _ (d1 m hm)
  · show R64 (CT.sw f x.comp).kind
    unfold CT.sw
    split
    · exact h2
    · split <;> exact h2
  · change v ∈ (CT.sw f x.comp).params at hv
    unfold CT.sw at hv
    split at hv
    · rename_i hk
      obtain ⟨u, hu, rfl⟩ := List.mem_map.1 hv
      exact V_rng (h3 u hu) (fun a b => hf _ (d2 hk u hu a b))
    · split at hv <;> cases hv
  · change v ∈ (CT.sw f x.comp).results at hv
    unfold CT.sw at hv
    split at hv
    · rename_i hk
      obtain ⟨u, hu, rfl⟩ := List.mem_map.1 hv
      exact V_rng (h4 u hu) (fun a b => hf _ (d3 hk u hu a b))
    · split at hv <;> cases hv
  · change v ∈ (CT.sw f x.comp).fields at hv
    unfold CT.sw at hv
    split at hv
    · cases hv
    · split at hv
      · rename_i hk
        obtain ⟨u, hu, rfl⟩ := List.mem_map.1 hv
        exact V_rng (v := u.ty) (h5 u hu) (fun a b => hf _ (d4 hk u hu a b))
      · cases hv
theorem told_rng {ids : List Int} {N : Nat} (hN : N ≤ 1048576) (hi : ∀ a ∈ ids, 0 ≤ a ∧ a ≤ 4194304) (n : Int) (h : Below' N n) : R64 (toldN ids n) := by
  obtain ⟨h0, h1⟩ := h
  unfold toldN R64
  split
  · rename_i hl
    have hlt : n.toNat < ids.length := by omega
    have e : ids.getD n.toNat 0 = ids[n.toNat] := by rw [List.getD_eq_getElem?_getD, List.getElem?_eq_getElem hlt]; rfl
    rw [e]
    have := hi _ (List.getElem_mem hlt)
    omega
  · omega
theorem sw_len (f : Int → Int) (x : SB) : (x.sw f).supers.length = x.supers.length ∧ (x.sw f).comp.params.length ≤ x.comp.params.length ∧ (x.sw f).comp.results.length ≤ x.comp.results.length ∧ (x.sw f).comp.fields.length ≤ x.comp.fields.length := by
  refine ⟨by simp [SB.sw], ?_, ?_, ?_⟩
  · show (CT.sw f x.comp).params.length ≤ _
    unfold CT.sw
    split
    · simp
    · split <;> simp
  · show (CT.sw f x.comp).results.length ≤ _
    unfold CT.sw
    split
    · simp
    · split <;> simp
  · show (CT.sw f x.comp).fields.length ≤ _
    unfold CT.sw
    split
    · simp
    · split <;> simp
theorem sw_sml {x : SB} (h : Sml x) (f : Int → Int) : Sml (x.sw f) := by
  obtain ⟨a, b, c, d⟩ := sw_len f x
  obtain ⟨h1, h2, h3, h4⟩ := h
  exact ⟨by omega, by omega, by omega, by omega⟩
theorem sw_mu (x : SB) (f : Int → Int) : muS (x.sw f) ≤ muS x := by
  obtain ⟨a, b, c, d⟩ := sw_len f x
  unfold muS
  omega
theorem sum_le {α β : Type} {μ : β → Nat} {ν : α → Nat} {g : α → β} (h : ∀ a, μ (g a) ≤ ν a) : ∀ l : List α, ((l.map g).map μ).sum ≤ (l.map ν).sum
  | [] => Nat.le_refl _
  | a :: l => by
    simp only [List.map_cons, List.sum_cons]
    have := h a
    have := sum_le h l
    omega
/- How long a text is. -/
theorem numB_len {n : Int} (h : R64 n) : (numB n).length ≤ 22 := by
  have := Lib.itoa_length_le n h.1 h.2
  unfold numB
  rw [List.length_append]
  simp only [List.length_cons, List.length_nil]
  omega
theorem flagB_len (b : Bool) : (flagB b).length ≤ 22 := numB_len (by cases b <;> (unfold R64; simp))
theorem flat_le {α : Type} {f : α → List UInt8} {c : Nat} : ∀ (l : List α), (∀ a ∈ l, (f a).length ≤ c) → (l.flatMap f).length ≤ c * l.length
  | [], _ => by simp
  | a :: l, h => by
    rw [List.flatMap_cons, List.length_append, List.length_cons]
    have h1 := h a (by simp)
    have h2 := flat_le l (fun b hb => h b (by simp [hb]))
    rw [Nat.mul_succ]
    omega
theorem vb_len {v : VT} (h : R64 v.num ∧ R64 v.heap) : v.b.length ≤ 66 := by
  have h1 := numB_len h.1
  have h2 := flagB_len v.null
  have h3 := numB_len h.2
  unfold VT.b
  simp only [List.length_append]
  omega
theorem fb_len {v : FT} (h : R64 v.ty.num ∧ R64 v.ty.heap) : v.b.length ≤ 88 := by
  have h1 := flagB_len v.mut_
  have h2 := vb_len (v := v.ty) h
  unfold FT.b
  simp only [List.length_append]
  omega
theorem lenR {n : Nat} (h : n ≤ 1048576) : R64 (n : Int) := by unfold R64; omega
theorem sb_len {x : SB} (h : Rng x) (hm : Sml x) : x.b.length ≤ 132 * muS x := by
  obtain ⟨m1, m2, m3, m4⟩ := hm
  have h1 := flagB_len x.final_
  have h2 := flat_le (f := numB) x.supers (fun a ha => numB_len (h.s a ha))
  have h3 := numB_len h.k
  have h4 := flat_le (f := VT.b) x.comp.params (fun a ha => vb_len (h.p a ha))
  have h5 := flat_le (f := VT.b) x.comp.results (fun a ha => vb_len (h.r a ha))
  have h6 := flat_le (f := FT.b) x.comp.fields (fun a ha => fb_len (h.f a ha))
  have k1 := numB_len (lenR m1)
  have k2 := numB_len (lenR m2)
  have k3 := numB_len (lenR m3)
  have k4 := numB_len (lenR m4)
  unfold SB.b listB muS
  simp only [List.length_append]
  omega
theorem txt_le : ∀ (l : List SB), (∀ x ∈ l, Rng x ∧ Sml x) → (txt l).length ≤ 132 * (l.map muS).sum
  | [], _ => by simp [txt]
  | x :: l, h => by
    have h1 := sb_len (h x (by simp)).1 (h x (by simp)).2
    have h2 := txt_le l (fun y hy => h y (by simp [hy]))
    unfold txt at h2 ⊢
    rw [List.flatMap_cons, List.length_append, List.map_cons, List.sum_cons, Nat.mul_add]
    omega
/- A rolled up group that can be unrolled. -/
def Ok (m : List SB) : Prop := ∀ x ∈ m, Sml x ∧ ∀ n, Num x.cp n → -100 < n ∨ -100 - n < (m.length : Int)
theorem vis_sw {f : Int → Int} {e : Int} {l : List VT} {n : Int} (hl : ∀ v ∈ l, ∀ k ∈ visV v, 0 ≤ k ∧ k < e) (h : NumV ((l.map (VT.sw f)).map VT.cnt) n) : ∃ k, 0 ≤ k ∧ k < e ∧ n = f k := by
  obtain ⟨v, hv, h5, ha, rfl⟩ := h
  rw [List.map_map] at hv
  obtain ⟨u, hu, rfl⟩ := List.mem_map.1 hv
  have hvis := hl u hu
  simp only [Function.comp] at h5 ha ⊢
  unfold visV at hvis
  by_cases u5 : u.num = 5
  · by_cases u0 : 0 ≤ u.heap
    · have e1 : (u.sw f).cnt = ⟨5, u.null, f u.heap⟩ := by unfold VT.sw VT.cnt; rw [if_pos u5, if_pos u0]; simp
      rw [e1]
      have := hvis u.heap (by rw [if_pos ⟨u5, abs_no u0⟩]; simp)
      exact ⟨u.heap, this.1, this.2, rfl⟩
    · have e1 : (u.sw f).cnt = u := by unfold VT.sw; rw [if_pos u5, if_neg u0]; unfold VT.cnt; rw [if_pos u5]
      rw [e1] at ha
      have := hvis u.heap (by rw [if_pos ⟨u5, ha⟩]; simp)
      omega
  · exfalso
    have e1 : (u.sw f).cnt.num = u.num := by unfold VT.sw VT.cnt; rw [if_neg u5]; split <;> rfl
    rw [e1] at h5
    exact u5 h5
theorem num_sw {x : SB} {f : Int → Int} {e n : Int} (hx : fineP x e = true) (h : Num (x.sw f).cp n) : ∃ k, 0 ≤ k ∧ k < e ∧ n = f k := by
  have hn := fineP_num hx
  unfold seenL at hn
  have key : ∀ l : List VT, (∀ k ∈ l.flatMap visV, 0 ≤ k ∧ k < e) → ∀ v ∈ l, ∀ k ∈ visV v, 0 ≤ k ∧ k < e := fun l hl v hv k hk => hl k (List.mem_flatMap.2 ⟨v, hv, hk⟩)
  have kp := key x.comp.ofK.params (fun k hk => hn k (by simp [hk]))
  have kr := key x.comp.ofK.results (fun k hk => hn k (by simp [hk]))
  have kf := key (x.comp.ofK.fields.map FT.ty) (fun k hk => hn k (by rw [List.mem_append]; exact Or.inr hk))
  rcases h with h | h | h | h
  · change n ∈ x.supers.map f at h
    obtain ⟨k, hk, rfl⟩ := List.mem_map.1 h
    have := hn k (by simp [hk])
    exact ⟨k, this.1, this.2, rfl⟩
  · by_cases h1 : x.comp.kind = 1
    · have e1 : (x.sw f).cp.comp.params = (x.comp.params.map (VT.sw f)).map VT.cnt := by
        show ((CT.sw f x.comp).cp).params = _
        unfold CT.sw CT.cp CT.ofK; rw [if_pos h1]; simp only; rw [if_pos h1]
      rw [e1] at h
      have e2 : x.comp.ofK.params = x.comp.params := by unfold CT.ofK; rw [if_pos h1]
      rw [e2] at kp
      exact vis_sw kp h
    · have e1 : (x.sw f).cp.comp.params = [] := by
        show ((CT.sw f x.comp).cp).params = _
        unfold CT.sw CT.cp CT.ofK; rw [if_neg h1]; split <;> (first | rfl | (simp only; done) | (simp only; rfl) | (simp only; rw [if_neg h1]; split <;> rfl) | simp [h1])
      rw [e1] at h
      obtain ⟨v, hv, _⟩ := h
      cases hv
  · by_cases h1 : x.comp.kind = 1
    · have e1 : (x.sw f).cp.comp.results = (x.comp.results.map (VT.sw f)).map VT.cnt := by
        show ((CT.sw f x.comp).cp).results = _
        unfold CT.sw CT.cp CT.ofK; rw [if_pos h1]; simp only; rw [if_pos h1]
      rw [e1] at h
      have e2 : x.comp.ofK.results = x.comp.results := by unfold CT.ofK; rw [if_pos h1]
      rw [e2] at kr
      exact vis_sw kr h
    · have e1 : (x.sw f).cp.comp.results = [] := by
        show ((CT.sw f x.comp).cp).results = _
        unfold CT.sw CT.cp CT.ofK; rw [if_neg h1]; split <;> (first | rfl | (simp only; done) | (simp only; rfl) | (simp only; rw [if_neg h1]; split <;> rfl) | simp [h1])
      rw [e1] at h
      obtain ⟨v, hv, _⟩ := h
      cases hv
  · by_cases h2 : x.comp.kind = 2 ∨ x.comp.kind = 3
    · have h1 : ¬ x.comp.kind = 1 := by omega
      have e1 : (x.sw f).cp.comp.fields.map FT.ty = (((x.comp.fields.map FT.ty).map (VT.sw f)).map VT.cnt) := by
        show ((CT.sw f x.comp).cp).fields.map FT.ty = _
        unfold CT.sw CT.cp CT.ofK; rw [if_neg h1, if_pos h2]; simp only; rw [if_neg h1, if_pos h2]
        simp only [List.map_map]
        rfl
      rw [e1] at h
      have e2 : x.comp.ofK.fields = x.comp.fields := by unfold CT.ofK; rw [if_neg h1, if_pos h2]
      rw [e2] at kf
      exact vis_sw kf h
    · have e1 : (x.sw f).cp.comp.fields = [] := by
        show ((CT.sw f x.comp).cp).fields = _
        unfold CT.sw CT.cp CT.ofK
        split
        · rename_i h1; simp [h1]
        · rename_i h1; simp [h1, h2]
      rw [e1] at h
      obtain ⟨v, hv, _⟩ := h
      cases hv
theorem ok_sw {ts : List SB} {ids : List Int} (hi : ∀ a ∈ ids, 0 ≤ a ∧ a ≤ 4194304) (hs : ∀ x ∈ ts, Sml x) (hf : ∀ x ∈ ts, fineP x ((ids.length + ts.length : Nat) : Int) = true) : Ok (ts.map (SB.sw (toldN ids))) := by
  intro x hx
  obtain ⟨y, hy, rfl⟩ := List.mem_map.1 hx
  refine ⟨sw_sml (hs y hy) _, fun n hn => ?_⟩
  obtain ⟨k, h0, h1, rfl⟩ := num_sw (hf y hy) hn
  rw [List.length_map]
  unfold toldN
  split
  · rename_i hl
    have hlt : k.toNat < ids.length := by omega
    have e : ids.getD k.toNat 0 = ids[k.toNat] := by rw [List.getD_eq_getElem?_getD, List.getElem?_eq_getElem hlt]; rfl
    rw [e]
    have := hi _ (List.getElem_mem hlt)
    omega
  · omega
/- What a list of groups must be for all of this. -/
structure Fit (L : List RT) : Prop where
  sml : SmlL L
  wt : ∀ r ∈ L, (r.types.map muS).sum ≤ 1048576
  rng : ∀ r ∈ L, ∀ x ∈ r.types, Rng x
theorem fit_of {L : List RT} (h : (L.map muR).sum ≤ 1048576) (hr : ∀ r ∈ L, ∀ x ∈ r.types, Rng x) : Fit L :=
  ⟨sml_of h, fun r hm => by have := sum_mem (μ := muR) hm; unfold muR at this h; omega, hr⟩
theorem TurnP.trans' {S S' : Nat → Prop} {a b c : World} (h : TurnP S a b) (k : TurnP S' b c) (hs : ∀ x, S' x → S x ∨ a.heap.size ≤ x) : TurnP S a c :=
  ⟨k.os.trans h.os, k.tape.trans h.tape, k.output.trans h.output, Nat.le_trans h.size k.size, fun x hx hn => (k.block x (Nat.lt_of_lt_of_le hx h.size) (fun h' => (hs x h').elim hn (fun h2 => by omega))).trans (h.block x hx hn)⟩
end Go.Proofs.YtnmbniojejckpaaGreatDoor
