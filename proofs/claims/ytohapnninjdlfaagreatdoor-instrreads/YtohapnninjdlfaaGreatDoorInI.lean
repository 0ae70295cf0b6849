/-
  The reader of instructions: the table of readers, an instruction; no statement is proved here.
-/
import Derived.Test.YtohapnninjdlfaaGreatDoorE8l
namespace Go.Proofs.YtohapnninjdlfaaGreatDoor
open Go.RowKit
set_option linter.unusedVariables false
set_option linter.unusedSimpArgs false
set_option linter.constructorNameAsVariable false

def Stop (p : Prop) : Prop := p
theorem stop_load {P : Program} {ops : Array Oper} {rest : List Oper} {o : Oper} {a : Act} {w : World} {Q : Exit → Act → World → Prop} (ty : TypeId) {x : Operand} (ho : o.op = .load ty x) (h : Stop (wpList P ops Q (o :: rest) a w)) : wpList P ops Q (o :: rest) a w := h
theorem stop_store {P : Program} {ops : Array Oper} {rest : List Oper} {o : Oper} {a : Act} {w : World} {Q : Exit → Act → World → Prop} (ty : TypeId) {x y : Operand} (ho : o.op = .store ty x y) (h : Stop (wpList P ops Q (o :: rest) a w)) : wpList P ops Q (o :: rest) a w := h
theorem Turn.row {S : List Nat} {w w' : World} (h : Turn S w w') {g : Nat} (hg : w.heap.size ≤ g) (cs : Array Value) : Turn S w (w'.setRow g cs) :=
  ⟨h.os, h.tape, h.output, by simpa using h.size, fun k hk hn => (setRow_other w' g k cs (by omega)).trans (h.block k hk hn)⟩
set_option maxRecDepth 100000 in
set_option maxHeartbeats 2000000 in
theorem fieldReaders_any (w : World) : Calls Tryz.prog 20 #[] w fun en w' => en = .returned (.agg FRS) ∧ Grew w w' := by
  go_enter Tryz.func20, Tryz.ntmps20
  go_wp2_with (first
    | with_reducible refine stop_store 61 rfl ?_
    | fail)
  unfold Stop
  refine wpList_store_last rfl 61 _ _ rfl FRS rfl rfl _ (by kernel_rfl) rfl (by simp [FRS, Value.oneCell']) ?_
  go_wp2_with fail
  refine bodyPost_ret (v := .agg FRS) ?_ rfl ?_
  · exact results_cell_row Tryz.results20 _ _ w.heap.size 61 _ (0, 0) _ rfl (heap_alloc_last _ _) Tryz.underlying61 rfl (by kernel_rfl)
  exact ⟨rfl, (Grew.refl w).alloc _⟩
/- The table of the forms' fields. -/
def TabF (w : World) : Prop := ∀ (i : Nat) (r : List Int), ffs[i]? = some r → ∃ ad cap, w.cell? ⟨0, i, none⟩ = some (.slice (some ad) r.length cap) ∧ r.length ≤ cap ∧ cap ≤ maxLen ∧ (r = [] ∨ ∃ bb off, ad = ⟨bb, off, none⟩ ∧ ∀ (j : Nat) (x : Int), r[j]? = some x → w.cell? ⟨bb, off + j, none⟩ = some (.int .i64 x))
theorem cell_keep {w w' : World} (g : Grew w w') {a : Addr} {u : Value} (h : w.cell? a = some u) : w'.cell? a = some u := by
  have hb : a.block < w.heap.size := by
    rcases Nat.lt_or_ge a.block w.heap.size with h1 | h1
    · exact h1
    · exfalso
      unfold World.cell? at h
      rw [Array.getElem?_eq_none h1] at h
      simp at h
  unfold World.cell? at h ⊢
  rw [g.1.block a.block hb]
  exact h
theorem TabF.grew {w w' : World} (h : TabF w) (g : Grew w w') : TabF w' := by
  intro i r hi
  obtain ⟨ad, cap, h1, h2, h3, h4⟩ := h i r hi
  refine ⟨ad, cap, cell_keep g h1, h2, h3, ?_⟩
  rcases h4 with h4 | ⟨bb, off, e, h4⟩
  · exact Or.inl h4
  · exact Or.inr ⟨bb, off, e, fun j x hj => cell_keep g (h4 j x hj)⟩
theorem formP_bd (op : Int) : 0 ≤ formP op ∧ formP op < 17 := by
  have hl : ∀ x ∈ formL, 0 ≤ x.2 ∧ x.2 < 17 := by decide +kernel
  have hr : 0 ≤ runP op ∧ runP op < 17 := by
    unfold runP
    repeat' split
    all_goals omega
  unfold formP
  have key : ∀ L : List (Int × Int), (∀ x ∈ L, 0 ≤ x.2 ∧ x.2 < 17) → 0 ≤ lookF op L ∧ lookF op L < 17 := by
    intro L
    induction L with
    | nil => intro _; exact hr
    | cons x L ih =>
      intro hL
      rw [lookF]
      split
      · exact hL x (by simp)
      · exact ih (fun y hy => hL y (by simp [hy]))
  exact key formL hl
theorem ffs_bd {i : Nat} {r : List Int} (h : ffs[i]? = some r) : r.length ≤ 2 ∧ (∀ (j : Nat) (x : Int), r[j]? = some x → 0 ≤ x ∧ x < 15) ∧ ∀ (j : Nat), r[j]? = some 6 → j = 0 := by
  have hr : r ∈ ffs := List.mem_of_getElem? h
  have a1 : ∀ r ∈ ffs, r.length ≤ 2 := by decide +kernel
  have a2 : ∀ r ∈ ffs, ∀ x ∈ r, 0 ≤ x ∧ x < 15 := by decide +kernel
  have a3 : ∀ r ∈ ffs, r[1]? ≠ some 6 := by decide +kernel
  refine ⟨a1 r hr, fun j x hx => a2 r hr x (List.mem_of_getElem? hx), fun j hj => ?_⟩
  have hlt : j < r.length := by
    rcases Nat.lt_or_ge j r.length with h1 | h1
    · exact h1
    · rw [List.getElem?_eq_none h1] at hj; cases hj
  have := a1 r hr
  have hj2 : j = 0 ∨ j = 1 := by omega
  rcases hj2 with rfl | rfl
  · rfl
  · exact absurd hj (a3 r hr)
/- An instruction that was read, or the fault. -/
def InsA (B : Nat) (R : RS IN) (es : Array Value) (w : World) : Except (Nat × Nat) Nat → Prop
  | .ok q => ∃ i lab ty ca, R = .ok (i, q) ∧ es = insA i lab ty ca ∧ RowU B w lab i.labels ∧ RowV B w ty i.types ∧ RowC B w ca i.catches
  | .error e => R = .error e
theorem InsA.turn {B : Nat} {R : RS IN} {es : Array Value} {w w' : World} {st : Except (Nat × Nat) Nat} {S : List Nat} (h : InsA B R es w st) (t : Turn S w w') (h1 : ∀ x ∈ S, NoT w x 23) (h2 : ∀ x ∈ S, NoT w x 28) (h3 : ∀ x ∈ S, NoT w x 86) : InsA B R es w' st := by
  cases st with
  | ok q =>
    obtain ⟨i, lab, ty, ca, e1, e2, r1, r2, r3⟩ := h
    exact ⟨i, lab, ty, ca, e1, e2, row_turn r1 t h1, row_turn r2 t h2, row_turn r3 t h3⟩
  | error e => exact h
theorem SI.rebase {w0 wb : World} {b M : Nat} {v : Value} {l : List Int} {w : World} {st : Except (Nat × Nat) Nat} {es : Array Value} (h : SI w0 wb b M v l w st es) : SI w0 w b M v l w st es :=
  ⟨h.base, h.tn, h.di, h.io, h.sz, h.hM, h.one, Turn.refl _ _⟩
theorem SI.back {w0 wb : World} {b M : Nat} {v : Value} {l : List Int} {w w' : World} {st st' : Except (Nat × Nat) Nat} {es es' : Array Value} (h : SI w0 wb b M v l w st es) (k : SI w0 w b M v l w' st' es') : SI w0 wb b M v l w' st' es' :=
  ⟨k.base, k.tn, k.di, k.io, k.sz, k.hM, k.one, h.tm.trans k.tm⟩
theorem insF_is {l : List Int} {p : Nat} {op : Int} {st : Except (Nat × Nat) Nat} (h : TieI (opR l p) op st) : insF l p = runI (restF op l) st := by
  unfold insF
  cases st with
  | ok q => have h' : opR l p = .ok (op, q) := h; rw [h']; rfl
  | error e => have h' : opR l p = .error e := h; rw [h']; rfl
theorem Turn.rowSelf (w : World) (g : Nat) (cs : Array Value) : Turn [g] w (w.setRow g cs) :=
  ⟨rfl, rfl, rfl, by simp, fun k hk hn => setRow_other w g k cs (by simp at hn; omega)⟩
theorem got_start {B : Nat} {l : List Int} {op : Int} {st : Except (Nat × Nat) Nat} {w : World} {r : List Int} (hr : ffs.getD (formP op).toNat [] = r) : Got B l (runI (restF op l) st) op r true st (insA (IN0 op) NILS NILS NILS) w := by
  refine ⟨rfl, fun _ => rfl, ?_⟩
  cases st with
  | ok q =>
    refine ⟨IN0 op, NILS, NILS, NILS, rfl, rfl, RowU.nil _ _, RowV.nil _ _, RowC.nil _ _, ?_⟩
    show restF op l q = _
    unfold restF
    rw [hr]
  | error e => rfl
theorem got_end {B : Nat} {l : List Int} {R : RS IN} {op : Int} {first : Bool} {st : Except (Nat × Nat) Nat} {es : Array Value} {w : World} (h : Got B l R op [] first st es w) : InsA B R es w st := by
  obtain ⟨_, _, g⟩ := h
  cases st with
  | ok q => obtain ⟨i, lab, ty, ca, e1, e2, r1, r2, r3, e3⟩ := g; exact ⟨i, lab, ty, ca, e3, e1, r1, r2, r3⟩
  | error e => exact g
set_option maxRecDepth 100000 in
set_option maxHeartbeats 4000000 in
theorem instruction_any {w00 w : World} {b : Nat} {v : Value} {l : List Int} {p : Nat} (h : DI w b v l (.ok p)) (hF : TabF w00) (g0 : Grew w00 w) (hb0 : w00.heap.size ≤ b) :
    Calls Tryz.prog 9 #[.pointer (some ⟨b, 0, none⟩)] w fun en w' => ∃ es st', en = .returned (.agg es) ∧ es.size = 17 ∧ (∀ (j : Nat) (u : Value), es[j]? = some u → u.oneCell' = true) ∧ FinI b v l w w' st' ∧ InsA w.heap.size (insF l p) es w' st' := by
  have H : Hid (DI w b v l (.ok p)) := h
  have hb : b < w.heap.size := h.lt
  have U0 : Hid (DI (w.alloc (.cells #[.int .i64 0, .int .u32 0, .int .u32 0, .int .u64 0, .int .u32 0, .int .u32 0, .int .u64 0, .int .i64 0, .int .i64 0, .bool false, .int .i64 0, .slice none 0 0, .slice none 0 0, .bool false, .slice none 0 0, .slice none 0 0, .slice none 0 0] 36)) b v l (.ok p)) := h.grew ((Grew.refl w).alloc _)
  have T0 : Hid (Turn [b] w (w.alloc (.cells #[.int .i64 0, .int .u32 0, .int .u32 0, .int .u64 0, .int .u32 0, .int .u32 0, .int .u64 0, .int .i64 0, .int .i64 0, .bool false, .int .i64 0, .slice none 0 0, .slice none 0 0, .bool false, .slice none 0 0, .slice none 0 0, .slice none 0 0] 36))) := (Turn.refl [b] w).alloc _
  have N0 : Hid ((w.alloc (.cells #[.int .i64 0, .int .u32 0, .int .u32 0, .int .u64 0, .int .u32 0, .int .u32 0, .int .u64 0, .int .i64 0, .int .i64 0, .bool false, .int .i64 0, .slice none 0 0, .slice none 0 0, .bool false, .slice none 0 0, .slice none 0 0, .slice none 0 0] 36)).heap[w.heap.size]? = some (.cells #[.int .i64 0, .int .u32 0, .int .u32 0, .int .u64 0, .int .u32 0, .int .u32 0, .int .u64 0, .int .i64 0, .int .i64 0, .bool false, .int .i64 0, .slice none 0 0, .slice none 0 0, .bool false, .slice none 0 0, .slice none 0 0, .slice none 0 0] 36 (0, 0))) := heap_alloc_last _ _
  have G0 : Hid (Grew w00 w) := g0
  have HF : Hid (TabF w00) := hF
  clear h hF g0
  go_enter Tryz.func9, Tryz.ntmps9
  go_wp2_with fail
  refine (opcode_any U0.out).mono ?_
  intro en w1 ha
  obtain ⟨op, st1, rfl, f1, t1⟩ := ha.tie
  have hN1 := f1.1.other N0.out (by simp; omega)
  have hs1 : w.heap.size < w1.heap.size := lt_of_obj hN1
  have D1 : Hid (DI w1 b v l st1) := f1.2
  have Q1 : Hid (Turn [b] w w1) := T0.out.trans f1.1
  have N1 : Hid (w1.heap[w.heap.size]? = some (.cells #[.int .i64 0, .int .u32 0, .int .u32 0, .int .u64 0, .int .u32 0, .int .u32 0, .int .u64 0, .int .i64 0, .int .i64 0, .bool false, .int .i64 0, .slice none 0 0, .slice none 0 0, .bool false, .slice none 0 0, .slice none 0 0, .slice none 0 0] 36 (0, 0))) := hN1
  have R1 : Hid (TieI (opR l p) op st1) := t1
  clear ha f1 t1 hN1 U0 T0 N0
  go_wp2_with (first
    | with_reducible refine stop_store 36 rfl ?_
    | fail)
  unfold Stop
  refine wpList_store_last rfl 36 _ _ rfl #[.int .i64 op, .int .u32 0, .int .u32 0, .int .u64 0, .int .u32 0, .int .u32 0, .int .u64 0, .int .i64 0, .int .i64 0, .bool false, .int .i64 0, .slice none 0 0, .slice none 0 0, .bool false, .slice none 0 0, .slice none 0 0, .slice none 0 0] rfl rfl _ (by kernel_rfl) rfl (by simp [Value.oneCell']) ?_
  have S1 : Hid (SI w w b w1.heap.size v l (w1.alloc (.cells #[.int .i64 op, .int .u32 0, .int .u32 0, .int .u64 0, .int .u32 0, .int .u32 0, .int .u64 0, .int .i64 0, .int .i64 0, .bool false, .int .i64 0, .slice none 0 0, .slice none 0 0, .bool false, .slice none 0 0, .slice none 0 0, .slice none 0 0] 36)) st1 (insA (IN0 op) NILS NILS NILS)) := by
    refine ⟨⟨_, H.out⟩, Q1.out.alloc _, D1.out.grew ((Grew.refl _).alloc _), heap_alloc_last _ _, rfl, by omega, ?_, (Q1.out.alloc _).wide⟩
    intro j u hu
    have hj : j < 17 := by
      rcases Nat.lt_or_ge j 17 with h1 | h1
      · exact h1
      · rw [Array.getElem?_eq_none (by simpa [insA] using h1)] at hu; cases hu
    have : j = 0 ∨ j = 1 ∨ j = 2 ∨ j = 3 ∨ j = 4 ∨ j = 5 ∨ j = 6 ∨ j = 7 ∨ j = 8 ∨ j = 9 ∨ j = 10 ∨ j = 11 ∨ j = 12 ∨ j = 13 ∨ j = 14 ∨ j = 15 ∨ j = 16 := by omega
    rcases this with rfl | rfl | rfl | rfl | rfl | rfl | rfl | rfl | rfl | rfl | rfl | rfl | rfl | rfl | rfl | rfl | rfl <;> (simp [insA] at hu; subst hu; rfl)
  have N2 : Hid ((w1.alloc (.cells #[.int .i64 op, .int .u32 0, .int .u32 0, .int .u64 0, .int .u32 0, .int .u32 0, .int .u64 0, .int .i64 0, .int .i64 0, .bool false, .int .i64 0, .slice none 0 0, .slice none 0 0, .bool false, .slice none 0 0, .slice none 0 0, .slice none 0 0] 36)).heap[w.heap.size]? = some (.cells #[.int .i64 0, .int .u32 0, .int .u32 0, .int .u64 0, .int .u32 0, .int .u32 0, .int .u64 0, .int .i64 0, .int .i64 0, .bool false, .int .i64 0, .slice none 0 0, .slice none 0 0, .bool false, .slice none 0 0, .slice none 0 0, .slice none 0 0] 36 (0, 0))) := heap_alloc N1.out _
  have hs2 : w1.heap.size < (w1.alloc (.cells #[.int .i64 op, .int .u32 0, .int .u32 0, .int .u64 0, .int .u32 0, .int .u32 0, .int .u64 0, .int .i64 0, .int .i64 0, .bool false, .int .i64 0, .slice none 0 0, .slice none 0 0, .bool false, .slice none 0 0, .slice none 0 0, .slice none 0 0] 36)).heap.size := by rw [alloc_size]; omega
  clear D1 Q1 N1
  generalize hM : w1.heap.size = M at *
  generalize hW : w1.alloc (.cells #[.int .i64 op, .int .u32 0, .int .u32 0, .int .u64 0, .int .u32 0, .int .u32 0, .int .u64 0, .int .i64 0, .int .i64 0, .bool false, .int .i64 0, .slice none 0 0, .slice none 0 0, .bool false, .slice none 0 0, .slice none 0 0, .slice none 0 0] 36) = W1 at *
  clear hW hM w1
  go_wp2_with fail
  refine (fieldReaders_any W1).mono ?_
  rintro en w2 ⟨rfl, g2⟩
  have S2 : Hid (SI w w b M v l w2 st1 (insA (IN0 op) NILS NILS NILS)) := S1.out.grew g2
  have N3 : Hid (w2.heap[w.heap.size]? = some (.cells #[.int .i64 0, .int .u32 0, .int .u32 0, .int .u64 0, .int .u32 0, .int .u32 0, .int .u64 0, .int .i64 0, .int .i64 0, .bool false, .int .i64 0, .slice none 0 0, .slice none 0 0, .bool false, .slice none 0 0, .slice none 0 0, .slice none 0 0] 36 (0, 0))) := (g2.turn []).other N2.out (by simp)
  have hs3 : M < w2.heap.size := by have := g2.2; omega
  clear g2 S1 N2 hs2 W1
  go_wp2_with (first
    | with_reducible refine stop_store 61 rfl ?_
    | fail)
  unfold Stop
  refine wpList_store_last rfl 61 _ _ rfl FRS rfl rfl _ (by kernel_rfl) rfl (by simp [FRS, Value.oneCell']) ?_
  have S3 : Hid (SI w w b M v l (w2.alloc (.cells FRS 61)) st1 (insA (IN0 op) NILS NILS NILS)) := S2.out.grew ((Grew.refl _).alloc _)
  have N4 : Hid ((w2.alloc (.cells FRS 61)).heap[w.heap.size]? = some (.cells #[.int .i64 0, .int .u32 0, .int .u32 0, .int .u64 0, .int .u32 0, .int .u32 0, .int .u64 0, .int .i64 0, .int .i64 0, .bool false, .int .i64 0, .slice none 0 0, .slice none 0 0, .bool false, .slice none 0 0, .slice none 0 0, .slice none 0 0] 36 (0, 0))) := heap_alloc N3.out _
  have F4 : Hid ((w2.alloc (.cells FRS 61)).heap[w2.heap.size]? = some (.cells FRS 61 (0, 0))) := heap_alloc_last _ _
  have hs4 : w.heap.size ≤ (w2.alloc (.cells FRS 61)).heap.size := by rw [alloc_size]; omega
  have hRB1 : ¬ w2.heap.size = M := by omega
  have hRB2 : ¬ w2.heap.size = w.heap.size := by omega
  have hRB3 : w.heap.size ≤ w2.heap.size := by omega
  clear S2 N3
  generalize hM : w2.heap.size = RB at *
  generalize hW : w2.alloc (.cells FRS 61) = W2 at *
  clear hW hM w2
  have c0 := (cell_of S3.out.io 0)
  simp [insA, IN0] at c0
  obtain ⟨hf0, hf1⟩ := formP_bd op
  obtain ⟨f, hff⟩ : ∃ f : Nat, formP op = (f : Int) := ⟨(formP op).toNat, by omega⟩
  have CF := formOf_any op W2
  rw [hff] at CF hf0 hf1
  have hf17 : f < 17 := by omega
  obtain ⟨r, hr⟩ : ∃ r, ffs[f]? = some r := by
    have : f < ffs.length := by simpa [ffs] using hf17
    exact ⟨ffs[f], by simp⟩
  have RF : Hid (ffs.getD (formP op).toNat [] = r) := by
    show ffs.getD (formP op).toNat [] = r
    rw [hff, Int.toNat_natCast, List.getD, hr]
    rfl
  obtain ⟨hr2, hr15, hr6⟩ := ffs_bd hr
  have HR15 : Hid (∀ (j : Nat) (x : Int), r[j]? = some x → 0 ≤ x ∧ x < 15) := hr15
  have HR6 : Hid (∀ (j : Nat), r[j]? = some 6 → j = 0) := hr6
  obtain ⟨ad, cap, k1', k2, k3, hor⟩ := HF.out f r hr
  have GW : Hid (∀ wr, Turn [b] w wr → Grew w00 wr) := fun wr t => t.grew G0.out (by simp; exact hb0)
  have k1 := cell_keep (GW.out _ S3.out.tn) k1'
  rcases hor with rfl | ⟨bb, off, rfl, k4'⟩
  · simp only [List.length_nil] at k1
    clear hr hff hr15 hr6 hf0 hf1 k1'
    unfold maxLen at k3
    have dF : decide ((f : Int) < 17) = true := by simp; omega
    have dF2 : decide (f < 17) = true := by simp; omega
    go_wp2_with fail
    refine CF.mono ?_
    rintro en w3 ⟨rfl, h3⟩
    obtain rfl := h3.symm
    clear CF c0
    go_wp2_with fail
    have hnn : ¬ w.heap.size = b := by omega
    have hnM : ¬ w.heap.size = M := by omega
    have hRb : ¬ RB = b := by omega
    obtain ⟨R, hR⟩ : ∃ R, runI (restF op l) st1 = R := ⟨_, rfl⟩
    have ER : Hid (insF l p = R) := (insF_is R1.out).trans hR
    have GS : Hid (Got w.heap.size l R op [] true st1 (insA (IN0 op) NILS NILS NILS) W2) := by have := got_start (B := w.heap.size) (l := l) (st := st1) (w := W2) RF.out; rw [hR] at this; exact this
    clear hR R1 RF
    refine wp_loop_rounds 1 ?_
    rw [rounds_succ]
    have SR := S3
    have NR := N4
    have G6 : Hid (InsA w.heap.size R (insA (IN0 op) NILS NILS NILS) W2 st1) := got_end GS.out
    go_wp2_with (first
      | with_reducible refine stop_load 36 rfl ?_
      | fail)
    unfold Stop
    refine wpList_load_row rfl 36 _ rfl M rfl 36 (insA (IN0 op) NILS NILS NILS) (0, 0) _ SR.out.io Tryz.underlying36 rfl (by rw [SR.out.sz]; kernel_rfl) ?_
    go_wp2_with (first
      | with_reducible refine stop_store 36 rfl ?_
      | fail)
    unfold Stop
    refine wpList_store_row rfl 36 _ _ rfl w.heap.size (insA (IN0 op) NILS NILS NILS) rfl rfl 36 _ NR.out (by rw [SR.out.sz]; kernel_rfl) (by rw [SR.out.sz]; rfl) (by rw [Array.all_eq_true]; intro i hi; exact SR.out.one i _ (by simp)) ?_
    go_wp2_with fail
    refine bodyPost_ret (v := .agg (insA (IN0 op) NILS NILS NILS)) ?_ rfl ?_
    · exact results_cell_row Tryz.results9 _ _ w.heap.size 36 _ (0, 0) _ rfl (heap_setRow NR.out) Tryz.underlying36 rfl (by rw [SR.out.sz]; kernel_rfl)
    have tr := SR.out.tn.row (Nat.le_refl _) (insA (IN0 op) NILS NILS NILS)
    refine ⟨insA (IN0 op) NILS NILS NILS, st1, rfl, SR.out.sz, SR.out.one, ⟨tr, H.out.of tr (SR.out.di.st.same (setRow_other _ _ _ _ (by omega)))⟩, ?_⟩
    rw [ER.out]
    exact G6.out.turn (Turn.rowSelf _ _ _) (by intro x hx; simp at hx; subst hx; exact NoT.of NR.out (by decide)) (by intro x hx; simp at hx; subst hx; exact NoT.of NR.out (by decide)) (by intro x hx; simp at hx; subst hx; exact NoT.of NR.out (by decide))
  have K4 : Hid (∀ (j : Nat) (x : Int), r[j]? = some x → w00.cell? ⟨bb, off + j, none⟩ = some (.int .i64 x)) := k4'
  clear k4'
  clear hr hff hr15 hr6 hf0 hf1 k1'
  unfold maxLen at k3
  have dF : decide ((f : Int) < 17) = true := by simp; omega
  have dF2 : decide (f < 17) = true := by simp; omega
  go_wp2_with fail
  refine CF.mono ?_
  rintro en w3 ⟨rfl, h3⟩
  obtain rfl := h3.symm
  clear CF c0
  go_wp2_with fail
  clear k1
  have hnn : ¬ w.heap.size = b := by omega
  have hnM : ¬ w.heap.size = M := by omega
  have hRb : ¬ RB = b := by omega
  obtain ⟨R, hR⟩ : ∃ R, runI (restF op l) st1 = R := ⟨_, rfl⟩
  have ER : Hid (insF l p = R) := (insF_is R1.out).trans hR
  have GS : Hid (Got w.heap.size l R op r true st1 (insA (IN0 op) NILS NILS NILS) W2) := by have := got_start (B := w.heap.size) (l := l) (st := st1) (w := W2) RF.out; rw [hR] at this; exact this
  clear hR R1 RF
  go_loopw [17] (fun n_ wr => ∃ (k : Nat) (stk : Except (Nat × Nat) Nat) (es : Array Value), n_ = .int .i64 k ∧ k ≤ r.length ∧ Hid (SI w w b M v l wr stk es) ∧ Hid (wr.heap[w.heap.size]? = some (.cells #[.int .i64 0, .int .u32 0, .int .u32 0, .int .u64 0, .int .u32 0, .int .u32 0, .int .u64 0, .int .i64 0, .int .i64 0, .bool false, .int .i64 0, .slice none 0 0, .slice none 0 0, .bool false, .slice none 0 0, .slice none 0 0, .slice none 0 0] 36 (0, 0))) ∧ Hid (wr.heap[RB]? = some (.cells FRS 61 (0, 0))) ∧ Hid (Got w.heap.size l R op (r.drop k) (k == 0) stk es wr)) (fun n_ _ => r.length - (intOf n_).toNat)
  case atStart => exact ⟨0, st1, _, rfl, Nat.zero_le _, S3, N4, F4, GS⟩
  case round =>
    obtain ⟨k, stk, es, rfl, hk, SR, NR, FR, GR⟩ := hrel
    by_cases hkn : k < r.length
    · have d4 : decide ((k : Int) < (r.length : Int)) = true := by simp; omega
      have d5 : decide (k < r.length) = true := by simp; omega
      have hx : r[k]? = some r[k] := by simp
      obtain ⟨x, hxe⟩ : ∃ x, r[k] = x := ⟨_, rfl⟩
      rw [hxe] at hx
      have hdr : r.drop k = x :: r.drop (k + 1) := by rw [List.drop_eq_getElem_cons hkn, hxe]
      obtain ⟨x0, x1⟩ := HR15.out k x hx
      obtain ⟨X, rfl⟩ : ∃ X : Nat, x = X := ⟨x.toNat, by omega⟩
      have hX : X < 15 := by omega
      have m4 := cell_keep (GW.out _ SR.out.tn) (K4.out k _ hx)
      obtain ⟨fx, hfx, hst, hcf'⟩ := fstep hX
      have m5 := (cell_of FR.out X).trans hfx
      have h6 : X = 6 → (k == 0) = true := by
        intro h6
        subst h6
        have := HR6.out k hx
        subst this
        rfl
      have HC := hst w b M v l _ stk es R op (r.drop (k + 1)) (k == 0) SR.out.rebase (by rw [← hdr]; exact GR.out) h6
      have dX : decide ((X : Int) < 15) = true := by simp; omega
      have dX2 : decide (X < 15) = true := by simp; omega
      have hcf := hcf' #[.pointer (some ⟨b, 0, none⟩), .pointer (some ⟨M, 0, none⟩)] wr
      clear hst hfx h6 hdr hxe hx x0 x1 hcf'
      go_wp2_with fail
      refine HC.mono ?_
      rintro en w4 ⟨rfl, st4, es4', s4, g4⟩
      have S4 : Hid (SI w w b M v l w4 st4 es4') := SR.out.back s4
      have N5 : Hid (w4.heap[w.heap.size]? = some (.cells #[.int .i64 0, .int .u32 0, .int .u32 0, .int .u64 0, .int .u32 0, .int .u32 0, .int .u64 0, .int .i64 0, .int .i64 0, .bool false, .int .i64 0, .slice none 0 0, .slice none 0 0, .bool false, .slice none 0 0, .slice none 0 0, .slice none 0 0] 36 (0, 0))) := s4.tm.other NR.out (by simp; exact ⟨hnn, hnM⟩)
      have F5 : Hid (w4.heap[RB]? = some (.cells FRS 61 (0, 0))) := s4.tm.other FR.out (by simp; exact ⟨hRb, hRB1⟩)
      have G5 : Hid (Got w.heap.size l R op (r.drop (k + 1)) (k + 1 == 0) st4 es4' w4) := g4
      clear HC s4 g4 SR NR FR GR m4 m5 hcf
      go_wp2_with fail
      go_roundw
      case rel => exact ⟨k + 1, st4, es4', by go_num, by omega, S4, N5, F5, G5⟩
      case measure => simp [intOf]; omega
    · have d4 : decide ((k : Int) < (r.length : Int)) = false := by simp; omega
      have G6 : Hid (InsA w.heap.size R es wr stk) := by
        have := GR.out
        rw [List.drop_eq_nil_of_le (by omega)] at this
        exact got_end this
      clear GR
      go_wp2_with (first
        | with_reducible refine stop_load 36 rfl ?_
        | fail)
      unfold Stop
      refine wpList_load_row rfl 36 _ rfl M rfl 36 es (0, 0) _ SR.out.io Tryz.underlying36 rfl (by rw [SR.out.sz]; kernel_rfl) ?_
      go_wp2_with (first
        | with_reducible refine stop_store 36 rfl ?_
        | fail)
      unfold Stop
      refine wpList_store_row rfl 36 _ _ rfl w.heap.size es rfl rfl 36 _ NR.out (by rw [SR.out.sz]; kernel_rfl) (by rw [SR.out.sz]; rfl) (by rw [Array.all_eq_true]; intro i hi; exact SR.out.one i _ (by simp)) ?_
      go_wp2_with fail
      refine bodyPost_ret (v := .agg es) ?_ rfl ?_
      · exact results_cell_row Tryz.results9 _ _ w.heap.size 36 _ (0, 0) _ rfl (heap_setRow NR.out) Tryz.underlying36 rfl (by rw [SR.out.sz]; kernel_rfl)
      have tr := SR.out.tn.row (Nat.le_refl _) es
      refine ⟨es, stk, rfl, SR.out.sz, SR.out.one, ⟨tr, H.out.of tr (SR.out.di.st.same (setRow_other _ _ _ _ (by omega)))⟩, ?_⟩
      rw [ER.out]
      exact G6.out.turn (Turn.rowSelf _ _ _) (by intro x hx; simp at hx; subst hx; exact NoT.of NR.out (by decide)) (by intro x hx; simp at hx; subst hx; exact NoT.of NR.out (by decide)) (by intro x hx; simp at hx; subst hx; exact NoT.of NR.out (by decide))
end Go.Proofs.YtohapnninjdlfaaGreatDoor
