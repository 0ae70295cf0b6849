/-
  A region that draws its order and whose last operation waits for all others: the others first, then it; no statement is proved here.
-/
import Derived.Test.YtojkonoffdlbpaaDoorRowM
import Derived.OrdersHeld
namespace Go.Proofs.YtojkonoffdlbpaaDoor
open Go.RowKit
set_option linter.unusedVariables false
set_option linter.unusedSimpArgs false

/- Behind the others: the last one. -/
def cutQ (P : Program) (ops : Array Oper) (n : Nat) (Q : Exit → Act → World → Prop) : Exit → Act → World → Prop
  | .normal, a, w => wpOp P ops Q n (fun a' w' => Q .normal a' w') a w
  | .exit i, a, w => Q (.exit i) a w
  | .goto i, a, w => Q (.goto i) a w
  | .ret, a, w => Q .ret a w
  | .panic c, a, w => Q (.panic c) a w
  | .outgrown, a, w => Q .outgrown a w
theorem wp_cut {P : Program} {ops : Array Oper} {n : Nat} {Q : Exit → Act → World → Prop} {o : Oper} {a : Act} {w : World} {K : Act → World → Prop} (h : o.wp P a w K (cutQ P ops n Q)) : o.wp P a w K Q := by
  unfold Oper.wp at *
  generalize (execOp a.eval o).run P w = r at *
  cases r with
  | ok x w' =>
    cases x <;> simp only [Oper.upon] at h ⊢ <;> exact h
  | halt x w' => cases x <;> simp only [Oper.upon] at h ⊢ <;> exact h
theorem push_getD (l : Array Bool) (i : Nat) (d : Bool) (hi : i < l.size) : (l.push false).getD i d = l.getD i d := by
  simp [Array.getD, hi, Array.getElem_push, Nat.lt_succ_of_lt hi]
theorem set_push (l : Array Bool) (i : Nat) (hi : i < l.size) : (l.push false).setIfInBounds i true = (l.setIfInBounds i true).push false := by
  apply Array.ext
  · simp
  · intro j h1 h2
    simp only [Array.size_setIfInBounds, Array.size_push] at h1 h2
    rw [Array.getElem_setIfInBounds (by simpa using h1), Array.getElem_push, Array.getElem_push]
    simp only [Array.size_setIfInBounds]
    by_cases hj : j < l.size
    · rw [dif_pos hj, dif_pos hj, Array.getElem_setIfInBounds hj]
    · rw [dif_neg hj, dif_neg hj, if_neg (by omega)]
/- The first that has not come up may. -/
theorem least_ready {md : Region.Mode} {ops : Array Oper} (ht : ∀ (i : Nat) o, ops[i]? = some o → ∀ e ∈ o.after, Region.binds md e = true → e.on < i) {listed : Array Bool} (hsz : listed.size = ops.size) :
    ∀ k, (∀ j, j < k → listed.getD j true = true ∧ listed.getD j false = true) → (∃ i, k ≤ i ∧ i < ops.size ∧ listed.getD i true = false) → Region.ready md ops listed ≠ [] := by
  intro k
  generalize hm : ops.size - k = m
  induction m generalizing k with
  | zero => rintro _ ⟨i, h1, h2, _⟩; omega
  | succ m ih =>
    rintro hk ⟨i, h1, h2, h3⟩ h0
    by_cases hf : listed.getD k true = false
    · have hmem : k ∈ Region.ready md ops listed := mem_ready.2 ⟨hf, ops[k]'(by omega), Array.getElem?_eq_getElem (by omega), fun e he hb => (hk e.on (ht k _ (Array.getElem?_eq_getElem (by omega)) e he hb)).2⟩
      rw [h0] at hmem
      cases hmem
    · have hne : k ≠ i := fun h => hf (by rw [h]; exact h3)
      refine ih (k + 1) (by omega) (fun j hj => ?_) ⟨i, by omega, h2, h3⟩ h0
      by_cases hjk : j = k
      · subst hjk
        have ht' : listed.getD j true = true := by simpa using hf
        refine ⟨ht', ?_⟩
        rcases Nat.lt_or_ge j listed.size with h' | h'
        · simp [Array.getD, h'] at ht' ⊢; exact ht'
        · omega
      · exact hk j (by omega)
theorem wp_cutOp {P : Program} {ops : Array Oper} {o : Oper} {Q : Exit → Act → World → Prop} {i : Nat} (hi : i < ops.size) (hg : ∀ x, ops[i]? = some x → x.guard = none) {K K' : Act → World → Prop} {a : Act} {w : World}
    (h : wpOp P ops (cutQ P (ops.push o) ops.size Q) i K a w) (hK : ∀ a w, K a w → K' a w) : wpOp P (ops.push o) Q i K' a w := by
  have e1 : ops[i]? = some ops[i] := Array.getElem?_eq_getElem hi
  have e2 : (ops.push o)[i]? = some ops[i] := by rw [Array.getElem?_push, if_neg (by omega), e1]
  unfold wpOp at *
  rw [e1] at h
  rw [e2]
  have hgi := hg _ e1
  simp only [Region.wanted, hgi, if_true] at h ⊢
  rcases h with h | h
  · exact Or.inl (Oper.wp_mono hK (wp_cut h))
  · exact Or.inr h
theorem ready_push {md : Region.Mode} {ops : Array Oper} {o : Oper} (ht : ∀ (i : Nat) x, ops[i]? = some x → ∀ e ∈ x.after, Region.binds md e = true → e.on < i) {listed : Array Bool} (hs : listed.size = ops.size) {i : Nat} (hi : i < ops.size) :
    i ∈ Region.ready md (ops.push o) (listed.push false) ↔ i ∈ Region.ready md ops listed := by
  have e1 : ops[i]? = some ops[i] := Array.getElem?_eq_getElem hi
  have e2 : (ops.push o)[i]? = some ops[i] := by rw [Array.getElem?_push, if_neg (by omega), e1]
  rw [mem_ready, mem_ready, push_getD _ _ _ (by omega), e1, e2]
  constructor
  · rintro ⟨h1, x, hx, h2⟩
    refine ⟨h1, x, hx, fun e he hb => ?_⟩
    have := h2 e he hb
    rw [push_getD _ _ _ (by have := ht i x (by rw [e1]; exact hx) e he hb; omega)] at this
    exact this
  · rintro ⟨h1, x, hx, h2⟩
    refine ⟨h1, x, hx, fun e he hb => ?_⟩
    rw [push_getD _ _ _ (by have := ht i x (by rw [e1]; exact hx) e he hb; omega)]
    exact h2 e he hb
theorem cut_step {P : Program} {md : Region.Mode} {ops : Array Oper} {o : Oper} {Q : Exit → Act → World → Prop} (hg : ∀ (i : Nat) x, ops[i]? = some x → x.guard = none)
    (ht : ∀ (i : Nat) x, ops[i]? = some x → ∀ e ∈ x.after, Region.binds md e = true → e.on < i) (hl : ∀ j, j < ops.size → ∃ e ∈ o.after, Region.binds md e = true ∧ e.on = j) (ho : ∀ e ∈ o.after, e.on < ops.size)
    {f : Nat} {listed : Array Bool} {a : Act} {w : World} (hs : listed.size = ops.size)
    (hQ : Region.ready md ops listed = [] → cutQ P (ops.push o) ops.size Q .normal a w)
    (hi : ∀ i, i ∈ Region.ready md ops listed → wpOp P (ops.push o) Q i (wpAny P md (ops.push o) Q f ((listed.push false).setIfInBounds i true)) a w) : wpAny P md (ops.push o) Q (f + 1) (listed.push false) a w := by
  have hn : (listed.push false).getD ops.size true = false := by rw [← hs]; simp [Array.getD]
  have hos : (ops.push o)[ops.size]? = some o := by simp
  refine ⟨fun h0 => ?_, fun i hr => ?_⟩
  · exfalso
    by_cases hall : ∃ i, 0 ≤ i ∧ i < ops.size ∧ listed.getD i true = false
    · have hne := least_ready ht hs 0 (fun j hj => by omega) hall
      apply hne
      rw [List.eq_nil_iff_forall_not_mem]
      intro i hm
      have hlt : i < ops.size := by
        obtain ⟨_, x, hx, _⟩ := mem_ready.1 hm
        exact (Array.getElem?_eq_some_iff.1 hx).1
      have := (ready_push (o := o) ht hs hlt).2 hm
      rw [h0] at this
      cases this
    · have hmem : ops.size ∈ Region.ready md (ops.push o) (listed.push false) := by
        refine mem_ready.2 ⟨hn, o, hos, fun e he hb => ?_⟩
        have hlt := ho e he
        rw [push_getD _ _ _ (by omega)]
        cases hv : listed.getD e.on true with
        | false => exact absurd ⟨e.on, Nat.zero_le _, hlt, hv⟩ hall
        | true => simp [Array.getD, hs, hlt] at hv ⊢; exact hv
      rw [h0] at hmem
      cases hmem
  · obtain ⟨h1, x, hx, h2⟩ := mem_ready.1 hr
    have hle : i < ops.size + 1 := by have := (Array.getElem?_eq_some_iff.1 hx).1; simpa using this
    by_cases hlt : i < ops.size
    · exact hi i ((ready_push ht hs hlt).1 hr)
    · obtain rfl : i = ops.size := by omega
      rw [hos] at hx
      cases hx
      have hall : ∀ j, j < ops.size → listed.getD j false = true := fun j hj => by
        obtain ⟨e, he, hb, hj'⟩ := hl j hj
        have := h2 e he hb
        rw [hj', push_getD _ _ _ (by omega)] at this
        exact this
      have hr0 : Region.ready md ops listed = [] := by
        rw [List.eq_nil_iff_forall_not_mem]
        intro j hm
        obtain ⟨h3, y, hy, _⟩ := mem_ready.1 hm
        have hj := (Array.getElem?_eq_some_iff.1 hy).1
        have := hall j hj
        simp [Array.getD, hs, hj] at this h3
        rw [this] at h3
        cases h3
      have hq := hQ hr0
      refine wpOp_mono (fun a' w' hh => wpAny_done ?_ hh f) hq
      rw [List.eq_nil_iff_forall_not_mem]
      intro j hm
      obtain ⟨h3, y, hy, _⟩ := mem_ready.1 hm
      have hj : j < ops.size + 1 := by have := (Array.getElem?_eq_some_iff.1 hy).1; simpa using this
      by_cases hjn : j = ops.size
      · subst hjn
        simp [Array.getD, hs] at h3
      · have hj' : j < ops.size := by omega
        have := hall j hj'
        simp [Array.getD, hs, hj', Array.getElem_setIfInBounds, Array.getElem_push, Nat.lt_succ_of_lt hj'] at this h3
        rw [h3.2] at this
        cases this
theorem cut_last {P : Program} {md : Region.Mode} {ops : Array Oper} {o : Oper} {Q : Exit → Act → World → Prop} (hg : ∀ (i : Nat) x, ops[i]? = some x → x.guard = none)
    (ht : ∀ (i : Nat) x, ops[i]? = some x → ∀ e ∈ x.after, Region.binds md e = true → e.on < i) (hl : ∀ j, j < ops.size → ∃ e ∈ o.after, Region.binds md e = true ∧ e.on = j) (ho : ∀ e ∈ o.after, e.on < ops.size) :
    ∀ (fuel : Nat) (listed : Array Bool) (a : Act) (w : World), listed.size = ops.size → wpAny P md ops (cutQ P (ops.push o) ops.size Q) fuel listed a w → wpAny P md (ops.push o) Q (fuel + 1) (listed.push false) a w := by
  intro fuel
  induction fuel with
  | zero =>
    intro listed a w hs h
    exact cut_step hg ht hl ho hs (fun _ => h.2) (fun i hi => by rw [h.1] at hi; cases hi)
  | succ f ih =>
    intro listed a w hs h
    refine cut_step hg ht hl ho hs h.1 (fun i hi => ?_)
    have hlt : i < ops.size := by
      obtain ⟨_, x, hx, _⟩ := mem_ready.1 hi
      exact (Array.getElem?_eq_some_iff.1 hx).1
    refine wp_cutOp hlt (fun x hx => hg i x hx) (h.2 i hi) (fun a' w' hh => ?_)
    rw [set_push _ _ (by omega)]
    exact ih _ a' w' (by simpa using hs) hh
/- A region that draws: all but the last first. -/
theorem wp_region_cut {P : Program} {id : Nat} {Q : Exit → Act → World → Prop} {a : Act} {w : World} {S : World → Prop} (l : List Oper) {o : Oper} (hm : P.follows .mixedOrders = true) (hg : (l.all fun x => x.guard.isNone) = true)
    (ht : ((List.range l.length).all fun i => (l[i]?).all fun x => x.after.toList.all fun e => decide (e.on < i)) = true) (hl : ((List.range l.length).all fun j => o.after.toList.any fun e => Region.binds .any e && e.on == j) = true) (ho : (o.after.toList.all fun e => decide (e.on < l.length)) = true)
    (h : wpAnyH P .any l.toArray (cutQ P (l.toArray.push o) l.length Q) S l.length (Array.replicate l.length false) a { w with drawn := w.drawn + 1 }) : (Code.region id (l.toArray.push o) true).wp P Q a w := by
  refine wp_region_any hm ?_
  have h0 := wpAny_of_held _ _ _ _ h
  have := cut_last (P := P) (md := .any) (ops := l.toArray) (o := o) (Q := Q) (fun i x hx => ?_) (fun i x hx e he hb => ?_) (fun j hj => ?_) (fun e he => ?_) l.length (Array.replicate l.length false) a _ (by simp) (by simpa using h0)
  · have e1 : (l.toArray.push o).size = l.length + 1 := by simp
    rw [e1]
    have e2 : Array.replicate (l.length + 1) false = (Array.replicate l.length false).push false := by rw [Array.replicate_succ]
    rw [e2]
    exact this
  · have := List.all_eq_true.1 hg x (by rw [List.getElem?_toArray] at hx; exact List.mem_of_getElem? hx)
    simpa using this
  · rw [List.getElem?_toArray] at hx
    have hi := (List.getElem?_eq_some_iff.1 hx).1
    have h1 := List.all_eq_true.1 ht i (by simpa using hi)
    rw [hx] at h1
    have h2 := List.all_eq_true.1 (by simpa only [Option.all] using h1) e (by simpa using he)
    simpa using h2
  · have h1 := List.all_eq_true.1 hl j (by simpa using hj)
    obtain ⟨e, he, hb⟩ := List.any_eq_true.1 h1
    simp only [Bool.and_eq_true, beq_iff_eq] at hb
    exact ⟨e, by simpa using he, hb.1, hb.2⟩
  · have h1 := List.all_eq_true.1 ho e (by simpa using he)
    simpa using h1
theorem wp_region_cutF {P : Program} {id : Nat} {Q : Exit → Act → World → Prop} {a : Act} {w : World} (S : World → Prop) {F : List Oper} {o : Oper} (hF : F.getLast? = some o) (hm : P.follows .mixedOrders = true) (hg : (F.dropLast.all fun x => x.guard.isNone) = true)
    (ht : ((List.range F.dropLast.length).all fun i => (F.dropLast[i]?).all fun x => x.after.toList.all fun e => decide (e.on < i)) = true) (hl : ((List.range F.dropLast.length).all fun j => o.after.toList.any fun e => Region.binds .any e && e.on == j) = true) (ho : (o.after.toList.all fun e => decide (e.on < F.dropLast.length)) = true)
    (h : wpAnyH P .any F.dropLast.toArray (cutQ P F.toArray F.dropLast.length Q) S F.dropLast.length (Array.replicate F.dropLast.length false) a { w with drawn := w.drawn + 1 }) : (Code.region id F.toArray true).wp P Q a w := by
  have e : F.dropLast.toArray.push o = F.toArray := by
    rw [List.push_toArray]
    congr 1
    obtain ⟨l, rfl⟩ := List.getLast?_eq_some_iff.1 hF
    simp
  have := wp_region_cut (id := id) (Q := Q) (a := a) (w := w) (S := S) F.dropLast (o := o) hm hg ht hl ho (by rw [e]; exact h)
  rw [e] at this
  exact this
theorem cut_fin {P : Program} {ops : Array Oper} {n : Nat} {Q : Exit → Act → World → Prop} {a : Act} {w : World} {o : Oper} (ho : ops[n]? = some o) (hg : o.guard = none) (h : ∀ K : Act → World → Prop, (∀ a w, Q .normal a w → K a w) → Oper.wp P o a w K Q) : cutQ P ops n Q .normal a w := by
  show wpOp P ops Q n (fun a' w' => Q .normal a' w') a w
  unfold wpOp
  rw [ho]
  simp only [Region.wanted, hg, if_true]
  exact Or.inl (h _ (fun _ _ h => h))
end Go.Proofs.YtojkonoffdlbpaaDoor
