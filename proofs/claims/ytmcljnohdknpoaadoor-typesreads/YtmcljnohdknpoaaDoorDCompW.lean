/-
  The document's reading: what the walk of comp leans on; no statement is proved here.
-/
import Derived.Test.YtmcljnohdknpoaaDoorDFunM
namespace Go.Proofs.YtmcljnohdknpoaaDoor
open Go.RowKit
set_option linter.unusedVariables false
set_option linter.unusedSimpArgs false
set_option linter.constructorNameAsVariable false

/- The local value M, the result's block and the reading. -/
def CX (w : World) (b M : Nat) (s : ByteArray) (o : Obj) (st : Except Nat Nat) (w' : World) : Prop := w'.heap[M]? = some o ∧ w'.heap[w.heap.size]? = some (cobj 0 NILS NILS NILS) ∧ M + 1 ≤ w'.heap.size ∧ Turn [b] w w' ∧ ST w' b s st
theorem CX.next {w : World} {b M : Nat} {s : ByteArray} {o : Obj} {st st' : Except Nat Nat} {w1 w2 : World} (h : CX w b M s o st w1) (t : Turn [b] w1 w2) (s2 : ST w2 b s st') (hb : b < w.heap.size) (hM : w.heap.size < M) : CX w b M s o st' w2 :=
  ⟨t.other h.1 (by simp; omega), t.other h.2.1 (by simp; omega), Nat.le_trans h.2.2.1 t.size, h.2.2.2.1.trans t, s2⟩
theorem CX.grow {w : World} {b M : Nat} {s : ByteArray} {o : Obj} {st : Except Nat Nat} {w1 w2 : World} (h : CX w b M s o st w1) (g : Grew w1 w2) (hb : b < w.heap.size) (hM : w.heap.size < M) : CX w b M s o st w2 :=
  h.next (g.turn _) (h.2.2.2.2.grew g) hb hM
theorem CX.app {w : World} {b M : Nat} {s : ByteArray} {o : Obj} {st : Except Nat Nat} {w1 w2 : World} (h : CX w b M s o st w1) (t : TB (M + 1) (M + 1) w1 w2) (hb : b < w.heap.size) (hM : w.heap.size < M) : CX w b M s o st w2 := by
  refine ⟨t.other h.1 (by omega) (by omega), t.other h.2.1 (by omega) (by omega), Nat.le_trans h.2.2.1 t.size, TB.turn (t.any (Nat.le_refl _)) h.2.2.2.1 (by omega), h.2.2.2.2.tb (t.block b ?_ (by omega) (by omega))⟩
  have := h.2.2.2.1.size
  omega
theorem CX.set {w : World} {b M : Nat} {s : ByteArray} {k : Int} {pv rv fv : Value} {st : Except Nat Nat} {w1 : World} (h : CX w b M s (cobj k pv rv fv) st w1) (hb : b < w.heap.size) (hM : w.heap.size < M) (i : Nat) (x : Value) {o : Obj} (ho : (w1.setCell ⟨M, i, none⟩ x).heap[M]? = some o) : CX w b M s o st (w1.setCell ⟨M, i, none⟩ x) :=
  ⟨ho, heap_other h.2.1 (by simp; omega) x, by simpa using h.2.2.1, h.2.2.2.1.set (p := ⟨M, i, none⟩) (Or.inr (by simp; omega)) x, h.2.2.2.2.set (q := ⟨M, i, none⟩) (by simp; omega) x⟩
theorem CX.bad {w : World} {b M : Nat} {s : ByteArray} {o : Obj} {st : Except Nat Nat} {w1 : World} {f : Nat} {bad : Bool} (h : CX w b M s o st w1) (ho : w1.heap[b]? = some (rdg s f bad)) (hb : b < w.heap.size) (hM : w.heap.size < M) : CX w b M s o (.error f) (w1.setCell ⟨b, 2, none⟩ (.bool true)) :=
  ⟨heap_other h.1 (by simp; omega) _, heap_other h.2.1 (by simp; omega) _, by simpa using h.2.2.1, h.2.2.2.1.set (p := ⟨b, 2, none⟩) (Or.inl (by simp)) _, rdg_set2 ho true⟩
theorem RowV.bad {B : Nat} {w1 : World} {v : Value} {l : List VT} {b : Nat} {s : ByteArray} {st : Except Nat Nat} (h : RowV B w1 v l) (s1 : ST w1 b s st) (x : Value) : RowV B (w1.setCell ⟨b, 2, none⟩ x) v l := row_set h (s1.no (by decide) b (by simp)) x
theorem cobj_set0 {w : World} {M : Nat} {k : Int} {a b c : Value} (h : w.heap[M]? = some (cobj k a b c)) (x : Int) : (w.setCell ⟨M, 0, none⟩ (.int .i64 x)).heap[M]? = some (cobj x a b c) := by rw [heap_set h]; rfl
theorem RowV.next {B : Nat} {w1 w2 : World} {v : Value} {l : List VT} {b : Nat} {s : ByteArray} {st : Except Nat Nat} (h : RowV B w1 v l) (t : Turn [b] w1 w2) (s1 : ST w1 b s st) : RowV B w2 v l := h.turn t (s1.no (by decide))
theorem RowF.next {B : Nat} {w1 w2 : World} {v : Value} {l : List FT} {b : Nat} {s : ByteArray} {st : Except Nat Nat} (h : RowF B w1 v l) (t : Turn [b] w1 w2) (s1 : ST w1 b s st) : RowF B w2 v l := h.turn t (s1.no (by decide))
theorem RowV.grow {B : Nat} {w1 w2 : World} {v : Value} {l : List VT} (h : RowV B w1 v l) (g : Grew w1 w2) : RowV B w2 v l := h.turn (g.turn []) (by simp)
theorem RowF.grow {B : Nat} {w1 w2 : World} {v : Value} {l : List FT} (h : RowF B w1 v l) (g : Grew w1 w2) : RowF B w2 v l := h.turn (g.turn []) (by simp)
theorem ahead_of {s x : ByteArray} {st : Except Nat Nat} (h : aheadB s x st = true) (h0 : x ≠ E0) : ∃ q, st = .ok q ∧ tk s q = LP ∧ tk s (nx s q) = x := by
  cases st with
  | error e => cases h
  | ok q =>
    refine ⟨q, rfl, Classical.byContradiction fun hn => ?_, Classical.byContradiction fun hn => ?_⟩
    · rw [ahead_no (fun hh => hn hh.1) h0] at h
      cases h
    · rw [ahead_no (fun hh => hn hh.2) h0] at h
      cases h
theorem ahead_not {s x : ByteArray} {q : Nat} (h : aheadB s x (.ok q) = false) (h0 : x ≠ E0) (h1 : tk s q = LP) : tk s (nx s q) ≠ x := by
  intro h2
  rw [ahead_yes h1 h2 h0] at h
  cases h
/- What stands in the result's cells behind a store of all four. -/
theorem dcomp_end {w0 w : World} {b : Nat} {s : ByteArray} {st : Except Nat Nat} {N : Nat} {c : CT} {pv rv fv : Value} {k' : Int} {a1 a2 a3 : Value} {B : Nat} (hN : w.heap[N]? = some (cobj k' a1 a2 a3)) (h0 : w0.heap.size ≤ N) (hB : w0.heap.size ≤ B)
    (hp : RowV B w pv c.params) (hr : RowV B w rv c.results) (hf : RowF B w fv c.fields) (t : Turn [b] w0 w) (hR : ST w b s st) (hbN : b ≠ N) :
    let w' := (((w.setCell ⟨N, 0, none⟩ (.int .i64 c.kind)).setCell ⟨N, 1, none⟩ pv).setCell ⟨N, 2, none⟩ rv).setCell ⟨N, 3, none⟩ fv
    CompQ w0.heap.size w' (.agg #[.int .i64 c.kind, pv, rv, fv]) c ∧ Turn [b] w0 w' ∧ ST w' b s st := by
  have n1 : (w.setCell ⟨N, 0, none⟩ (.int .i64 c.kind)).heap[N]? = some (cobj c.kind a1 a2 a3) := by rw [heap_set hN]; rfl
  have n2 := cobj_set1 n1 pv
  have n3 := cobj_set2 n2 rv
  refine ⟨⟨pv, rv, fv, rfl, ?_, ?_, ?_⟩, t.set4 N h0 _ _ _ _, hR.set4 N hbN _ _ _ _⟩
  · exact row_low ((((hp.set (q := ⟨N, 0, none⟩) hN _).set (q := ⟨N, 1, none⟩) n1 _).set (q := ⟨N, 2, none⟩) n2 _).set (q := ⟨N, 3, none⟩) n3 _) hB
  · exact row_low ((((hr.set (q := ⟨N, 0, none⟩) hN _).set (q := ⟨N, 1, none⟩) n1 _).set (q := ⟨N, 2, none⟩) n2 _).set (q := ⟨N, 3, none⟩) n3 _) hB
  · exact row_low ((((hf.set (q := ⟨N, 0, none⟩) hN _).set (q := ⟨N, 1, none⟩) n1 _).set (q := ⟨N, 2, none⟩) n2 _).set (q := ⟨N, 3, none⟩) n3 _) hB
theorem call_dvals (p : Value) (w : World) : (callFunc 69 #[p]).run Tryd.prog w = .ok (.enter 69 #[p]) w := by kernel_rfl
theorem call_dfield (p : Value) (w : World) : (callFunc 70 #[p]).run Tryd.prog w = .ok (.enter 70 #[p]) w := by kernel_rfl
/- Calls of vals and field inside a region that draws. -/
theorem step_vals {ops : Array Oper} {o : Oper} {a : Act} {w : World} {K : Act → World → Prop} {Q : Exit → Act → World → Prop} {E : Prop} {R : Ending → World → Prop} (x : Operand) {v : Value}
    (hop : o.op = .call { callee := .value (.func 69), args := #[x], argTypes := #[48] }) (hg : o.guard = none) (hs : a.eval x = v) (hc : Calls Tryd.prog 69 #[v] w R)
    (h : ∀ e w', R e w' → ∃ u, e = .returned u ∧ K (a.put o.dst u) w') :
    if Region.wanted o (yielded ops a.tmps) = true then Oper.wp Tryd.prog o a w K Q else E :=
  step_callF hop (by simp [Region.wanted, hg]) (args := #[v]) (by simp [hs]) (call_dvals v w) hc (fun e w' he => Or.inl (h e w' he))
theorem step_field {ops : Array Oper} {o : Oper} {a : Act} {w : World} {K : Act → World → Prop} {Q : Exit → Act → World → Prop} {E : Prop} {R : Ending → World → Prop} (x : Operand) {v : Value}
    (hop : o.op = .call { callee := .value (.func 70), args := #[x], argTypes := #[48] }) (hg : o.guard = none) (hs : a.eval x = v) (hc : Calls Tryd.prog 70 #[v] w R)
    (h : ∀ e w', R e w' → ∃ u, e = .returned u ∧ K (a.put o.dst u) w') :
    if Region.wanted o (yielded ops a.tmps) = true then Oper.wp Tryd.prog o a w K Q else E :=
  step_callF hop (by simp [Region.wanted, hg]) (args := #[v]) (by simp [hs]) (call_dfield v w) hc (fun e w' he => Or.inl (h e w' he))
theorem rowV_cells (l : List VT) : ∀ y ∈ l.flatMap VT.c, y.oneCell' = true := by
  intro y hy
  simp only [List.mem_flatMap] at hy
  obtain ⟨a, _, ha⟩ := hy
  unfold VT.c at ha
  simp at ha
  rcases ha with rfl | rfl | rfl <;> rfl
/- An append of a whole row inside a region that draws. -/
theorem step_appV {w0 w : World} {ops : Array Oper} {o : Oper} {a : Act} {K : Act → World → Prop} {Q : Exit → Act → World → Prop} {E : Prop} (hgd : o.guard = none) (s x : Operand)
    (ho : o.op = .call { callee := .builtin .append, args := #[s, x], argTypes := #[57, 57] }) {B B' : Nat} {v u : Value} {l l2 : List VT}
    (hs : a.eval s = v) (hx : a.eval x = u) (g : Grew w0 w) (hh : RowV B w0 v l) (hr : RowV B' w0 u l2) (hB : B ≤ w0.heap.size) (hlen : l.length + l2.length ≤ 70000)
    (h : ∀ v' w', RowV B w' v' (l ++ l2) → (∀ b, TB b B w0 w') → K (a.put o.dst v') w') :
    if Region.wanted o (yielded ops a.tmps) = true then Oper.wp Tryd.prog o a w K Q else E := by
  have hw : Region.wanted o (yielded ops a.tmps) = true := by simp [Region.wanted, hgd]
  rw [if_pos hw]
  obtain ⟨i0, hi, hz0, hz1, hz2⟩ := info_parts infoV
  have hown : w.ownsRow B 23 3 v l.length (l.flatMap VT.c) := hh.grow g
  have hr' : w.ownsRow B' 23 3 u l2.length (l2.flatMap VT.c) := hr.grow g
  have hr2 := hr'
  obtain ⟨hl, ⟨rfl, hn⟩ | ⟨gg, cap, cur, rfl, _, hg, _⟩⟩ := hr'
  · have : l2 = [] := List.eq_nil_of_length_eq_zero hn
    subst this
    have hrun := run_append_owned_none (P := Tryd.prog) (w := w) B 57 o.type 23 i0 3 Tryd.underlying57 hi v l.length (l.flatMap VT.c) hown
    unfold Oper.wp
    simp [execOp, ho, resolve, invoke, builtin, hs, hx, hrun, Result.andThen]
    refine h v w ?_ (fun b => TB.of_turn (g.turn []) (by simp))
    rw [List.append_nil]
    exact hown
  · refine wp_append_own _ s x 57 ho B 23 i0 _ 3 24 Tryd.underlying57 hi hz0 hz1 hz2 rfl (by decide) v l.length (l.flatMap VT.c) hs hown ⟨gg, 0, none⟩ l2.length cap (l2.flatMap VT.c) hx hl (fun j y hj => ?_) (rowV_cells l2) (by unfold maxLen; omega) (by omega) (Nat.le_trans hB g.2) ?_
    · have e : (Addr.add ⟨gg, 0, none⟩ j) = ⟨gg, j, none⟩ := by unfold Addr.add; split <;> simp_all
      rw [e]
      obtain ⟨hj', hy⟩ := List.getElem?_eq_some_iff.1 hj
      have := hr2.cellAt j (by omega)
      rw [this, hj]
    · intro v' w' ho' hg' _
      refine h v' w' ?_ (fun b => (TB.of_turn (g.turn []) (by simp)).trans (own_turn hown hg'))
      unfold RowV
      rw [List.length_append, List.flatMap_append]
      exact ho'
/- An append of one field inside a region that draws. -/
theorem step_appF {w0 w : World} {ops : Array Oper} {o : Oper} {a : Act} {K : Act → World → Prop} {Q : Exit → Act → World → Prop} {E : Prop} (hgd : o.guard = none) (s x : Operand)
    (ho : o.op = .call { callee := .builtin .append, args := #[s, x], argTypes := #[58, 58] }) {B : Nat} {v : Value} {l : List FT} {c : FT} {gg : Nat} {cp : Nat}
    (hs : a.eval s = v) (hx : a.eval x = .slice (some ⟨gg, 0, none⟩) 1 cp) (g : Grew w0 w) (hh : RowF B w0 v l) (hB : B ≤ w0.heap.size)
    (h0 : w.cell? ⟨gg, 0, none⟩ = some (.int .i64 c.ty.num)) (h1 : w.cell? ⟨gg, 1, none⟩ = some (.bool c.ty.null)) (h2 : w.cell? ⟨gg, 2, none⟩ = some (.int .i64 c.ty.heap)) (h3 : w.cell? ⟨gg, 3, none⟩ = some (.bool c.mut_)) (hlen : l.length < 70000)
    (h : ∀ v' w', RowF B w' v' (l ++ [c]) → (∀ b, TB b B w0 w') → K (a.put o.dst v') w') :
    if Region.wanted o (yielded ops a.tmps) = true then Oper.wp Tryd.prog o a w K Q else E := by
  have hw : Region.wanted o (yielded ops a.tmps) = true := by simp [Region.wanted, hgd]
  rw [if_pos hw]
  obtain ⟨i0, hi, hz0, hz1, hz2⟩ := info_parts infoF
  have hown : w.ownsRow B 94 4 v l.length (l.flatMap FT.c) := hh.grow g
  refine wp_append_own _ s x 58 ho B 94 i0 _ 4 32 Tryd.underlying58 hi hz0 hz1 hz2 rfl (by decide) v l.length (l.flatMap FT.c) hs hown ⟨gg, 0, none⟩ 1 cp c.c hx rfl ?_ ?_ (by unfold maxLen; omega) (by omega) (Nat.le_trans hB g.2) ?_
  · intro j u hj
    have e : (Addr.add ⟨gg, 0, none⟩ j) = ⟨gg, j, none⟩ := by unfold Addr.add; split <;> simp_all
    rw [e]
    unfold FT.c at hj
    match j, hj with
    | 0, hj => simp at hj; subst hj; exact h0
    | 1, hj => simp at hj; subst hj; exact h1
    | 2, hj => simp at hj; subst hj; exact h2
    | 3, hj => simp at hj; subst hj; exact h3
  · intro u hu
    unfold FT.c at hu
    simp at hu
    rcases hu with rfl | rfl | rfl | rfl <;> rfl
  · intro v' w' ho' hg' _
    refine h v' w' ?_ (fun b => (TB.of_turn (g.turn []) (by simp)).trans (own_turn hown hg'))
    unfold RowF
    rw [List.length_append, List.flatMap_append]
    simpa using ho'
end Go.Proofs.YtmcljnohdknpoaaDoor
