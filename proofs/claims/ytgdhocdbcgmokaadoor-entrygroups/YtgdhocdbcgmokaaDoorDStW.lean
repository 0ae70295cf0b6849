/-
  The document's reading: calls and appends inside regions that draw, and a value under way; no statement is proved here.
-/
import Derived.Test.YtgdhocdbcgmokaaDoorDCmp
import Derived.Test.YtgdhocdbcgmokaaDoorGrpS
namespace Go.Proofs.YtgdhocdbcgmokaaDoor
open Go.RowKit
set_option linter.unusedVariables false
set_option linter.unusedSimpArgs false
set_option linter.constructorNameAsVariable false

theorem step_callF {f : Nat} {args : Array Value} {argTs : Array TypeId} {argOs : Array Operand} {R : Ending → World → Prop} {ops : Array Oper} {o : Oper} {a : Act} {w : World} {K : Act → World → Prop} {Q : Exit → Act → World → Prop} {E : Prop}
    (hop : o.op = .call { callee := .value (.func f), args := argOs, argTypes := argTs }) (hw : Region.wanted o (yielded ops a.tmps) = true) (hargs : argOs.map a.eval = args) (hf : (callFunc f args).run Tryd.prog w = .ok (.enter f args) w)
    (hc : Calls Tryd.prog f args w R) (h : ∀ e w', R e w' → (∃ u, e = .returned u ∧ K (a.put o.dst u) w') ∨ ∃ ch, e = .panicked ch ∧ Q (.panic ch) a w') :
    if Region.wanted o (yielded ops a.tmps) = true then Oper.wp Tryd.prog o a w K Q else E := by
  rw [if_pos hw]
  unfold Oper.wp
  subst hargs
  simp [execOp, hop, resolve, invoke, go_sem, hf, Oper.upon_enter]
  refine hc.mono ?_
  intro e w' he
  rcases h e w' he with ⟨u, rfl, hk⟩ | ⟨ch, rfl, hk⟩
  · exact hk
  · exact hk
theorem TB.any {b b' B : Nat} {w w' : World} (h : TB b' B w w') (hb : B ≤ b') : TB b B w w' := ⟨h.os, h.tape, h.output, h.size, fun k hk _ h2 => h.block k hk (by omega) h2⟩
theorem RowF.grow {B : Nat} {w1 w2 : World} {v : Value} {l : List FT} (h : RowF B w1 v l) (g : Grew w1 w2) : RowF B w2 v l := h.turn (g.turn []) (by simp)
theorem RowI.grow {B : Nat} {w1 w2 : World} {v : Value} {l : List Int} (h : RowI B w1 v l) (g : Grew w1 w2) : RowI B w2 v l := h.turn (g.turn []) (by simp)
theorem step_appI {w0 w : World} {ops : Array Oper} {o : Oper} {a : Act} {K : Act → World → Prop} {Q : Exit → Act → World → Prop} {E : Prop} (hgd : o.guard = none) (s x : Operand)
    (ho : o.op = .call { callee := .builtin .append, args := #[s, x], argTypes := #[61, 61] }) {B b : Nat} {v : Value} {l : List Int} {c : Int} {ad : Addr} {cp : Nat}
    (hs : a.eval s = v) (hx : a.eval x = .slice (some ad) 1 cp) (g : Grew w0 w) (hh : RowI B w0 v l) (hB : B ≤ w0.heap.size) (hc : w.cell? ad = some (.int .i64 c)) (hlen : l.length ≤ 70000)
    (h : ∀ v' w', RowI B w' v' (l ++ [c]) → TB b B w0 w' → K (a.put o.dst v') w') :
    if Region.wanted o (yielded ops a.tmps) = true then Oper.wp Tryd.prog o a w K Q else E := by
  have hw : Region.wanted o (yielded ops a.tmps) = true := by simp [Region.wanted, hgd]
  rw [if_pos hw]
  obtain ⟨i0, hi, hz0, hz1, hz2⟩ := info_parts infoI
  have hown : w.ownsRow B 3 1 v l.length (l.flatMap ic1) := hh.grow g
  refine wp_append_own _ s x 61 ho B 3 i0 (.int .i64 0) 1 8 Tryd.underlying61 hi hz0 hz1 hz2 rfl (by decide) v l.length (l.flatMap ic1) hs hown ad 1 cp [.int .i64 c] hx rfl ?_ (by simp [Value.oneCell']) (by unfold maxLen; omega) (by omega) (Nat.le_trans hB g.2) ?_
  · intro j u hj
    match j, hj with
    | 0, hj => simp at hj; subst hj; simpa [Addr.add] using hc
  · intro v' w' ho' hg' _
    refine h v' w' (RowI.snoc ho') ((TB.of_turn (g.turn []) (by simp)).trans (own_turn hown hg'))
theorem step_appF {w0 w : World} {ops : Array Oper} {o : Oper} {a : Act} {K : Act → World → Prop} {Q : Exit → Act → World → Prop} {E : Prop} (hgd : o.guard = none) (s x : Operand)
    (ho : o.op = .call { callee := .builtin .append, args := #[s, x], argTypes := #[53, 53] }) {B : Nat} {v : Value} {l : List FT} {c : FT} {gg : Nat} {cp : Nat}
    (hs : a.eval s = v) (hx : a.eval x = .slice (some ⟨gg, 0, none⟩) 1 cp) (g : Grew w0 w) (hh : RowF B w0 v l) (hB : B ≤ w0.heap.size)
    (h0 : w.cell? ⟨gg, 0, none⟩ = some (.int .i64 c.ty.num)) (h1 : w.cell? ⟨gg, 1, none⟩ = some (.bool c.ty.null)) (h2 : w.cell? ⟨gg, 2, none⟩ = some (.int .i64 c.ty.heap)) (h3 : w.cell? ⟨gg, 3, none⟩ = some (.bool c.mut_)) (hlen : l.length < 70000)
    (h : ∀ v' w', RowF B w' v' (l ++ [c]) → (∀ b, TB b B w0 w') → K (a.put o.dst v') w') :
    if Region.wanted o (yielded ops a.tmps) = true then Oper.wp Tryd.prog o a w K Q else E := by
  have hw : Region.wanted o (yielded ops a.tmps) = true := by simp [Region.wanted, hgd]
  rw [if_pos hw]
  obtain ⟨i0, hi, hz0, hz1, hz2⟩ := info_parts infoF
  have hown : w.ownsRow B 48 4 v l.length (l.flatMap FT.c) := hh.grow g
  refine wp_append_own _ s x 53 ho B 48 i0 _ 4 32 Tryd.underlying53 hi hz0 hz1 hz2 rfl (by decide) v l.length (l.flatMap FT.c) hs hown ⟨gg, 0, none⟩ 1 cp c.c hx rfl ?_ ?_ (by unfold maxLen; omega) (by omega) (Nat.le_trans hB g.2) ?_
  · intro j u hj
    have e : (Addr.add ⟨gg, 0, none⟩ j) = ⟨gg, j, none⟩ := by unfold Addr.add; split <;> simp_all
    rw [e]
    unfold FT.c at hj
    match j, hj with
    | 0, hj => simp at hj; subst hj; exact h0
    | 1, hj => simp at hj; subst hj; exact h1
    | 2, hj => simp at hj; subst hj; exact h2
    | 3, hj => simp at hj; subst hj; exact h3
  · intro u hu
    unfold FT.c at hu
    simp at hu
    rcases hu with rfl | rfl | rfl | rfl <;> rfl
  · intro v' w' ho' hg' _
    refine h v' w' ?_ (fun b => (TB.of_turn (g.turn []) (by simp)).trans (own_turn hown hg'))
    unfold RowF
    rw [List.length_append, List.flatMap_append]
    simpa using ho'
theorem step_appS {w0 w : World} {ops : Array Oper} {o : Oper} {a : Act} {K : Act → World → Prop} {Q : Exit → Act → World → Prop} {E : Prop} (hgd : o.guard = none) (s x : Operand)
    (ho : o.op = .call { callee := .builtin .append, args := #[s, x], argTypes := #[68, 68] }) {B : Nat} {v : Value} {l : List SB} {y : SB} {new : List Value} {gg cp : Nat}
    (hs : a.eval s = v) (hx : a.eval x = .slice (some ⟨gg, 0, none⟩) 1 cp) (g : Grew w0 w) (hh : SubsQ B w0 v l) (hB : B ≤ w0.heap.size) (hy : SubC B w0 new y) (hc : ∀ j u, new[j]? = some u → w.cell? ⟨gg, j, none⟩ = some u) (hlen : l.length < 70000)
    (h : ∀ v' w', SubsQ B w' v' (l ++ [y]) → (∀ b, TB b B w0 w') → K (a.put o.dst v') w') :
    if Region.wanted o (yielded ops a.tmps) = true then Oper.wp Tryd.prog o a w K Q else E := by
  have hw : Region.wanted o (yielded ops a.tmps) = true := by simp [Region.wanted, hgd]
  rw [if_pos hw]
  obtain ⟨i0, hi, hz0, hz1, hz2⟩ := info_parts infoS
  obtain ⟨cs, d1, d2⟩ := hh
  have hown : w.ownsRow B 63 6 v l.length cs := row_turn d1 (g.turn []) (by simp)
  have hn6 : new.length = 6 := by
    obtain ⟨sv, pv, rv, fv, rfl, _⟩ := hy
    rfl
  have h1 : ∀ u ∈ new, u.oneCell' = true := by
    obtain ⟨sv, pv, rv, fv, rfl, z1, z2, z3, z4⟩ := hy
    intro u hu
    simp at hu
    rcases hu with rfl | rfl | rfl | rfl | rfl | rfl
    · rfl
    · exact row_cell z1
    · rfl
    · exact row_cell z2
    · exact row_cell z3
    · exact row_cell z4
  refine wp_append_own _ s x 68 ho B 63 i0 _ 6 112 Tryd.underlying68 hi hz0 hz1 hz2 rfl (by decide) v l.length cs hs hown ⟨gg, 0, none⟩ 1 cp new hx (by omega) ?_ h1 (by unfold maxLen; omega) (by omega) (Nat.le_trans hB g.2) ?_
  · intro j u hj
    have e : (Addr.add ⟨gg, 0, none⟩ j) = ⟨gg, j, none⟩ := by unfold Addr.add; split <;> simp_all
    rw [e]
    exact hc j u hj
  · intro v' w' ho' hg' _
    have hG : ∀ x < w0.heap.size, some x ≠ v.ownBlock → w'.heap[x]? = w0.heap[x]? := fun x hx hne => (hg'.block x (Nat.lt_of_lt_of_le hx g.2) hne).trans ((g.turn []).block x hx (by simp))
    exact h v' w' (SubsQ.snoc d1 d2 hy hn6 ho' hG) (fun b => (TB.of_turn (g.turn []) (by simp)).trans (own_turn hown hg'))
theorem call_dfield (p : Value) (w : World) : (callFunc 66 #[p]).run Tryd.prog w = .ok (.enter 66 #[p]) w := by kernel_rfl
theorem step_field {ops : Array Oper} {o : Oper} {a : Act} {w : World} {K : Act → World → Prop} {Q : Exit → Act → World → Prop} {E : Prop} {R : Ending → World → Prop} (x : Operand) {v : Value}
    (hop : o.op = .call { callee := .value (.func 66), args := #[x], argTypes := #[116] }) (hg : o.guard = none) (hs : a.eval x = v) (hc : Calls Tryd.prog 66 #[v] w R)
    (h : ∀ e w', R e w' → ∃ u, e = .returned u ∧ K (a.put o.dst u) w') :
    if Region.wanted o (yielded ops a.tmps) = true then Oper.wp Tryd.prog o a w K Q else E :=
  step_callF hop (by simp [Region.wanted, hg]) (args := #[v]) (by simp [hs]) (call_dfield v w) hc (fun e w' he => Or.inl (h e w' he))
theorem call_dtypeAt (p : Value) (w : World) : (callFunc 137 #[p]).run Tryd.prog w = .ok (.enter 137 #[p]) w := by kernel_rfl
theorem step_typeAt {ops : Array Oper} {o : Oper} {a : Act} {w : World} {K : Act → World → Prop} {Q : Exit → Act → World → Prop} {E : Prop} {R : Ending → World → Prop} (x : Operand) {v : Value}
    (hop : o.op = .call { callee := .value (.func 137), args := #[x], argTypes := #[116] }) (hg : o.guard = none) (hs : a.eval x = v) (hc : Calls Tryd.prog 137 #[v] w R)
    (h : ∀ e w', R e w' → ∃ u, e = .returned u ∧ K (a.put o.dst u) w') :
    if Region.wanted o (yielded ops a.tmps) = true then Oper.wp Tryd.prog o a w K Q else E :=
  step_callF hop (by simp [Region.wanted, hg]) (args := #[v]) (by simp [hs]) (call_dtypeAt v w) hc (fun e w' he => Or.inl (h e w' he))
theorem call_dsub (p : Value) (w : World) : (callFunc 74 #[p]).run Tryd.prog w = .ok (.enter 74 #[p]) w := by kernel_rfl
theorem step_sub {ops : Array Oper} {o : Oper} {a : Act} {w : World} {K : Act → World → Prop} {Q : Exit → Act → World → Prop} {E : Prop} {R : Ending → World → Prop} (x : Operand) {v : Value}
    (hop : o.op = .call { callee := .value (.func 74), args := #[x], argTypes := #[116] }) (hg : o.guard = none) (hs : a.eval x = v) (hc : Calls Tryd.prog 74 #[v] w R)
    (h : ∀ e w', R e w' → ∃ u, e = .returned u ∧ K (a.put o.dst u) w') :
    if Region.wanted o (yielded ops a.tmps) = true then Oper.wp Tryd.prog o a w K Q else E :=
  step_callF hop (by simp [Region.wanted, hg]) (args := #[v]) (by simp [hs]) (call_dsub v w) hc (fun e w' he => Or.inl (h e w' he))
/- The value under way M, the result's block and the reading. -/
def CX (w : World) (b M : Nat) (v : Value) (l : List Int) (z o : Obj) (st : Except (Nat × Nat) Nat) (w' : World) : Prop := w'.heap[M]? = some o ∧ w'.heap[w.heap.size]? = some z ∧ M + 1 ≤ w'.heap.size ∧ Turn [b] w w' ∧ DR w' b v l st
theorem CX.next {w : World} {b M : Nat} {v : Value} {l : List Int} {z o : Obj} {st st' : Except (Nat × Nat) Nat} {w1 w2 : World} (h : CX w b M v l z o st w1) (t : Turn [b] w1 w2) (s2 : DR w2 b v l st') (hb : b < w.heap.size) (hM : w.heap.size < M) : CX w b M v l z o st' w2 :=
  ⟨t.other h.1 (by simp; omega), t.other h.2.1 (by simp; omega), Nat.le_trans h.2.2.1 t.size, h.2.2.2.1.trans t, s2⟩
theorem CX.app {w : World} {b M : Nat} {v : Value} {l : List Int} {z o : Obj} {st st0 : Except (Nat × Nat) Nat} {w1 w2 : World} (h : CX w b M v l z o st w1) (h0 : DR w b v l st0) (t : TB (M + 1) (M + 1) w1 w2) (hb : b < w.heap.size) (hM : w.heap.size < M) : CX w b M v l z o st w2 := by
  have tt : Turn [b] w w2 := TB.turn (t.any (Nat.le_refl _)) h.2.2.2.1 (by omega)
  refine ⟨t.other h.1 (by omega) (by omega), t.other h.2.1 (by omega) (by omega), Nat.le_trans h.2.2.1 t.size, tt, h0.of tt (h.2.2.2.2.st.same (t.block b ?_ (by omega) (by omega)))⟩
  have := h.2.2.2.1.size
  omega
theorem CX.set {w : World} {b M : Nat} {v : Value} {l : List Int} {z o : Obj} {st st0 : Except (Nat × Nat) Nat} {w1 : World} (h : CX w b M v l z o st w1) (h0 : DR w b v l st0) (hM : w.heap.size < M) (i : Nat) (x : Value) {o' : Obj} (ho : (w1.setCell ⟨M, i, none⟩ x).heap[M]? = some o') : CX w b M v l z o' st (w1.setCell ⟨M, i, none⟩ x) :=
  ⟨ho, heap_other h.2.1 (by simp; omega) x, by simpa using h.2.2.1, h.2.2.2.1.set (p := ⟨M, i, none⟩) (Or.inr (by simp; omega)) x, h0.setN h.2.2.2.1 h.2.2.2.2 M i (by omega) x⟩
theorem RowF.next {B : Nat} {w1 w2 : World} {u v : Value} {l : List FT} {b : Nat} {s : List Int} {st : Except (Nat × Nat) Nat} (h : RowF B w1 u l) (t : Turn [b] w1 w2) (s1 : DR w1 b v s st) : RowF B w2 u l := h.turn t (s1.no (by decide))
theorem RowI.next {B : Nat} {w1 w2 : World} {u v : Value} {l : List Int} {b : Nat} {s : List Int} {st : Except (Nat × Nat) Nat} (h : RowI B w1 u l) (t : Turn [b] w1 w2) (s1 : DR w1 b v s st) : RowI B w2 u l := h.turn t (s1.no (by decide))
theorem SubsQ.next {B : Nat} {w1 w2 : World} {u v : Value} {l : List SB} {b : Nat} {s : List Int} {st : Except (Nat × Nat) Nat} (h : SubsQ B w1 u l) (t : Turn [b] w1 w2) (s1 : DR w1 b v s st) : SubsQ B w2 u l := h.turn t (s1.no (by decide)) (s1.no (by decide)) (s1.no (by decide)) (s1.no (by decide))
/- A list read one by one. -/
def Left {α : Type} (R : RS (List α)) (rd : Nat → RS α) (n : Nat) (acc : List α) (st : Except (Nat × Nat) Nat) : Prop := (∃ q, st = .ok q ∧ R = manyR rd n acc q) ∨ (∃ e, st = .error e ∧ R = .error e)
theorem Left.next {α : Type} {R : RS (List α)} {rd : Nat → RS α} {n : Nat} {acc : List α} {q : Nat} (h : R = manyR rd (n + 1) acc q) {x : α} {st : Except (Nat × Nat) Nat} (t : TieD (runR rd (.ok q)) x st) : Left R rd n (acc ++ [x]) st := by
  rw [manyR] at h
  cases st with
  | ok q' =>
    rw [show rd q = .ok (x, q') from t] at h
    exact Or.inl ⟨q', rfl, h⟩
  | error e =>
    rw [show rd q = .error e from t] at h
    exact Or.inr ⟨e, rfl, h⟩
theorem Left.done {α : Type} {R : RS (List α)} {rd : Nat → RS α} {acc : List α} {st : Except (Nat × Nat) Nat} (h : Left R rd 0 acc st) : TieD R acc st := by
  rcases h with ⟨q, rfl, h⟩ | ⟨e, rfl, h⟩
  · exact h
  · exact h
theorem Left.bad {α : Type} {R : RS (List α)} {rd : Nat → RS α} {n : Nat} {acc x : List α} {e : Nat × Nat} (h : Left R rd n acc (.error e)) : TieD R x (.error e) := by
  rcases h with ⟨q, h1, h⟩ | ⟨e', h1, h⟩
  · cases h1
  · cases h1; exact h
/- How many: a number within the limit, and the reading's state behind. -/
theorem many_tie {α : Type} {w : World} {b : Nat} {v : Value} {l : List Int} {st : Except (Nat × Nat) Nat} (h : DR w b v l st) (most : Nat) (hm : most ≤ 10000) (rd : Nat → RS α) :
    Calls Tryd.prog 126 #[.pointer (some ⟨b, 0, none⟩), .int .i64 (most : Int)] w fun en w' => ∃ (N : Nat) (st1 : Except (Nat × Nat) Nat), en = .returned (.int .i64 (N : Int)) ∧ N ≤ most ∧ FinD b v l w w' st1 ∧ Left (runR (listR (most : Int) rd l) st) rd N [] st1 := by
  have hst : ∀ p, st = .ok p → p ≤ l.length := fun p hp => by subst hp; exact h.st.2
  have hR2 : runR (listR (most : Int) rd l) st = match runR (fun p => limR p (most : Int) (numR 32 false l p)) st with
      | .ok (n, q) => manyR rd n.toNat [] q
      | .error e => .error e := by
    cases st with
    | error e => rfl
    | ok p =>
      show listR (most : Int) rd l p = match limR p (most : Int) (numR 32 false l p) with
        | .ok (n, q) => manyR rd n.toNat [] q
        | .error e => .error e
      unfold listR thenR
      cases limR p (most : Int) (numR 32 false l p) with
      | error e => rfl
      | ok y => rfl
  have C := dmany_any h most hm
  refine C.mono ?_
  intro en w' hh
  cases hx : runR (fun p => limR p (most : Int) (numR 32 false l p)) st with
  | error y =>
    obtain ⟨f, e⟩ := y
    rw [hx] at hh hR2
    exact ⟨0, .error (f, e), hh.1, by omega, hh.2, Or.inr ⟨(f, e), rfl, hR2⟩⟩
  | ok y =>
    obtain ⟨n, q⟩ := y
    have hn := many_bd h.byt hst hx
    rw [hx] at hh hR2
    obtain ⟨h1, h2, h3, h4⟩ := hh
    exact ⟨n.toNat, .ok q, by rw [h1, show ((n.toNat : Nat) : Int) = n by omega], by omega, h4, Or.inl ⟨q, rfl, hR2⟩⟩
end Go.Proofs.YtgdhocdbcgmokaaDoor
