/-
  The document's reading of instructions: tables and selects; the steps; no statement is proved here.
-/
import Derived.Test.YtohapnninjdlfaaGreatDoorD9h
import Derived.Deep.RegionLaw
namespace Go.Proofs.YtohapnninjdlfaaGreatDoor
open Go.RowKit
set_option linter.unusedVariables false
set_option linter.unusedSimpArgs false
set_option linter.constructorNameAsVariable false

theorem step_callF {f : Nat} {args : Array Value} {argTs : Array TypeId} {argOs : Array Operand} {R : Ending → World → Prop} {ops : Array Oper} {o : Oper} {a : Act} {w : World} {K : Act → World → Prop} {Q : Exit → Act → World → Prop} {E : Prop}
    (hop : o.op = .call { callee := .value (.func f), args := argOs, argTypes := argTs }) (hw : Region.wanted o (yielded ops a.tmps) = true) (hargs : argOs.map a.eval = args) (hf : (callFunc f args).run Tryz.prog w = .ok (.enter f args) w)
    (hc : Calls Tryz.prog f args w R) (h : ∀ e w', R e w' → (∃ u, e = .returned u ∧ K (a.put o.dst u) w') ∨ ∃ ch, e = .panicked ch ∧ Q (.panic ch) a w') :
    if Region.wanted o (yielded ops a.tmps) = true then Oper.wp Tryz.prog o a w K Q else E := by
  rw [if_pos hw]
  unfold Oper.wp
  subst hargs
  simp [execOp, hop, resolve, invoke, go_sem, hf, Oper.upon_enter]
  refine hc.mono ?_
  intro e w' he
  rcases h e w' he with ⟨u, rfl, hk⟩ | ⟨ch, rfl, hk⟩
  · exact hk
  · exact hk
theorem S9I.app {w0 wb : World} {b M : Nat} {v : Value} {l : List Int} {w1 w2 : World} {st : Except (Nat × Nat) Nat} {es : Array Value} (h : S9I w0 wb b M v l w1 st es) (t : TB wb.heap.size wb.heap.size w1 w2) (hM : M < wb.heap.size) (h0 : w0.heap.size ≤ wb.heap.size) : S9I w0 wb b M v l w2 st es := by
  obtain ⟨s, hs⟩ := h.base
  have hb : b < w0.heap.size := hs.lt
  have tt : Turn [b] w0 w2 := ⟨t.os.trans h.tn.os, t.tape.trans h.tn.tape, t.output.trans h.tn.output, Nat.le_trans h.tn.size t.size, fun k hk hn => (t.block k (Nat.lt_of_lt_of_le hk h.tn.size) (by omega) (by omega)).trans (h.tn.block k hk hn)⟩
  exact ⟨h.base, tt, hs.of tt (h.di.st.same (t.block b h.di.lt (by omega) (by omega))), t.other h.io (by omega) hM, h.sz, h.hM, h.one, ⟨t.os.trans h.tm.os, t.tape.trans h.tm.tape, t.output.trans h.tm.output, Nat.le_trans h.tm.size t.size, fun k hk hn => (t.block k (Nat.lt_of_lt_of_le hk h.tm.size) (by omega) hk).trans (h.tm.block k hk hn)⟩⟩
theorem S9I.here {w0 wb : World} {b M : Nat} {v : Value} {l : List Int} {w1 : World} {st : Except (Nat × Nat) Nat} {es : Array Value} {j : Nat} {x : Value} (h : S9I w0 wb b M v l w1 st (es.setIfInBounds j x)) (hj : j < 17) : w1.cell? ⟨M, j, none⟩ = some x := by
  have hs : es.size = 17 := by have := h.sz; simpa using this
  rw [cell_of h.io]
  simp [hs, hj]
theorem set_set {es : Array Value} {j : Nat} {x y : Value} : (es.setIfInBounds j x).setIfInBounds j y = es.setIfInBounds j y := by
  apply Array.ext_getElem?
  intro i
  simp only [Array.getElem?_setIfInBounds]
  split <;> simp_all
theorem call_d9u32 (p : Value) (w : World) : (callFunc 24 #[p]).run Tryz.prog w = .ok (.enter 24 #[p]) w := by kernel_rfl
theorem step_d9u32 {ops : Array Oper} {o : Oper} {a : Act} {w : World} {K : Act → World → Prop} {Q : Exit → Act → World → Prop} {E : Prop} {R : Ending → World → Prop} (x : Operand) {v : Value}
    (hop : o.op = .call { callee := .value (.func 24), args := #[x], argTypes := #[49] }) (hg : o.guard = none) (hs : a.eval x = v) (hc : Calls Tryz.prog 24 #[v] w R)
    (h : ∀ e w', R e w' → ∃ u, e = .returned u ∧ K (a.put o.dst u) w') :
    if Region.wanted o (yielded ops a.tmps) = true then Oper.wp Tryz.prog o a w K Q else E :=
  step_callF hop (by simp [Region.wanted, hg]) (args := #[v]) (by simp [hs]) (call_d9u32 v w) hc (fun e w' he => Or.inl (h e w' he))
theorem call_d9val (p : Value) (w : World) : (callFunc 26 #[p]).run Tryz.prog w = .ok (.enter 26 #[p]) w := by kernel_rfl
theorem step_d9val {ops : Array Oper} {o : Oper} {a : Act} {w : World} {K : Act → World → Prop} {Q : Exit → Act → World → Prop} {E : Prop} {R : Ending → World → Prop} (x : Operand) {v : Value}
    (hop : o.op = .call { callee := .value (.func 26), args := #[x], argTypes := #[49] }) (hg : o.guard = none) (hs : a.eval x = v) (hc : Calls Tryz.prog 26 #[v] w R)
    (h : ∀ e w', R e w' → ∃ u, e = .returned u ∧ K (a.put o.dst u) w') :
    if Region.wanted o (yielded ops a.tmps) = true then Oper.wp Tryz.prog o a w K Q else E :=
  step_callF hop (by simp [Region.wanted, hg]) (args := #[v]) (by simp [hs]) (call_d9val v w) hc (fun e w' he => Or.inl (h e w' he))
theorem step_appU9 {w0 w : World} {ops : Array Oper} {o : Oper} {a : Act} {K : Act → World → Prop} {Q : Exit → Act → World → Prop} {E : Prop} (hgd : o.guard = none) (s x : Operand)
    (ho : o.op = .call { callee := .builtin .append, args := #[s, x], argTypes := #[32, 32] }) {B b : Nat} {v : Value} {l : List Int} {c : Int} {ad : Addr} {cp : Nat}
    (hs : a.eval s = v) (hx : a.eval x = .slice (some ad) 1 cp) (g : Grew w0 w) (hh : RowU B w0 v l) (hB : B ≤ w0.heap.size) (hc : ∀ (j : Nat) (u : Value), (ic2 c)[j]? = some u → w.cell? (ad.add j) = some u) (hlen : l.length ≤ 70000)
    (h : ∀ v' w', RowU B w' v' (l ++ [c]) → TB b B w0 w' → K (a.put o.dst v') w') :
    if Region.wanted o (yielded ops a.tmps) = true then Oper.wp Tryz.prog o a w K Q else E := by
  have hw : Region.wanted o (yielded ops a.tmps) = true := by simp [Region.wanted, hgd]
  rw [if_pos hw]
  obtain ⟨i0, hi, hz0, hz1, hz2⟩ := info_parts infoU2
  have hown : w.ownsRow B 23 1 v l.length (l.flatMap ic2) := row_turn hh (g.turn []) (by simp)
  refine wp_append_own _ s x 32 ho B 23 i0 (.int .u32 0) 1 4 Tryz.underlying32 hi hz0 hz1 hz2 rfl (by decide) v l.length (l.flatMap ic2) hs hown ad 1 cp (ic2 c) hx rfl ?_ (by simp [ic2, Value.oneCell']) (by unfold maxLen; omega) (by omega) (Nat.le_trans hB g.2) ?_
  · intro j u hj
    exact hc j u hj
  · intro v' w' ho' hg' _
    refine h v' w' (RowU.snoc ho') ((TB.of_turn (g.turn []) (by simp)).trans (own_turn hown hg'))
theorem step_appV9 {w0 w : World} {ops : Array Oper} {o : Oper} {a : Act} {K : Act → World → Prop} {Q : Exit → Act → World → Prop} {E : Prop} (hgd : o.guard = none) (s x : Operand)
    (ho : o.op = .call { callee := .builtin .append, args := #[s, x], argTypes := #[33, 33] }) {B b : Nat} {v : Value} {l : List VT} {c : VT} {ad : Addr} {cp : Nat}
    (hs : a.eval s = v) (hx : a.eval x = .slice (some ad) 1 cp) (g : Grew w0 w) (hh : RowV B w0 v l) (hB : B ≤ w0.heap.size) (hc : ∀ (j : Nat) (u : Value), (VT.c c)[j]? = some u → w.cell? (ad.add j) = some u) (hlen : l.length ≤ 70000)
    (h : ∀ v' w', RowV B w' v' (l ++ [c]) → TB b B w0 w' → K (a.put o.dst v') w') :
    if Region.wanted o (yielded ops a.tmps) = true then Oper.wp Tryz.prog o a w K Q else E := by
  have hw : Region.wanted o (yielded ops a.tmps) = true := by simp [Region.wanted, hgd]
  rw [if_pos hw]
  obtain ⟨i0, hi, hz0, hz1, hz2⟩ := info_parts infoV
  have hown : w.ownsRow B 28 3 v l.length (l.flatMap VT.c) := row_turn hh (g.turn []) (by simp)
  refine wp_append_own _ s x 33 ho B 28 i0 (.agg #[.int .i64 0, .bool false, .int .i64 0]) 3 24 Tryz.underlying33 hi hz0 hz1 hz2 rfl (by decide) v l.length (l.flatMap VT.c) hs hown ad 1 cp (VT.c c) hx rfl ?_ (by simp [VT.c, Value.oneCell']) (by unfold maxLen; omega) (by omega) (Nat.le_trans hB g.2) ?_
  · intro j u hj
    exact hc j u hj
  · intro v' w' ho' hg' _
    refine h v' w' (RowV.snoc ho') ((TB.of_turn (g.turn []) (by simp)).trans (own_turn hown hg'))
end Go.Proofs.YtohapnninjdlfaaGreatDoor
