/-
  Rows of numbers; steps inside regions that draw; the value of a type; no statement is proved here.
-/
import Derived.Test.YtmcljnohdknpoaaDoorCompX
import Derived.Deep.RegionLaw
namespace Go.Proofs.YtmcljnohdknpoaaDoor
open Go.RowKit
set_option linter.unusedVariables false
set_option linter.unusedSimpArgs false
set_option linter.constructorNameAsVariable false

theorem infoI : (Tryd.prog.info? 3).map (fun i => (i.zero, i.size, i.bytes)) = some (some (.int .i64 0), 1, 8) := by kernel_rfl
def RowI (B : Nat) (w : World) (v : Value) (l : List Int) : Prop := w.ownsRow B 3 1 v l.length (l.flatMap ic1)
theorem RowI.nil (B : Nat) (w : World) : RowI B w (.slice none 0 0) [] := World.ownsRow_nil _ _ _ _
theorem RowI.turn {B : Nat} {w w' : World} {v : Value} {l : List Int} {S : List Nat} (h : RowI B w v l) (t : Turn S w w') (hS : ∀ x ∈ S, NoT w x 3) : RowI B w' v l := row_turn h t hS
theorem RowI.grew {B : Nat} {w w' : World} {v : Value} {l : List Int} (h : RowI B w v l) (g : Grew w w') : RowI B w' v l := h.turn (g.turn []) (by simp)
theorem RowI.low {B B' : Nat} {w : World} {v : Value} {l : List Int} (h : RowI B w v l) (hb : B' ≤ B) : RowI B' w v l := row_low h hb
theorem RowI.snoc {B : Nat} {w : World} {v : Value} {l : List Int} {a : Int} (h : w.ownsRow B 3 1 v (l.length + 1) (l.flatMap ic1 ++ ic1 a)) : RowI B w v (l ++ [a]) := by
  unfold RowI
  rw [List.length_append, List.flatMap_append]
  simpa using h
theorem RD.noI {w : World} {b : Nat} {s : ByteArray} {p : Nat} (h : RD w b s p) : ∀ x ∈ [b], NoT w x 3 := by intro x hx; simp at hx; subst hx; exact NoT.of h.1 (by decide)
def sobj (f : Bool) (sv : Value) (k : Int) (pv rv fv : Value) : Obj := .cells #[.bool f, sv, .int .i64 k, pv, rv, fv] 62 (0, 0)
/- The cells of a type; its rows lie from B on. -/
def SubC (B : Nat) (w : World) (cs : List Value) (x : SB) : Prop := ∃ sv pv rv fv, cs = [.bool x.final_, sv, .int .i64 x.comp.kind, pv, rv, fv] ∧ RowI B w sv x.supers ∧ RowV B w pv x.comp.params ∧ RowV B w rv x.comp.results ∧ RowF B w fv x.comp.fields
def AnsB (b : Nat) (s : ByteArray) (w : World) (r : Except Nat (SB × Nat)) (en : Ending) (w' : World) : Prop := match r with
  | .ok (x, q) => ∃ cs, en = .returned (.agg cs.toArray) ∧ SubC w.heap.size w' cs x ∧ Turn [b] w w' ∧ RD w' b s q
  | .error f => en = .panicked (flt f) ∧ Turn [b] w w'
theorem call_num (p : Value) (w : World) : (callFunc 67 #[p]).run Tryd.prog w = .ok (.enter 67 #[p]) w := by kernel_rfl
theorem step_callF {f : Nat} {args : Array Value} {argTs : Array TypeId} {argOs : Array Operand} {R : Ending → World → Prop} {ops : Array Oper} {o : Oper} {a : Act} {w : World} {K : Act → World → Prop} {Q : Exit → Act → World → Prop} {E : Prop}
    (hop : o.op = .call { callee := .value (.func f), args := argOs, argTypes := argTs }) (hw : Region.wanted o (yielded ops a.tmps) = true) (hargs : argOs.map a.eval = args) (hf : (callFunc f args).run Tryd.prog w = .ok (.enter f args) w)
    (hc : Calls Tryd.prog f args w R) (h : ∀ e w', R e w' → (∃ u, e = .returned u ∧ K (a.put o.dst u) w') ∨ ∃ ch, e = .panicked ch ∧ Q (.panic ch) a w') :
    if Region.wanted o (yielded ops a.tmps) = true then Oper.wp Tryd.prog o a w K Q else E := by
  rw [if_pos hw]
  unfold Oper.wp
  subst hargs
  simp [execOp, hop, resolve, invoke, go_sem, hf, Oper.upon_enter]
  refine hc.mono ?_
  intro e w' he
  rcases h e w' he with ⟨u, rfl, hk⟩ | ⟨ch, rfl, hk⟩
  · exact hk
  · exact hk
/- A call of number inside a region that draws. -/
theorem step_num {ops : Array Oper} {o : Oper} {a : Act} {w : World} {K : Act → World → Prop} {Q : Exit → Act → World → Prop} {E : Prop} {R : Ending → World → Prop} (x : Operand) {v : Value}
    (hop : o.op = .call { callee := .value (.func 67), args := #[x], argTypes := #[47] }) (hg : o.guard = none) (hs : a.eval x = v) (hc : Calls Tryd.prog 67 #[v] w R)
    (h : ∀ e w', R e w' → (∃ u, e = .returned u ∧ K (a.put o.dst u) w') ∨ ∃ ch, e = .panicked ch ∧ Q (.panic ch) a w') :
    if Region.wanted o (yielded ops a.tmps) = true then Oper.wp Tryd.prog o a w K Q else E :=
  step_callF hop (by simp [Region.wanted, hg]) (args := #[v]) (by simp [hs]) (call_num v w) hc h
/- The call gives up: what follows it in the region is never reached. -/
theorem step_numBad {ops : Array Oper} {o : Oper} {a : Act} {w : World} {K : Act → World → Prop} {Q : Exit → Act → World → Prop} {E : Prop} {R : Ending → World → Prop} (x : Operand) {v : Value}
    (hop : o.op = .call { callee := .value (.func 67), args := #[x], argTypes := #[47] }) (hg : o.guard = none) (hs : a.eval x = v) (hc : Calls Tryd.prog 67 #[v] w R)
    (h : ∀ e w', R e w' → ∃ ch, e = .panicked ch ∧ Q (.panic ch) a w') (dead : Hid False → K (a.put o.dst (.int .i64 0)) w) :
    if Region.wanted o (yielded ops a.tmps) = true then Oper.wp Tryd.prog o a w K Q else E :=
  step_num x hop hg hs hc (fun e w' he => Or.inr (h e w' he))
theorem step_false (w1 : World) {ops : Array Oper} {o : Oper} {a : Act} {w : World} {K : Act → World → Prop} {Q : Exit → Act → World → Prop} {E : Prop} (hF : Hid False) (h : K (a.put o.dst (.slice none 0 0)) w1) :
    if Region.wanted o (yielded ops a.tmps) = true then Oper.wp Tryd.prog o a w K Q else E := hF.out.elim
theorem TB.any {b b' B : Nat} {w w' : World} (h : TB b' B w w') (hb : B ≤ b') : TB b B w w' := ⟨h.os, h.tape, h.output, h.size, fun k hk _ h2 => h.block k hk (by omega) h2⟩
/- An append of one number inside a region that draws. -/
theorem step_appI {w0 w : World} {ops : Array Oper} {o : Oper} {a : Act} {K : Act → World → Prop} {Q : Exit → Act → World → Prop} {E : Prop} (hgd : o.guard = none) (s x : Operand)
    (ho : o.op = .call { callee := .builtin .append, args := #[s, x], argTypes := #[56, 56] }) {B b : Nat} {v : Value} {l : List Int} {c : Int} {ad : Addr} {cp : Nat}
    (hs : a.eval s = v) (hx : a.eval x = .slice (some ad) 1 cp) (g : Grew w0 w) (hh : RowI B w0 v l) (hB : B ≤ w0.heap.size) (hc : w.cell? ad = some (.int .i64 c)) (hlen : l.length ≤ 70000)
    (h : ∀ v' w', RowI B w' v' (l ++ [c]) → TB b B w0 w' → K (a.put o.dst v') w') :
    if Region.wanted o (yielded ops a.tmps) = true then Oper.wp Tryd.prog o a w K Q else E := by
  have hw : Region.wanted o (yielded ops a.tmps) = true := by simp [Region.wanted, hgd]
  rw [if_pos hw]
  obtain ⟨i0, hi, hz0, hz1, hz2⟩ := info_parts infoI
  have hown : w.ownsRow B 3 1 v l.length (l.flatMap ic1) := hh.grew g
  refine wp_append_own _ s x 56 ho B 3 i0 (.int .i64 0) 1 8 Tryd.underlying56 hi hz0 hz1 hz2 rfl (by decide) v l.length (l.flatMap ic1) hs hown ad 1 cp [.int .i64 c] hx rfl ?_ (by simp [Value.oneCell']) (by unfold maxLen; omega) (by omega) (Nat.le_trans hB g.2) ?_
  · intro j u hj
    match j, hj with
    | 0, hj => simp at hj; subst hj; simpa [Addr.add] using hc
  · intro v' w' ho' hg' _
    refine h v' w' (RowI.snoc ho') ((TB.of_turn (g.turn []) (by simp)).trans (own_turn hown hg'))
end Go.Proofs.YtmcljnohdknpoaaDoor
