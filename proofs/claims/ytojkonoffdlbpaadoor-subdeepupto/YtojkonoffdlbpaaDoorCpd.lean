/-
  The program's copied; no statement is proved here.
-/
import Derived.Test.YtojkonoffdlbpaaDoorOwn
import Derived.Test.YtojkonoffdlbpaaDoorCut
namespace Go.Proofs.YtojkonoffdlbpaaDoor
open Go.RowKit
set_option linter.unusedVariables false
set_option linter.unusedSimpArgs false

def CT.cp (c : CT) : CT := ⟨c.kind, c.ofK.params.map VT.cnt, c.ofK.results.map VT.cnt, c.ofK.fields.map FT.cnt⟩
def SB.cp (x : SB) : SB := ⟨x.final_, x.supers, x.comp.cp⟩
theorem ofK_rd {w : World} {x : SB} {sv pv rv fv : Value} (h : SubR w x sv pv rv fv) : LV w (KP x.comp.kind pv) x.comp.ofK.params ∧ LV w (KP x.comp.kind rv) x.comp.ofK.results ∧ LF w (KF x.comp.kind fv) x.comp.ofK.fields := by
  obtain ⟨h1, h2, h3, h4⟩ := h
  unfold KP KF CT.ofK
  by_cases k1 : x.comp.kind = 1
  · rw [if_pos k1, if_pos k1, if_pos k1, if_neg (by omega)]
    exact ⟨h2, h3, Lst.nil _ _ _⟩
  · rw [if_neg k1, if_neg k1, if_neg k1]
    by_cases k2 : x.comp.kind = 2 ∨ x.comp.kind = 3
    · rw [if_pos k2, if_pos k2]
      exact ⟨Lst.nil _ _ _, Lst.nil _ _ _, h4⟩
    · rw [if_neg k2, if_neg k2]
      exact ⟨Lst.nil _ _ _, Lst.nil _ _ _, Lst.nil _ _ _⟩
theorem ofK_sml {x : SB} (h : Sml x) : x.comp.ofK.params.length ≤ 1048576 ∧ x.comp.ofK.results.length ≤ 1048576 ∧ x.comp.ofK.fields.length ≤ 1048576 := by
  obtain ⟨h1, h2, h3, h4⟩ := h
  unfold CT.ofK
  split
  · exact ⟨h2, h3, by simp⟩
  · split
    · exact ⟨by simp, by simp, h4⟩
    · exact ⟨by simp, by simp, by simp⟩
/- append([]int(nil), l...) inside a region that draws. -/
set_option maxRecDepth 100000 in
theorem step_appNil {ops : Array Oper} {o : Oper} {a : Act} {w : World} {K : Act → World → Prop} {Q : Exit → Act → World → Prop} {E : Prop} (hgd : o.guard = none) (s x : Operand)
    (ho : o.op = .call { callee := .builtin .append, args := #[s, x], argTypes := #[26, 26] }) {u : Value} {l : List Int}
    (hs : a.eval s = NILS) (hx : a.eval x = u) (hr : LI w u l) (hn : l.length ≤ 1048576)
    (h : ∀ ua uc w', RowI w.heap.size w' (.slice ua l.length uc) l → Grew w w' → K (a.put o.dst (.slice ua l.length uc)) w') :
    if Region.wanted o (yielded ops a.tmps) = true then Oper.wp Tryd.prog o a w K Q else E := by
  have hw : Region.wanted o (yielded ops a.tmps) = true := by simp [Region.wanted, hgd]
  rw [if_pos hw]
  obtain ⟨i0, hi0, hz0, hz1, hz2⟩ := info_parts infoI
  obtain ⟨a0, cap, rfl, hc1, hc2, hz', h3⟩ := hr
  cases a0 with
  | none =>
    obtain rfl := hz' rfl
    have : l = [] := List.eq_nil_of_length_eq_zero (by omega)
    subst this
    have := h none 0 w (RowI.nil _ _) (Grew.refl _)
    have hrun := run_append_owned_none (P := Tryd.prog) (w := w) w.heap.size 26 o.type 3 i0 1 Tryd.underlying26 hi0 NILS 0 [] (World.ownsRow_nil _ _ _ _)
    simp only [List.length_nil] at hx
    unfold Oper.wp
    simp [execOp, ho, resolve, invoke, builtin, hs, hx, hrun, Result.andThen]
    exact this
  | some ad =>
    have hlen : (l.flatMap ic1).length = l.length * 1 := by
      clear h h3 hx hn hc1
      induction l with
      | nil => simp
      | cons y l ih => rw [List.flatMap_cons, List.length_append, ih, List.length_cons]; simp [ic1]; omega
    refine wp_append_own _ s x 26 ho w.heap.size 3 i0 (.int .i64 0) 1 8 Tryd.underlying26 hi0 hz0 hz1 hz2 rfl (by decide) NILS 0 [] hs (World.ownsRow_nil _ _ _ _) ad l.length cap (l.flatMap ic1) hx hlen ?_ ?_ (by unfold maxLen; omega) (by omega) (Nat.le_refl _) ?_
    · intro j c hj
      have hjl := (List.getElem?_eq_some_iff.1 hj).1
      rw [hlen] at hjl
      rcases h3 with rfl | ⟨b', off, ha, hc⟩
      · simp at hj
      · injection ha with ha
        subst ha
        have e1 : (Addr.add ⟨b', off, none⟩ j) = ⟨b', off + j, none⟩ := by unfold Addr.add; split <;> simp_all
        have hq : j < l.length := by omega
        have hx' := hc j _ (List.getElem?_eq_getElem hq)
        unfold EI at hx'
        have := flat_at ic1 1 (fun _ => rfl) l j _ 0 (List.getElem?_eq_getElem hq) (by omega)
        rw [Nat.mul_one, Nat.add_zero] at this
        rw [Nat.mul_one] at hx'
        rw [e1, hx', ← hj, this]
        rfl
    · intro c hc
      obtain ⟨y, _, hy⟩ := List.mem_flatMap.1 hc
      exact one_i y c hy
    · intro v' w' ho' hg' _
      rw [Nat.zero_add, List.nil_append] at ho'
      obtain ⟨ua, uc, hu, _⟩ := row_max ho'
      subst hu
      exact h _ _ _ ho' ⟨⟨hg'.os, hg'.tape, hg'.output, hg'.size, fun k hk => hg'.block k hk (by simp [Value.ownBlock])⟩, hg'.size⟩
theorem cp_snoc {l : List SB} {m : List (SB × Q4)} {i : Nat} {x : SB} {q : Q4} (hx : l[i]? = some x) (hm : m.map Prod.fst = (l.take i).map SB.cp) : (m ++ [(x.cp, q)]).map Prod.fst = (l.take (i + 1)).map SB.cp := by
  rw [List.map_append, hm, take_snoc hx, List.map_append]; rfl
end Go.Proofs.YtojkonoffdlbpaaDoor
