/-
  The program's abstract, counted, ofKind, copiedVals, copiedFields; no statement is proved here.
-/
import Derived.Test.YtojkonoffdlbpaaDoorDCl
import Derived.Deep.RegionHeld3
namespace Go.Proofs.YtojkonoffdlbpaaDoor
open Go.RowKit
set_option linter.unusedVariables false
set_option linter.unusedSimpArgs false

def absB (h : Int) : Bool := decide (-12 ≤ h) && decide (h ≤ -1)
def VT.cnt (x : VT) : VT := if x.num = 5 then x else ⟨x.num, false, 0⟩
def FT.cnt (x : FT) : FT := ⟨x.ty.cnt, x.mut_⟩
def CT.ofK (c : CT) : CT := if c.kind = 1 then ⟨c.kind, c.params, c.results, []⟩ else if c.kind = 2 ∨ c.kind = 3 then ⟨c.kind, [], [], c.fields⟩ else ⟨c.kind, [], [], []⟩
set_option maxRecDepth 100000 in
theorem abstract_any (h : Int) (w : World) : Calls Tryd.prog 49 #[.int .i64 h] w fun en w' => en = .returned (.bool (absB h)) ∧ w' = w := by
  by_cases h1 : -12 ≤ h
  · by_cases h2 : h ≤ -1
    · have e : absB h = true := by unfold absB; simp; omega
      rw [e]
      go_enter Tryd.func49, Tryd.ntmps49
      go_wp2_with fail
      go_ret
      exact ⟨rfl, rfl⟩
    · have e : absB h = false := by unfold absB; simp; omega
      rw [e]
      go_enter Tryd.func49, Tryd.ntmps49
      go_wp2_with fail
      go_ret
      exact ⟨rfl, rfl⟩
  · have e : absB h = false := by unfold absB; simp; omega
    rw [e]
    go_enter Tryd.func49, Tryd.ntmps49
    go_wp2_with fail
    go_ret
    exact ⟨rfl, rfl⟩
def KP (k : Int) (v : Value) : Value := if k = 1 then v else NILS
def KF (k : Int) (v : Value) : Value := if k = 2 ∨ k = 3 then v else NILS
set_option maxRecDepth 100000 in
theorem ofKind_any (k : Int) (pv rv fv : Value) (w : World) (hp : ∃ a n c, pv = .slice a n c) (hr : ∃ a n c, rv = .slice a n c) (hf : ∃ a n c, fv = .slice a n c) :
    Calls Tryd.prog 41 #[.agg #[.int .i64 k, pv, rv, fv]] w fun en w' => en = .returned (.agg #[.int .i64 k, KP k pv, KP k rv, KF k fv]) ∧ Grew w w' := by
  obtain ⟨pa, pn, pc, rfl⟩ := hp
  obtain ⟨ra, rn, rc, rfl⟩ := hr
  obtain ⟨fa, fn, fc, rfl⟩ := hf
  unfold KP KF
  by_cases h1 : k = 1
  · subst h1
    rw [if_pos rfl, if_pos rfl, if_neg (by decide)]
    go_enter Tryd.func41, Tryd.ntmps41
    go_wp2_with fail
    refine bodyPost_ret (v := .agg #[.int .i64 1, .slice pa pn pc, .slice ra rn rc, NILS]) (by simp [results, Tryd.results41, go_sem]) rfl ?_
    exact ⟨rfl, ((Grew.refl w).alloc _).alloc _⟩
  · rw [if_neg h1, if_neg h1]
    by_cases h2 : k = 2
    · subst h2
      rw [if_pos (Or.inl rfl)]
      go_enter Tryd.func41, Tryd.ntmps41
      go_wp2_with fail
      refine bodyPost_ret (v := .agg #[.int .i64 2, NILS, NILS, .slice fa fn fc]) (by simp [results, Tryd.results41, go_sem]) rfl ?_
      exact ⟨rfl, ((Grew.refl w).alloc _).alloc _⟩
    · by_cases h3 : k = 3
      · subst h3
        rw [if_pos (Or.inr rfl)]
        go_enter Tryd.func41, Tryd.ntmps41
        go_wp2_with fail
        refine bodyPost_ret (v := .agg #[.int .i64 3, NILS, NILS, .slice fa fn fc]) (by simp [results, Tryd.results41, go_sem]) rfl ?_
        exact ⟨rfl, ((Grew.refl w).alloc _).alloc _⟩
      · rw [if_neg (by omega)]
        have d1 : (k == 1) = false := by simpa using h1
        have d2 : (k == 2) = false := by simpa using h2
        have d3 : (k == 3) = false := by simpa using h3
        go_enter Tryd.func41, Tryd.ntmps41
        go_wp2_with fail
        refine bodyPost_ret (v := .agg #[.int .i64 k, NILS, NILS, NILS]) (by simp [results, Tryd.results41, go_sem]) rfl ?_
        exact ⟨rfl, ((Grew.refl w).alloc _).alloc _⟩
theorem step_callF {f : Nat} {args : Array Value} {argTs : Array TypeId} {argOs : Array Operand} {R : Ending → World → Prop} {ops : Array Oper} {o : Oper} {a : Act} {w : World} {K : Act → World → Prop} {Q : Exit → Act → World → Prop} {E : Prop}
    (hop : o.op = .call { callee := .value (.func f), args := argOs, argTypes := argTs }) (hw : Region.wanted o (yielded ops a.tmps) = true) (hargs : argOs.map a.eval = args) (hf : (callFunc f args).run Tryd.prog w = .ok (.enter f args) w)
    (hc : Calls Tryd.prog f args w R) (h : ∀ e w', R e w' → (∃ u, e = .returned u ∧ K (a.put o.dst u) w') ∨ ∃ ch, e = .panicked ch ∧ Q (.panic ch) a w') :
    if Region.wanted o (yielded ops a.tmps) = true then Oper.wp Tryd.prog o a w K Q else E := by
  rw [if_pos hw]
  unfold Oper.wp
  subst hargs
  simp [execOp, hop, resolve, invoke, go_sem, hf, Oper.upon_enter]
  refine hc.mono ?_
  intro e w' he
  rcases h e w' he with ⟨u, rfl, hk⟩ | ⟨ch, rfl, hk⟩
  · exact hk
  · exact hk
/- An append of one element inside a region that draws. -/
theorem step_app1 {ops : Array Oper} {o : Oper} {a : Act} {w : World} {K : Act → World → Prop} {Q : Exit → Act → World → Prop} {E : Prop} (hgd : o.guard = none) (s x : Operand) (t e : TypeId) (k bytes : Nat) (z : Value)
    (hu : Tryd.prog.underlying t = some (.slice e)) (hi : (Tryd.prog.info? e).map (fun i => (i.zero, i.size, i.bytes)) = some (some z, k, bytes)) (hz : z.cells.size = k) (hk : 0 < k) (hbt : bytes ≤ 1000)
    (ho : o.op = .call { callee := .builtin .append, args := #[s, x], argTypes := #[t, t] }) {B : Nat} {v : Value} {n : Nat} {cs new : List Value} {gx cp : Nat} (b : Nat)
    (hs : a.eval s = v) (hx : a.eval x = .slice (some ⟨gx, 0, none⟩) 1 cp) (hh : w.ownsRow B e k v n cs) (hB : B ≤ w.heap.size) (hsz : new.length = k) (hc : ∀ j, j < k → w.cell? ⟨gx, j, none⟩ = new[j]?) (h1 : ∀ u ∈ new, u.oneCell' = true) (hn : n ≤ 4194304)
    (h : ∀ v' w', w'.ownsRow B e k v' (n + 1) (cs ++ new) → TB b B w w' → (∀ x < w.heap.size, some x ≠ v.ownBlock → w'.heap[x]? = w.heap[x]?) → K (a.put o.dst v') w') :
    if Region.wanted o (yielded ops a.tmps) = true then Oper.wp Tryd.prog o a w K Q else E := by
  have hw : Region.wanted o (yielded ops a.tmps) = true := by simp [Region.wanted, hgd]
  rw [if_pos hw]
  obtain ⟨i0, hi0, hz0, hz1, hz2⟩ := info_parts hi
  refine wp_append_own _ s x t ho B e i0 z k bytes hu hi0 hz0 hz1 hz2 hz hk v n cs hs hh ⟨gx, 0, none⟩ 1 cp new hx (by omega) ?_ h1 (by unfold maxLen; omega) ?_ hB ?_
  · intro j u hj
    have hjl := (List.getElem?_eq_some_iff.1 hj).1
    have e1 : (Addr.add ⟨gx, 0, none⟩ j) = ⟨gx, j, none⟩ := by unfold Addr.add; split <;> simp_all
    rw [e1, hc j (by omega)]
    exact hj
  · have : (n + 1) * bytes ≤ 4194305 * 1000 := Nat.mul_le_mul (by omega) hbt
    omega
  · intro v' w' ho' hg' _
    exact h v' w' ho' (own_turn hh hg') (fun x hx hne => hg'.block x hx hne)
end Go.Proofs.YtojkonoffdlbpaaDoor
