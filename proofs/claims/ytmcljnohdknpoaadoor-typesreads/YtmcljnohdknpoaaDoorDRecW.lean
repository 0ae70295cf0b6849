/-
  The document's reading: what the walk of ParseRec leans on; no statement is proved here.
-/
import Derived.Test.YtmcljnohdknpoaaDoorDSub
import Derived.Test.YtmcljnohdknpoaaDoorRecP
namespace Go.Proofs.YtmcljnohdknpoaaDoor
open Go.RowKit
set_option linter.unusedVariables false
set_option linter.unusedSimpArgs false
set_option linter.constructorNameAsVariable false

theorem map_tied2 {α β : Type} {f : Nat → Except Nat (α × Nat)} {g : Nat → Except Nat (β × Nat)} {u : α → β} {p p' : Nat} {a : α} {st' : Except Nat Nat} (hg : g p = mapS u (f p')) (h : Tied f (.ok p') a st') : Tied g (.ok p) (u a) st' := by
  cases hf : f p' with
  | error e =>
    rw [hf] at hg
    have := h.er hf
    subst this
    exact Tied.bad hg
  | ok y =>
    obtain ⟨a', q⟩ := y
    rw [hf] at hg
    obtain ⟨rfl, rfl⟩ := h.ok hf
    exact Tied.mk hg
theorem rec_else {s : ByteArray} {p : Nat} (hW : isB s WREC (mustS s LP (.ok p)) = false) {y : SB} {st2 : Except Nat Nat} (h : Tied (subS s) (mustS s LP (.ok p)) y st2) : Tied (recS s) (.ok p) (⟨[y], false⟩ : RT) st2 := by
  by_cases hL : tk s p = LP
  · rw [must_ok hL (by decide)] at hW h
    have h2 : tk s (nx s p) ≠ WREC := fun hh => by rw [isB_of _ (by decide), decide_eq_true hh] at hW; cases hW
    refine map_tied2 (u := fun x => (⟨[x], false⟩ : RT)) ?_ h
    unfold recS
    rw [if_pos hL, if_neg h2]
  · rw [must_er hL] at h
    have h' : st2 = .error p := h
    subst h'
    apply Tied.bad
    unfold recS
    rw [if_neg hL]
theorem rec_then {s : ByteArray} {p : Nat} (hL : tk s p = LP) (hW : tk s (nx s p) = WREC) {l : List SB} {st2 : Except Nat Nat} (h : Tied (uptoS s (memS s) []) (.ok (nx s (nx s p))) l st2) : Tied (recS s) (.ok p) (⟨l, true⟩ : RT) st2 := by
  refine map_tied2 (u := fun l => (⟨l, true⟩ : RT)) ?_ h
  unfold recS
  rw [if_pos hL, if_pos hW]
theorem mem_tied {s : ByteArray} {q : Nat} (hL : tk s q = LP) {y : SB} {st2 : Except Nat Nat} (h : Tied (subS s) (.ok (nx s q)) y st2) : Tied (memS s) (.ok q) y st2 := by
  refine tied_eq ?_ h
  unfold memS
  rw [if_pos hL]
theorem mem_end {s : ByteArray} {l : List SB} {q : Nat} (hq : q ≤ s.size) (hL : tk s q ≠ LP) : Tied (uptoS s (memS s) l) (.ok q) l (mustS s RP (.ok q)) := by
  by_cases hR : tk s q = RP
  · rw [must_ok hR (by decide)]
    exact up_end (mem_adv s) l hq hR
  · rw [must_er hR]
    refine up_tied (mem_adv s) hq hR (a := (⟨false, [], ⟨0, [], [], []⟩⟩ : SB)) (st1 := .error q) (Tied.bad ?_) l _ rfl
    unfold memS
    rw [if_neg hL]
/- What ParseRec tells of a state and an answer. -/
def fin2 (x : RT) : Except Nat Nat → RT × Nat × Nat
  | .ok _ => (x, 0, 0)
  | .error f => (zr, f, 4)
theorem parseR_tied {s : ByteArray} {x : RT} {st : Except Nat Nat} (hat : ∀ q, st = .ok q → At s q) (h : Tied (recS s) (.ok (skp s 0)) x st) : parseR s = fin2 x (doneT s st) := by
  unfold parseR
  cases hr : recS s (skp s 0) with
  | error f =>
    have := h.er hr
    subst this
    rfl
  | ok y =>
    obtain ⟨v, q⟩ := y
    obtain ⟨rfl, rfl⟩ := h.ok hr
    rw [done_tie (hat q rfl)]
    by_cases ht : tk s q = ⟨#[]⟩
    · simp only [if_pos ht]
      rfl
    · simp only [if_neg ht]
      rfl
/- The value under way M, the result's block and the reading. -/
def CR (w : World) (b M : Nat) (s : ByteArray) (o : Obj) (st : Except Nat Nat) (w' : World) : Prop := w'.heap[M]? = some o ∧ w'.heap[w.heap.size]? = some (robj NILS false) ∧ M + 1 ≤ w'.heap.size ∧ Grew w w' ∧ ST w' b s st
theorem CR.next {w : World} {b M : Nat} {s : ByteArray} {o : Obj} {st st' : Except Nat Nat} {w1 w2 : World} (h : CR w b M s o st w1) (t : Turn [b] w1 w2) (s2 : ST w2 b s st') (hb : w.heap.size < b) (hM : b < M) : CR w b M s o st' w2 :=
  ⟨t.other h.1 (by simp; omega), t.other h.2.1 (by simp; omega), Nat.le_trans h.2.2.1 t.size, t.grew h.2.2.2.1 (by intro x hx; simp at hx; omega), s2⟩
theorem CR.app {w : World} {b M : Nat} {s : ByteArray} {o : Obj} {st : Except Nat Nat} {w1 w2 : World} (h : CR w b M s o st w1) (t : TB (M + 1) (M + 1) w1 w2) (hb : w.heap.size < b) (hM : b < M) : CR w b M s o st w2 := by
  have tt : Turn [b] w w2 := TB.turn (t.any (Nat.le_refl _)) (h.2.2.2.1.turn _) (by omega)
  refine ⟨t.other h.1 (by omega) (by omega), t.other h.2.1 (by omega) (by omega), Nat.le_trans h.2.2.1 t.size, tt.grew (Grew.refl w) (by intro x hx; simp at hx; omega), h.2.2.2.2.tb (t.block b ?_ (by omega) (by omega))⟩
  have := h.2.2.1
  omega
theorem CR.set {w : World} {b M : Nat} {s : ByteArray} {o : Obj} {st : Except Nat Nat} {w1 : World} (h : CR w b M s o st w1) (hb : w.heap.size < b) (hM : b < M) (i : Nat) (x : Value) {o' : Obj} (ho : (w1.setCell ⟨M, i, none⟩ x).heap[M]? = some o') : CR w b M s o' st (w1.setCell ⟨M, i, none⟩ x) :=
  ⟨ho, heap_other h.2.1 (by simp; omega) x, by simpa using h.2.2.1, h.2.2.2.1.set (p := ⟨M, i, none⟩) (by simp; omega) x, h.2.2.2.2.set (q := ⟨M, i, none⟩) (by simp; omega) x⟩
theorem robj_set0 {w : World} {M : Nat} {v : Value} {e : Bool} (h : w.heap[M]? = some (robj v e)) (x : Value) : (w.setCell ⟨M, 0, none⟩ x).heap[M]? = some (robj x e) := by rw [heap_set h]; rfl
theorem robj_set1 {w : World} {M : Nat} {v : Value} {e : Bool} (h : w.heap[M]? = some (robj v e)) (x : Bool) : (w.setCell ⟨M, 1, none⟩ (.bool x)).heap[M]? = some (robj v x) := by rw [heap_set h]; rfl
theorem SubsQ.next {B : Nat} {w1 w2 : World} {v : Value} {l : List SB} {b : Nat} {s : ByteArray} {st : Except Nat Nat} (h : SubsQ B w1 v l) (t : Turn [b] w1 w2) (s1 : ST w1 b s st) : SubsQ B w2 v l := h.turn t (s1.no (by decide)) (s1.no (by decide)) (s1.no (by decide)) (s1.no (by decide))
theorem SubsQ.setR {B : Nat} {w : World} {v : Value} {l : List SB} (h : SubsQ B w v l) {q : Addr} {tv : Value} {e : Bool} (hq : w.heap[q.block]? = some (robj tv e)) (u : Value) : SubsQ B (w.setCell q u) v l := h.set hq (by decide) (by decide) (by decide) (by decide) u
theorem call_dsub (p : Value) (w : World) : (callFunc 30 #[p]).run Tryd.prog w = .ok (.enter 30 #[p]) w := by kernel_rfl
theorem step_sub {ops : Array Oper} {o : Oper} {a : Act} {w : World} {K : Act → World → Prop} {Q : Exit → Act → World → Prop} {E : Prop} {R : Ending → World → Prop} (x : Operand) {v : Value}
    (hop : o.op = .call { callee := .value (.func 30), args := #[x], argTypes := #[48] }) (hg : o.guard = none) (hs : a.eval x = v) (hc : Calls Tryd.prog 30 #[v] w R)
    (h : ∀ e w', R e w' → ∃ u, e = .returned u ∧ K (a.put o.dst u) w') :
    if Region.wanted o (yielded ops a.tmps) = true then Oper.wp Tryd.prog o a w K Q else E :=
  step_callF hop (by simp [Region.wanted, hg]) (args := #[v]) (by simp [hs]) (call_dsub v w) hc (fun e w' he => Or.inl (h e w' he))
/- An append of one type inside a region that draws. -/
theorem step_appS {w0 w : World} {ops : Array Oper} {o : Oper} {a : Act} {K : Act → World → Prop} {Q : Exit → Act → World → Prop} {E : Prop} (hgd : o.guard = none) (s x : Operand)
    (ho : o.op = .call { callee := .builtin .append, args := #[s, x], argTypes := #[31, 31] }) {B : Nat} {v : Value} {l : List SB} {y : SB} {new : List Value} {gg cp : Nat}
    (hs : a.eval s = v) (hx : a.eval x = .slice (some ⟨gg, 0, none⟩) 1 cp) (g : Grew w0 w) (hh : SubsQ B w0 v l) (hB : B ≤ w0.heap.size) (hy : SubC B w0 new y) (hc : ∀ j u, new[j]? = some u → w.cell? ⟨gg, j, none⟩ = some u) (hlen : l.length < 70000)
    (h : ∀ v' w', SubsQ B w' v' (l ++ [y]) → (∀ b, TB b B w0 w') → K (a.put o.dst v') w') :
    if Region.wanted o (yielded ops a.tmps) = true then Oper.wp Tryd.prog o a w K Q else E := by
  have hw : Region.wanted o (yielded ops a.tmps) = true := by simp [Region.wanted, hgd]
  rw [if_pos hw]
  obtain ⟨i0, hi, hz0, hz1, hz2⟩ := info_parts infoS
  obtain ⟨cs, d1, d2⟩ := hh
  have hown : w.ownsRow B 62 6 v l.length cs := row_turn d1 (g.turn []) (by simp)
  have hn6 : new.length = 6 := by
    obtain ⟨sv, pv, rv, fv, rfl, _⟩ := hy
    rfl
  have h1 : ∀ u ∈ new, u.oneCell' = true := by
    obtain ⟨sv, pv, rv, fv, rfl, z1, z2, z3, z4⟩ := hy
    intro u hu
    simp at hu
    rcases hu with rfl | rfl | rfl | rfl | rfl | rfl
    · rfl
    · exact row_cell z1
    · rfl
    · exact row_cell z2
    · exact row_cell z3
    · exact row_cell z4
  refine wp_append_own _ s x 31 ho B 62 i0 _ 6 112 Tryd.underlying31 hi hz0 hz1 hz2 rfl (by decide) v l.length cs hs hown ⟨gg, 0, none⟩ 1 cp new hx (by omega) ?_ h1 (by unfold maxLen; omega) (by omega) (Nat.le_trans hB g.2) ?_
  · intro j u hj
    have e : (Addr.add ⟨gg, 0, none⟩ j) = ⟨gg, j, none⟩ := by unfold Addr.add; split <;> simp_all
    rw [e]
    exact hc j u hj
  · intro v' w' ho' hg' _
    have hG : ∀ x < w0.heap.size, some x ≠ v.ownBlock → w'.heap[x]? = w0.heap[x]? := fun x hx hne => (hg'.block x (Nat.lt_of_lt_of_le hx g.2) hne).trans ((g.turn []).block x hx (by simp))
    exact h v' w' (SubsQ.snoc d1 d2 hy hn6 ho' hG) (fun b => (TB.of_turn (g.turn []) (by simp)).trans (own_turn hown hg'))
end Go.Proofs.YtmcljnohdknpoaaDoor
