/-
  Rows of types, and what of composite types, types and groups lies in memory; no statement is proved here.
-/
import Derived.Test.YtbhbogfdnaadeaaDoorLstF
import Derived.Test.YtbhbogfdnaadeaaDoorLstI
namespace Go.Proofs.YtbhbogfdnaadeaaDoor
open Go.RowKit
set_option linter.unusedVariables false
set_option linter.unusedSimpArgs false
set_option linter.constructorNameAsVariable false

theorem RowV.turn {B : Nat} {w w' : World} {v : Value} {l : List VT} {S : List Nat} (h : RowV B w v l) (t : Turn S w w') (hS : ∀ x ∈ S, NoT w x 23) : RowV B w' v l := row_turn h t hS
theorem RowF.turn {B : Nat} {w w' : World} {v : Value} {l : List FT} {S : List Nat} (h : RowF B w v l) (t : Turn S w w') (hS : ∀ x ∈ S, NoT w x 154) : RowF B w' v l := row_turn h t hS
theorem RowI.turn {B : Nat} {w w' : World} {v : Value} {l : List Int} {S : List Nat} (h : RowI B w v l) (t : Turn S w w') (hS : ∀ x ∈ S, NoT w x 3) : RowI B w' v l := row_turn h t hS
theorem RowV.low {B B' : Nat} {w : World} {v : Value} {l : List VT} (h : RowV B w v l) (hb : B' ≤ B) : RowV B' w v l := row_low h hb
theorem RowF.low {B B' : Nat} {w : World} {v : Value} {l : List FT} (h : RowF B w v l) (hb : B' ≤ B) : RowF B' w v l := row_low h hb
theorem RowI.low {B B' : Nat} {w : World} {v : Value} {l : List Int} (h : RowI B w v l) (hb : B' ≤ B) : RowI B' w v l := row_low h hb
theorem Fin.grew {b : Nat} {v : Value} {l : List Int} {w w' w'' : World} {q : Nat} (h : Fin b v l w w' q) (g : Grew w' w'') : Fin b v l w w'' q := ⟨h.1.trans (g.turn _), h.2.grew g⟩
theorem row_new (w : World) (e : TypeId) (k : Nat) (hk : 0 < k) (cs : Array Value) (hc : cs.size = k) (h1 : ∀ u ∈ cs.toList, u.oneCell' = true) : (w.alloc (.cells cs e)).ownsRow w.heap.size e k (.slice (some ⟨w.heap.size, 0, none⟩) 1 1) 1 cs.toList := by
  refine ⟨by simp [hc], Or.inr ⟨w.heap.size, 1, cs, rfl, Nat.le_refl _, heap_alloc_last _ _, ?_⟩⟩
  refine ⟨Nat.le_refl _, by unfold maxLen; omega, ?_⟩
  simp [hc]
  exact List.take_of_length_le (by simp [hc])
/- The cells of a composite type; its rows lie from B on. -/
def CompC (B : Nat) (w : World) (cs : List Value) (x : CT) : Prop := ∃ pv rv fv, cs = [.int .i64 x.kind, pv, rv, fv] ∧ RowV B w pv x.params ∧ RowV B w rv x.results ∧ RowF B w fv x.fields
/- The cells of a type; its rows lie from B on. -/
def SubC (B : Nat) (w : World) (cs : List Value) (x : SB) : Prop := ∃ sv pv rv fv, cs = [.bool x.final_, sv, .int .i64 x.comp.kind, pv, rv, fv] ∧ RowI B w sv x.supers ∧ RowV B w pv x.comp.params ∧ RowV B w rv x.comp.results ∧ RowF B w fv x.comp.fields
theorem SubC.turn {B : Nat} {w w' : World} {cs : List Value} {x : SB} {S : List Nat} (h : SubC B w cs x) (t : Turn S w w') (h1 : ∀ y ∈ S, NoT w y 3) (h2 : ∀ y ∈ S, NoT w y 23) (h3 : ∀ y ∈ S, NoT w y 154) : SubC B w' cs x := by
  obtain ⟨sv, pv, rv, fv, e, a1, a2, a3, a4⟩ := h
  exact ⟨sv, pv, rv, fv, e, a1.turn t h1, a2.turn t h2, a3.turn t h2, a4.turn t h3⟩
theorem SubC.low {B B' : Nat} {w : World} {cs : List Value} {x : SB} (h : SubC B w cs x) (hb : B' ≤ B) : SubC B' w cs x := by
  obtain ⟨sv, pv, rv, fv, e, a1, a2, a3, a4⟩ := h
  exact ⟨sv, pv, rv, fv, e, a1.low hb, a2.low hb, a3.low hb, a4.low hb⟩
theorem SubC.grew {B : Nat} {w w' : World} {cs : List Value} {x : SB} (h : SubC B w cs x) (g : Grew w w') : SubC B w' cs x := h.turn (g.turn []) (by simp) (by simp) (by simp)
theorem CompC.turn {B : Nat} {w w' : World} {cs : List Value} {x : CT} {S : List Nat} (h : CompC B w cs x) (t : Turn S w w') (h2 : ∀ y ∈ S, NoT w y 23) (h3 : ∀ y ∈ S, NoT w y 154) : CompC B w' cs x := by
  obtain ⟨pv, rv, fv, e, a2, a3, a4⟩ := h
  exact ⟨pv, rv, fv, e, a2.turn t h2, a3.turn t h2, a4.turn t h3⟩
theorem CompC.low {B B' : Nat} {w : World} {cs : List Value} {x : CT} (h : CompC B w cs x) (hb : B' ≤ B) : CompC B' w cs x := by
  obtain ⟨pv, rv, fv, e, a2, a3, a4⟩ := h
  exact ⟨pv, rv, fv, e, a2.low hb, a3.low hb, a4.low hb⟩
theorem row_keep {w w' : World} {B B' : Nat} {e : TypeId} {k : Nat} {u v : Value} {n m : Nat} {cs ds : List Value} (h : w.ownsRow B e k u n cs) (hv : w.ownsRow B' 101 6 v m ds) (hne : 101 ≠ e) (hG : ∀ x < w.heap.size, some x ≠ v.ownBlock → w'.heap[x]? = w.heap[x]?) : w'.ownsRow B e k u n cs := by
  obtain ⟨h1, h2 | ⟨g, cap, cur, hu, hB, hg, h3⟩⟩ := h
  · exact ⟨h1, Or.inl h2⟩
  · refine ⟨h1, Or.inr ⟨g, cap, cur, hu, hB, (hG g (lt_of_obj hg) (fun hx => ?_)).trans hg, h3⟩⟩
    obtain ⟨_, ⟨rfl, _⟩ | ⟨g', cap', cur', rfl, _, hg', _⟩⟩ := hv
    · cases hx
    · have : g = g' := by simpa [Value.ownBlock] using hx
      subst this
      rw [hg] at hg'
      injection hg' with hg'
      injection hg' with _ h2 _
      exact hne h2.symm
theorem SubC.keep {B B' : Nat} {w w' : World} {cs ds : List Value} {x : SB} {v : Value} {m : Nat} (h : SubC B w cs x) (hv : w.ownsRow B' 101 6 v m ds) (hG : ∀ x < w.heap.size, some x ≠ v.ownBlock → w'.heap[x]? = w.heap[x]?) : SubC B w' cs x := by
  obtain ⟨sv, pv, rv, fv, e, a1, a2, a3, a4⟩ := h
  exact ⟨sv, pv, rv, fv, e, row_keep a1 hv (by decide) hG, row_keep a2 hv (by decide) hG, row_keep a3 hv (by decide) hG, row_keep a4 hv (by decide) hG⟩
def SubsQ (B : Nat) (w : World) (v : Value) (l : List SB) : Prop := ∃ cs, w.ownsRow B 101 6 v l.length cs ∧ ∀ i x, l[i]? = some x → SubC B w ((cs.drop (i * 6)).take 6) x
theorem SubsQ.nil (B : Nat) (w : World) : SubsQ B w (.slice none 0 0) [] := ⟨[], World.ownsRow_nil _ _ _ _, fun i x h => by simp at h⟩
theorem SubsQ.one {B : Nat} {w : World} {v : Value} {l : List SB} (h : SubsQ B w v l) : ∃ a c, v = .slice a l.length c := by
  obtain ⟨cs, h, _⟩ := h
  exact row_one h
theorem SubsQ.turn {B : Nat} {w w' : World} {v : Value} {l : List SB} {S : List Nat} (h : SubsQ B w v l) (t : Turn S w w') (h0 : ∀ y ∈ S, NoT w y 101) (h1 : ∀ y ∈ S, NoT w y 3) (h2 : ∀ y ∈ S, NoT w y 23) (h3 : ∀ y ∈ S, NoT w y 154) : SubsQ B w' v l := by
  obtain ⟨cs, a, b⟩ := h
  exact ⟨cs, row_turn a t h0, fun i x hx => (b i x hx).turn t h1 h2 h3⟩
theorem SubsQ.low {B B' : Nat} {w : World} {v : Value} {l : List SB} (h : SubsQ B w v l) (hb : B' ≤ B) : SubsQ B' w v l := by
  obtain ⟨cs, a, b⟩ := h
  exact ⟨cs, row_low a hb, fun i x hx => (b i x hx).low hb⟩
theorem SubsQ.snoc {B : Nat} {w w' : World} {v v' : Value} {l : List SB} {cs : List Value} {new : List Value} {x : SB} (h : w.ownsRow B 101 6 v l.length cs) (he : ∀ i x, l[i]? = some x → SubC B w ((cs.drop (i * 6)).take 6) x) (hx : SubC B w new x) (hn : new.length = 6)
    (h' : w'.ownsRow B 101 6 v' (l.length + 1) (cs ++ new)) (hG : ∀ x < w.heap.size, some x ≠ v.ownBlock → w'.heap[x]? = w.heap[x]?) : SubsQ B w' v' (l ++ [x]) := by
  refine ⟨cs ++ new, by rw [List.length_append]; exact h', fun i y hy => ?_⟩
  have hl : cs.length = l.length * 6 := h.1
  rcases Nat.lt_or_ge i l.length with hi | hi
  · rw [List.getElem?_append_left hi] at hy
    have e : ((cs ++ new).drop (i * 6)).take 6 = (cs.drop (i * 6)).take 6 := by
      rw [List.drop_append_of_le_length (by omega), List.take_append_of_le_length (by rw [List.length_drop]; omega)]
    rw [e]
    exact (he i y hy).keep h hG
  · rw [List.getElem?_append_right hi] at hy
    have hi0 : i - l.length = 0 := by
      rcases Nat.eq_zero_or_pos (i - l.length) with h0 | h0
      · exact h0
      · rw [List.getElem?_eq_none (by simp; omega)] at hy; cases hy
    rw [hi0] at hy
    simp only [List.getElem?_cons_zero, Option.some.injEq] at hy
    subst hy
    have hil : i = l.length := by omega
    subst hil
    have e : ((cs ++ new).drop (l.length * 6)).take 6 = new := by
      rw [← hl, List.drop_left, List.take_of_length_le (by omega)]
    rw [e]
    exact hx.keep h hG
theorem SubsQ.grew {B : Nat} {w w' : World} {v : Value} {l : List SB} (h : SubsQ B w v l) (g : Grew w w') : SubsQ B w' v l := h.turn (g.turn []) (by simp) (by simp) (by simp) (by simp)
/- The cells of a group. -/
def RecC (B : Nat) (w : World) (cs : List Value) (x : RT) : Prop := ∃ tv, cs = [tv, .bool x.explicit] ∧ SubsQ B w tv x.types
theorem RecC.turn {B : Nat} {w w' : World} {cs : List Value} {x : RT} {S : List Nat} (h : RecC B w cs x) (t : Turn S w w') (h0 : ∀ y ∈ S, NoT w y 101) (h1 : ∀ y ∈ S, NoT w y 3) (h2 : ∀ y ∈ S, NoT w y 23) (h3 : ∀ y ∈ S, NoT w y 154) : RecC B w' cs x := by
  obtain ⟨tv, e, a⟩ := h
  exact ⟨tv, e, a.turn t h0 h1 h2 h3⟩
def AnsX {α : Type} (C : Nat → World → List Value → α → Prop) (b : Nat) (v : Value) (l : List Int) (w : World) (r : RS α) (en : Ending) (w' : World) : Prop := match r with
  | .ok (x, q) => ∃ cs, en = .returned (.agg cs.toArray) ∧ C w.heap.size w' cs x ∧ Turn [b] w w' ∧ CU w' b v l q
  | .error (f, e) => en = .panicked (flt f e) ∧ Turn [b] w w'
theorem AnsX.er {α : Type} {C : Nat → World → List Value → α → Prop} {b : Nat} {v : Value} {l : List Int} {w : World} {r : RS α} {f e : Nat} {n : FuncId} {args : Array Value} (h : Calls Tryd.prog n args w (AnsX C b v l w r)) (hr : r = .error (f, e)) : Calls Tryd.prog n args w fun en w' => en = .panicked (flt f e) ∧ Turn [b] w w' := by subst hr; exact h
theorem AnsX.ok {α : Type} {C : Nat → World → List Value → α → Prop} {b : Nat} {v : Value} {l : List Int} {w : World} {r : RS α} {x : α} {q : Nat} {n : FuncId} {args : Array Value} (h : Calls Tryd.prog n args w (AnsX C b v l w r)) (hr : r = .ok (x, q)) : Calls Tryd.prog n args w fun en w' => ∃ cs, en = .returned (.agg cs.toArray) ∧ C w.heap.size w' cs x ∧ Turn [b] w w' ∧ CU w' b v l q := by subst hr; exact h
theorem AnsV.er {b : Nat} {v : Value} {l : List Int} {w : World} {r : RS (List VT)} {f e : Nat} {n : FuncId} {args : Array Value} (h : Calls Tryd.prog n args w (AnsV b v l w r)) (hr : r = .error (f, e)) : Calls Tryd.prog n args w fun en w' => en = .panicked (flt f e) ∧ Turn [b] w w' := by subst hr; exact h
theorem AnsV.ok {b : Nat} {v : Value} {l : List Int} {w : World} {r : RS (List VT)} {x : List VT} {q : Nat} {n : FuncId} {args : Array Value} (h : Calls Tryd.prog n args w (AnsV b v l w r)) (hr : r = .ok (x, q)) : Calls Tryd.prog n args w fun en w' => ∃ rv, en = .returned rv ∧ RowV w.heap.size w' rv x ∧ Turn [b] w w' ∧ CU w' b v l q := by subst hr; exact h
theorem AnsF.er {b : Nat} {v : Value} {l : List Int} {w : World} {r : RS (List FT)} {f e : Nat} {n : FuncId} {args : Array Value} (h : Calls Tryd.prog n args w (AnsF b v l w r)) (hr : r = .error (f, e)) : Calls Tryd.prog n args w fun en w' => en = .panicked (flt f e) ∧ Turn [b] w w' := by subst hr; exact h
theorem AnsF.ok {b : Nat} {v : Value} {l : List Int} {w : World} {r : RS (List FT)} {x : List FT} {q : Nat} {n : FuncId} {args : Array Value} (h : Calls Tryd.prog n args w (AnsF b v l w r)) (hr : r = .ok (x, q)) : Calls Tryd.prog n args w fun en w' => ∃ rv, en = .returned rv ∧ RowF w.heap.size w' rv x ∧ Turn [b] w w' ∧ CU w' b v l q := by subst hr; exact h
theorem AnsI.er {b : Nat} {v : Value} {l : List Int} {w : World} {r : RS (List Int)} {f e : Nat} {n : FuncId} {args : Array Value} (h : Calls Tryd.prog n args w (AnsI b v l w r)) (hr : r = .error (f, e)) : Calls Tryd.prog n args w fun en w' => en = .panicked (flt f e) ∧ Turn [b] w w' := by subst hr; exact h
theorem AnsI.ok {b : Nat} {v : Value} {l : List Int} {w : World} {r : RS (List Int)} {x : List Int} {q : Nat} {n : FuncId} {args : Array Value} (h : Calls Tryd.prog n args w (AnsI b v l w r)) (hr : r = .ok (x, q)) : Calls Tryd.prog n args w fun en w' => ∃ rv, en = .returned rv ∧ RowI w.heap.size w' rv x ∧ Turn [b] w w' ∧ CU w' b v l q := by subst hr; exact h
end Go.Proofs.YtbhbogfdnaadeaaDoor
