/-
  The document's reading of instructions: what stands behind an opcode; the tools; no statement is proved here.
-/
import Derived.Test.YtohapnninjdlfaaGreatDoorD9g
import Derived.Test.YtohapnninjdlfaaGreatDoorInI
namespace Go.Proofs.YtohapnninjdlfaaGreatDoor
open Go.RowKit
set_option linter.unusedVariables false
set_option linter.unusedSimpArgs false
set_option linter.constructorNameAsVariable false

/- An instruction under way: its block M, made behind the world w0 in which the reader stood. -/
structure S9I (w0 wb : World) (b M : Nat) (v : Value) (l : List Int) (w : World) (st : Except (Nat × Nat) Nat) (es : Array Value) : Prop where
  base : ∃ st0, D9 w0 b v l st0
  tn : Turn [b] w0 w
  di : D9 w b v l st
  io : w.heap[M]? = some (.cells es 36 (0, 0))
  sz : es.size = 17
  hM : w0.heap.size ≤ M
  one : ∀ (j : Nat) (u : Value), es[j]? = some u → u.oneCell' = true
  tm : Turn [b, M] wb w
theorem S9I.ne {w0 wb : World} {b M : Nat} {v : Value} {l : List Int} {w : World} {st : Except (Nat × Nat) Nat} {es : Array Value} (h : S9I w0 wb b M v l w st es) : ¬ M = b := by
  obtain ⟨s0, h0⟩ := h.base
  have := h0.lt
  have := h.hM
  omega
theorem S9I.step {w0 wb : World} {b M : Nat} {v : Value} {l : List Int} {w w1 : World} {st st1 : Except (Nat × Nat) Nat} {es : Array Value} (h : S9I w0 wb b M v l w st es) (f : Fin9 b v l w w1 st1) : S9I w0 wb b M v l w1 st1 es :=
  ⟨h.base, h.tn.trans f.1, f.2, f.1.other h.io (by simp; exact h.ne), h.sz, h.hM, h.one, h.tm.trans f.1.wide⟩
theorem S9I.grew {w0 wb : World} {b M : Nat} {v : Value} {l : List Int} {w w1 : World} {st : Except (Nat × Nat) Nat} {es : Array Value} (h : S9I w0 wb b M v l w st es) (g : Grew w w1) : S9I w0 wb b M v l w1 st es :=
  h.step ⟨g.turn _, h.di.grew g⟩
theorem S9I.set {w0 wb : World} {b M : Nat} {v : Value} {l : List Int} {w : World} {st : Except (Nat × Nat) Nat} {es : Array Value} (h : S9I w0 wb b M v l w st es) (j : Nat) (x : Value) (hx : x.oneCell' = true := by rfl) : S9I w0 wb b M v l (w.setCell ⟨M, j, none⟩ x) st (es.setIfInBounds j x) :=
  ⟨h.base, h.tn.set (p := ⟨M, j, none⟩) (Or.inr h.hM) x, by obtain ⟨s0, h0⟩ := h.base; exact h0.setN h.tn h.di M j h.hM x, heap_set h.io j x, by simp [h.sz], h.hM, one_set h.one j x hx, h.tm.set (p := ⟨M, j, none⟩) (Or.inl (by simp)) x⟩
theorem S9I.cell {w0 wb : World} {b M : Nat} {v : Value} {l : List Int} {w : World} {st : Except (Nat × Nat) Nat} {es : Array Value} (h : S9I w0 wb b M v l w st es) (j : Nat) (hj : j < 17) : ∃ u, w.cell? ⟨M, j, none⟩ = some u ∧ es[j]? = some u := by
  have hj' : j < es.size := by rw [h.sz]; exact hj
  exact ⟨es[j], by rw [cell_of h.io]; simp, by simp⟩
theorem S9I.low {w0 wb : World} {b M : Nat} {v : Value} {l : List Int} {w : World} {st : Except (Nat × Nat) Nat} {es : Array Value} (h : S9I w0 wb b M v l w st es) : w0.heap.size ≤ w.heap.size := h.tn.size
theorem word_is (op : Int) : BA (formD op) = BA (wordP (formP op)) := by rw [(form_same op).1]
set_option maxRecDepth 100000 in
set_option maxHeartbeats 2000000 in
theorem dref_any (nul : Bool) (hp : Int) (w : World) : Calls Tryz.prog 30 #[.bool nul, .int .i64 hp] w fun en w' => en = .returned (.agg #[.int .i64 5, .bool nul, .int .i64 hp]) ∧ Grew w w' := by
  go_enter Tryz.func30, Tryz.ntmps30
  go_wp2_with fail
  refine bodyPost_ret (v := .agg #[.int .i64 5, .bool nul, .int .i64 hp]) (by simp [results, Tryz.results30, go_sem]) rfl ?_
  exact ⟨rfl, (Grew.refl w).alloc _⟩
/- An instruction's rest that was read, or the fault. -/
def RsA (B : Nat) (R : RS IN) (es : Array Value) (w : World) : Except (Nat × Nat) Nat → Prop
  | .ok q => ∃ i lab ty ca, R = .ok (i, q) ∧ es = insA i lab ty ca ∧ RowU B w lab i.labels ∧ RowV B w ty i.types ∧ RowC B w ca i.catches
  | .error e => R = .error e
/- What a field has done. -/
def Fld9 {α : Type} (w0 wb : World) (b M : Nat) (v : Value) (l : List Int) (es : Array Value) (r : RS α) (P : α → World → Array Value → Prop) (en : Ending) (w' : World) : Prop :=
  en = .returned (.tuple #[]) ∧ ∃ y st es', S9I w0 wb b M v l w' st es' ∧ es'[0]? = es[0]? ∧ TieI r y st ∧ P y w' es'
theorem got_step9 {α : Type} {Rf : Nat → RS α} (up : IN → α → IN) {P : α → World → Array Value → Prop} {f : Int} {fs : List Int} {w0 : World} {b M : Nat} {v : Value} {l : List Int} {w w' : World} {st : Except (Nat × Nat) Nat} {es : Array Value} {R : RS IN} {op : Int} {first : Bool} {en : Ending}
    (hf : ∀ i q, fldR f i l q = mapR (up i) (Rf q)) (h : S9I w0 w b M v l w st es) (G : Got w0.heap.size l R op (f :: fs) first st es w) (F : Fld9 w0 w b M v l es (runI Rf st) P en w')
    (hP : ∀ i lab ty ca y es' q q', es = insA i lab ty ca → i.op = op → Rf q = .ok (y, q') → RowU w0.heap.size w' lab i.labels → RowV w0.heap.size w' ty i.types → RowC w0.heap.size w' ca i.catches → P y w' es' →
      ∃ lab' ty' ca', es' = insA (up i y) lab' ty' ca' ∧ (up i y).op = op ∧ RowU w0.heap.size w' lab' (up i y).labels ∧ RowV w0.heap.size w' ty' (up i y).types ∧ RowC w0.heap.size w' ca' (up i y).catches) :
    en = .returned (.tuple #[]) ∧ ∃ st' es', S9I w0 w b M v l w' st' es' ∧ Got w0.heap.size l R op fs false st' es' w' := by
  obtain ⟨rfl, y, st', es', S', h0, T, hPy⟩ := F
  refine ⟨rfl, st', es', S', h0.trans G.1, (fun hh => by cases hh), ?_⟩
  obtain ⟨_, _, g⟩ := G
  cases st' with
  | ok q' =>
    obtain ⟨q, rfl, hq⟩ := T.was
    obtain ⟨i, lab, ty, ca, e1, e2, r1, r2, r3, e3⟩ := g
    have hS : ∀ {e : TypeId}, 51 ≠ e → 36 ≠ e → ∀ x ∈ [b, M], NoT w x e := by
      intro e he1 he2 x hx
      simp at hx
      rcases hx with rfl | rfl
      · obtain ⟨a1, p1, e1, ho⟩ := h.di.obj
        exact NoT.of ho he1
      · exact NoT.of h.io he2
    obtain ⟨lab', ty', ca', e4, e5, q1, q2, q3⟩ := hP i lab ty ca y es' q q' e1 e2 hq (row_turn r1 S'.tm (hS (by decide) (by decide))) (row_turn r2 S'.tm (hS (by decide) (by decide))) (row_turn r3 S'.tm (hS (by decide) (by decide))) hPy
    refine ⟨up i y, lab', ty', ca', e4, e5, q1, q2, q3, ?_⟩
    rw [e3, foldF, hf, hq]
    rfl
  | error e =>
    cases st with
    | error e0 =>
      have : (.error e0 : RS α) = .error e := T
      injection this with this
      subst this
      exact g
    | ok q =>
      obtain ⟨i, lab, ty, ca, e1, e2, r1, r2, r3, e3⟩ := g
      have hq : Rf q = .error e := T
      show R = .error e
      rw [e3, foldF, hf, hq]
      rfl
theorem S9I.rebase {w0 wb : World} {b M : Nat} {v : Value} {l : List Int} {w : World} {st : Except (Nat × Nat) Nat} {es : Array Value} (h : S9I w0 wb b M v l w st es) : S9I w0 w b M v l w st es :=
  ⟨h.base, h.tn, h.di, h.io, h.sz, h.hM, h.one, Turn.refl _ _⟩
theorem es0_one (op : Int) : ∀ (j : Nat) (u : Value), (insA (IN0 op) NILS NILS NILS)[j]? = some u → u.oneCell' = true := by
  intro j u hu
  have hj : j < 17 := by
    rcases Nat.lt_or_ge j 17 with h1 | h1
    · exact h1
    · rw [Array.getElem?_eq_none (by simpa [insA] using h1)] at hu; cases hu
  have : j = 0 ∨ j = 1 ∨ j = 2 ∨ j = 3 ∨ j = 4 ∨ j = 5 ∨ j = 6 ∨ j = 7 ∨ j = 8 ∨ j = 9 ∨ j = 10 ∨ j = 11 ∨ j = 12 ∨ j = 13 ∨ j = 14 ∨ j = 15 ∨ j = 16 := by omega
  rcases this with rfl | rfl | rfl | rfl | rfl | rfl | rfl | rfl | rfl | rfl | rfl | rfl | rfl | rfl | rfl | rfl | rfl <;> (simp [insA] at hu; subst hu; rfl)
theorem two_alloc (w : World) (A B : Array Value) (t : TypeId) : Hid (Grew w ((w.alloc (.cells A t)).alloc (.cells B t))) ∧ Hid (((w.alloc (.cells A t)).alloc (.cells B t)).heap[w.heap.size]? = some (.cells A t (0, 0))) ∧ ((w.alloc (.cells A t)).alloc (.cells B t)).heap[w.heap.size + 1]? = some (.cells B t (0, 0)) := by
  refine ⟨((Grew.refl w).alloc _).alloc _, heap_alloc (heap_alloc_last _ _) _, ?_⟩
  have := heap_alloc_last (w.alloc (.cells A t)) (.cells B t)
  rwa [alloc_size] at this
end Go.Proofs.YtohapnninjdlfaaGreatDoor
