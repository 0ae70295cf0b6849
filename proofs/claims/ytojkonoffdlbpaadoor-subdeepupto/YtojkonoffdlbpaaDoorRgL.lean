/-
  A range over a function of an order's own: a contract for iterators and a law for their callers; no statement is proved here.
-/
import Derived.Test.YtojkonoffdlbpaaDoorOrdC
import Derived.RangeFuncNested
import Derived.RangeFuncBound
import Derived.RangeFuncCalls
import Derived.RangeFuncLeaves
import Derived.Shelf.Abstract
import Derived.Shelf.RegionOpen
import Derived.OwnWalkIn
import Derived.TacticsInMore
import Derived.LoopNIn
import Derived.LoopIn
namespace Go.Proofs.YtojkonoffdlbpaaDoor
open Go.RowKit Go.Shelf
set_option linter.unusedVariables false
set_option linter.unusedSimpArgs false

/- What is no cells lies as it lay, but for X. -/
def KX (X : Nat → Prop) (A B : World) : Prop := A.heap.size ≤ B.heap.size ∧ ∀ (k : Nat) (o : Obj), A.heap[k]? = some o → o.isCells = false → ¬ X k → B.heap[k]? = some o
/- Cells lie as they lay, and so does all below N. -/
structure GN (N : Nat) (A B : World) : Prop where
  os : B.os = A.os
  tape : B.tape = A.tape
  output : B.output = A.output
  size : A.heap.size ≤ B.heap.size
  block : ∀ (k : Nat) (o : Obj), A.heap[k]? = some o → (k < N ∨ o.isCells = true) → B.heap[k]? = some o
/- Cells lie as they lay but for the order's object, of which the ids alone may turn. -/
def KC (ob : Nat) (A B : World) : Prop := (∀ (k : Nat) (o : Obj), k ≠ ob → A.heap[k]? = some o → o.isCells = true → B.heap[k]? = some o) ∧ ∀ v tv iv, A.heap[ob]? = some (oobj v tv iv) → ∃ iv', B.heap[ob]? = some (oobj v tv iv')
theorem KX.refl (X : Nat → Prop) (A : World) : KX X A A := ⟨Nat.le_refl _, fun _ _ h _ _ => h⟩
theorem KX.trans {X : Nat → Prop} {A B C : World} (h : KX X A B) (k : KX X B C) : KX X A C := ⟨Nat.le_trans h.1 k.1, fun i o h1 h2 h3 => k.2 i o (h.2 i o h1 h2 h3) h2 h3⟩
theorem KX.mono {X Y : Nat → Prop} {A B : World} (h : KX X A B) (hs : ∀ k, X k → Y k) : KX Y A B := ⟨h.1, fun i o h1 h2 h3 => h.2 i o h1 h2 (fun hx => h3 (hs i hx))⟩
theorem KX.put {X : Nat → Prop} (A : World) {l : Nat} (o : Obj) (h : X l) : KX X A (A.putObj l o) := ⟨by simp, fun i o' h1 _ h3 => (World.putObj_heap_other (fun e => h3 (by rw [e]; exact h))).trans h1⟩
theorem Grew.kx {A B : World} (g : Grew A B) (X : Nat → Prop) : KX X A B := ⟨g.2, fun k o h _ _ => g.other h⟩
theorem GN.refl (N : Nat) (A : World) : GN N A A := ⟨rfl, rfl, rfl, Nat.le_refl _, fun _ _ h _ => h⟩
theorem GN.trans {N : Nat} {A B C : World} (h : GN N A B) (k : GN N B C) : GN N A C := ⟨k.os.trans h.os, k.tape.trans h.tape, k.output.trans h.output, Nat.le_trans h.size k.size, fun i o h1 h2 => k.block i o (h.block i o h1 h2) h2⟩
theorem GN.mono {N M : Nat} {A B : World} (h : GN N A B) (hm : M ≤ N) : GN M A B := ⟨h.os, h.tape, h.output, h.size, fun i o h1 h2 => h.block i o h1 (h2.imp (fun h => by omega) id)⟩
theorem Grew.gn {A B : World} (g : Grew A B) (N : Nat) : GN N A B := ⟨g.1.os, g.1.tape, g.1.output, g.2, fun k o h _ => g.other h⟩
theorem GN.put {N : Nat} {A : World} {l : Nat} {o : Obj} (h : A.heap[l]? = some o) (ho : o.isCells = false) (hl : N ≤ l) (o' : Obj) : GN N A (A.putObj l o') :=
  ⟨rfl, rfl, rfl, by simp, fun k u h1 h2 => (World.putObj_heap_other (fun e => by
    subst e
    rw [h] at h1
    injection h1 with h1
    subst h1
    rcases h2 with h2 | h2
    · omega
    · rw [ho] at h2; cases h2)).trans h1⟩
theorem KC.refl (ob : Nat) (A : World) : KC ob A A := ⟨fun _ _ _ h _ => h, fun v tv iv h => ⟨iv, h⟩⟩
theorem KC.trans {ob : Nat} {A B C : World} (h : KC ob A B) (k : KC ob B C) : KC ob A C :=
  ⟨fun i o h0 h1 h2 => k.1 i o h0 (h.1 i o h0 h1 h2) h2, fun v tv iv h1 => by
    obtain ⟨iv', h2⟩ := h.2 v tv iv h1
    exact k.2 v tv iv' h2⟩
theorem GN.kc {N : Nat} {A B : World} (h : GN N A B) (ob : Nat) : KC ob A B := ⟨fun i o _ h1 h2 => h.block i o h1 (Or.inr h2), fun v tv iv h1 => ⟨iv, h.block _ _ h1 (Or.inr rfl)⟩⟩
theorem Grew.kc {A B : World} (g : Grew A B) (ob : Nat) : KC ob A B := (g.gn 0).kc ob

/- The contract of an iterator: what comes, one by one. -/
def SeqO (ob gf : Nat) (lb : Array Value) (xs : List Int) (w : World) : Prop :=
  ∀ (l : Nat) (X : Nat → Prop) (J Jx : List Int → World → Prop) (W : World), Grew w W → (∀ k, X k → k < W.heap.size) → (∀ s A B, J s A → GN W.heap.size A B → J s B) → (∀ s A B, Jx s A → GN W.heap.size A B → Jx s B) →
    (∀ pre x A, J pre A → (pre ++ [x]) <+: xs → YieldAt Fence.wide 0 Tryd.prog l #[.int .i64 x] A fun e B =>
      (e = .returned (.bool true) ∧ J (pre ++ [x]) B ∧ KC ob A B ∧ KX X A B) ∨ (e = .returned (.bool false) ∧ Jx (pre ++ [x]) B ∧ KX X A B)) →
    J [] W → Calls Tryd.prog gf (#[.func (.yield l) #[] #[]] ++ lb) W fun e B => (∃ v, e = .returned v) ∧ (J xs B ∨ ∃ pre, pre <+: xs ∧ Jx pre B)

/- How a body may be left. -/
def bpost (ob : Nat) (X : Nat → Prop) (I Ix : List Int → World → Prop) (xs : List Int) (A : World) : Exit → Act → World → Prop
  | .normal, _, B => KX X A B ∧ KC ob A B ∧ I xs B
  | .ret, _, B => KX X A B ∧ Ix xs B
  | _, _, _ => False

theorem range_core {ob gf l dv : Nat} {fn : FuncId} {lb : Array Value} {xs : List Int} {tmps : Array Value} {p : Tmp} {assign body : Code} {W1 : World} {X : Nat → Prop} {I Ix : List Int → World → Prop}
    (hl : W1.heap.size = l + 1) (hL : W1.heap[l]? = some (.loop { state := .ready, pending := none, fn := fn, tmps := tmps, params := #[p], assign := assign, body := body, defers := dv })) (hX : ∀ k, X k → k < l)
    (hseq : SeqO ob gf lb xs W1) (hI : ∀ s A B, I s A → GN l A B → I s B) (hIx : ∀ s A B, Ix s A → GN l A B → Ix s B) (h0 : I [] W1) (a1 : Int → Act)
    (ha : ∀ (x : Int) (W : World) (K : Act → World → Prop), K (a1 x) W → assign.wpIn (Fence.wide.inRound l) 0 Tryd.prog (Exit.then K (fun _ _ _ => False)) { tmps := tmps.setIfInBounds p (.int .i64 x), defers := [] } W)
    (hb : ∀ (pre : List Int) (x : Int) (A : World), I pre A → (pre ++ [x]) <+: xs → (∃ r, A.heap[l]? = some (.loop r)) → body.wpIn (Fence.wide.inRound l) 0 Tryd.prog (bpost ob X I Ix (pre ++ [x]) A) (a1 x) A) :
    Calls Tryd.prog gf (#[.func (.yield l) #[] #[]] ++ lb) W1 fun e B => (∃ v, e = .returned v) ∧ (∃ r c, B.heap[l]? = some (.loop r) ∧ r.state ≠ .busy ∧ r.pending = c ∧ ((c = none ∧ I xs B) ∨ ∃ pre, pre <+: xs ∧ c = some .ret ∧ Ix pre B)) := by
  obtain ⟨rec, hrec⟩ : ∃ rec : LoopState → Option Code → Loop, rec = fun st pe => { state := st, pending := pe, fn := fn, tmps := tmps, params := #[p], assign := assign, body := body, defers := dv } := ⟨_, rfl⟩
  have hL' : W1.heap[l]? = some (.loop (rec .ready none)) := by rw [hrec]; exact hL
  refine (hseq l (fun k => k = l ∨ X k) (fun pre A => I pre A ∧ A.heap[l]? = some (.loop (rec .ready none))) (fun pre A => Ix pre A ∧ A.heap[l]? = some (.loop (rec .done (some .ret)))) W1 (Grew.refl _) ?_ ?_ ?_ ?_ ⟨h0, hL'⟩).mono ?_
  · intro k hk
    rcases hk with rfl | hk
    · omega
    · have := hX k hk; omega
  · intro s A B hs hg
    exact ⟨hI s A B hs.1 (hg.mono (by omega)), hg.block _ _ hs.2 (Or.inl (by omega))⟩
  · intro s A B hs hg
    exact ⟨hIx s A B hs.1 (hg.mono (by omega)), hg.block _ _ hs.2 (Or.inl (by omega))⟩
  · rintro pre x A ⟨hi, hA⟩ hp
    have hy := run_yield (P := Tryd.prog) (args := #[.int .i64 x]) hA (by rw [hrec]; rfl)
    rw [hrec] at hy
    have hf : ((#[p] : Array Tmp).zip #[Value.int .i64 x]).foldl (fun t (q : Tmp × Value) => t.setIfInBounds q.1 q.2) tmps = tmps.setIfInBounds p (.int .i64 x) := by simp
    have hy' : (Instr.yield l #[.int .i64 x]).run Tryd.prog A = .ok (.round l fn (tmps.setIfInBounds p (.int .i64 x)) assign body) A := by rw [← hf]; exact hy
    refine ⟨fn, _, assign, body, hy', roundIn_of_wpIn trivial ?_⟩
    refine ha x A _ ?_
    refine ⟨_, run_beginRound hA (by rw [hrec]), ?_⟩
    have hlt := (Array.getElem?_eq_some_iff.1 hA).1
    have hB0 : ∀ o, (A.putObj l o).heap[l]? = some o := fun o => World.putObj_heap_same hlt
    have hg0 : ∀ o, GN l A (A.putObj l o) := fun o => GN.put hA rfl (Nat.le_refl _) o
    have hk0 : ∀ o, KX (fun k => k = l ∨ X k) A (A.putObj l o) := fun o => KX.put A o (Or.inl rfl)
    refine wpIn_mono (hb pre x _ (hI _ _ _ hi (hg0 _)) hp ⟨_, hB0 _⟩) ?_
    intro e a3 B hq
    cases e with
    | normal =>
      obtain ⟨h1, h2, h3⟩ := hq
      have hBl := h1.2 l _ (hB0 _) rfl (fun hx => by have := hX l hx; omega)
      have hE := run_endRound (P := Tryd.prog) none hBl
      refine ⟨_, _, hE, Or.inl ⟨rfl, ⟨hI _ _ _ h3 (GN.put hBl rfl (Nat.le_refl _) _), ?_⟩, ?_, ?_⟩⟩
      · rw [hrec]
        exact World.putObj_heap_same (Array.getElem?_eq_some_iff.1 hBl).1
      · exact (((hg0 _).kc ob).trans h2).trans ((GN.put (N := l) hBl rfl (Nat.le_refl _) _).kc ob)
      · exact ((hk0 _).trans (h1.mono (fun k hk => Or.inr hk))).trans (KX.put B _ (Or.inl rfl))
    | ret =>
      obtain ⟨h1, h3⟩ := hq
      have hBl := h1.2 l _ (hB0 _) rfl (fun hx => by have := hX l hx; omega)
      have hE := run_endRound (P := Tryd.prog) (some .ret) hBl
      refine ⟨_, _, hE, Or.inr ⟨rfl, ⟨hIx _ _ _ h3 (GN.put hBl rfl (Nat.le_refl _) _), ?_⟩, ?_⟩⟩
      · rw [hrec]
        exact World.putObj_heap_same (Array.getElem?_eq_some_iff.1 hBl).1
      · exact ((hk0 _).trans (h1.mono (fun k hk => Or.inr hk))).trans (KX.put B _ (Or.inl rfl))
    | exit id => exact hq.elim
    | goto t => exact hq.elim
    | panic c => exact hq.elim
    | outgrown => exact hq.elim
  · rintro e B ⟨hv, ⟨h1, h2⟩ | ⟨pre, hp, h1, h2⟩⟩
    · exact ⟨hv, _, _, h2, by rw [hrec]; simp, rfl, Or.inl ⟨by rw [hrec], h1⟩⟩
    · exact ⟨hv, _, _, h2, by rw [hrec]; simp, rfl, Or.inr ⟨pre, hp, by rw [hrec], h1⟩⟩

/- The statement, at an outermost loop. -/
theorem wp_rangeO {ob gf : Nat} {lb : Array Value} {xs : List Int} {g : Operand} {p : Tmp} {assign body : Code} {Q : Exit → Act → World → Prop} {a : Act} {w : World} {X : Nat → Prop} {I Ix : List Int → World → Prop}
    (hX : ∀ k, X k → k < w.heap.size) (hg : a.eval g = .func (.func gf) #[] lb) (eg : ∀ args w, (callFunc gf args).run Tryd.prog w = .ok (.enter gf args) w) (hseq : ∀ W, Grew w W → SeqO ob gf lb xs W)
    (hI : ∀ s A B, I s A → GN w.heap.size A B → I s B) (hIx : ∀ s A B, Ix s A → GN w.heap.size A B → Ix s B) (h0 : I [] w) (a1 : Int → Act)
    (ha : ∀ (l : Nat) (x : Int) (W : World) (K : Act → World → Prop), K (a1 x) W → assign.wpIn (Fence.wide.inRound l) 0 Tryd.prog (Exit.then K (fun _ _ _ => False)) { tmps := a.tmps.setIfInBounds p (.int .i64 x), defers := [] } W)
    (hb : ∀ (l : Nat) (pre : List Int) (x : Int) (A : World), w.heap.size ≤ l → I pre A → (pre ++ [x]) <+: xs → (∃ r, A.heap[l]? = some (.loop r)) → body.wpIn (Fence.wide.inRound l) 0 Tryd.prog (bpost ob X I Ix (pre ++ [x]) A) (a1 x) A)
    (hdone : ∀ (D : Nat) (W : World), w.heap.size ≤ D → I xs W → W.heap[D]? = some (.deferred (some [])) → Q .normal { a with defers := { target := .collected D, args := #[] } :: a.defers } W)
    (hstop : ∀ (D : Nat) (pre : List Int) (W : World), w.heap.size ≤ D → pre <+: xs → Ix pre W → W.heap[D]? = some (.deferred (some [])) → Code.ret.wpIn Fence.wide 0 Tryd.prog Q { a with defers := { target := .collected D, args := #[] } :: a.defers } W) :
    (Code.rangeFunc g #[p] assign body).wpIn Fence.wide 0 Tryd.prog Q a w := by
  refine wpIn_rangeFunc ?_
  intro fn hfn
  obtain ⟨W1, hW1⟩ : ∃ W1, (w.alloc (.deferred (some []))).alloc (.loop { state := .ready, pending := none, fn := fn, tmps := a.tmps, params := #[p], assign := assign, body := body, defers := w.heap.size }) = W1 := ⟨_, rfl⟩
  have hz : W1.heap.size = w.heap.size + 1 + 1 := by rw [← hW1]; simp
  have hL1 : W1.heap[w.heap.size + 1]? = some (.loop { state := .ready, pending := none, fn := fn, tmps := a.tmps, params := #[p], assign := assign, body := body, defers := w.heap.size }) := by
    rw [← hW1]
    have := World.alloc_heap_new (w.alloc (.deferred (some []))) (.loop { state := .ready, pending := none, fn := fn, tmps := a.tmps, params := #[p], assign := assign, body := body, defers := w.heap.size })
    rwa [World.size_alloc] at this
  have hD1 : W1.heap[w.heap.size]? = some (.deferred (some [])) := by
    rw [← hW1]; exact heap_alloc (World.alloc_heap_new w _) _
  have hG1 : Grew w W1 := by rw [← hW1]; exact ((Grew.refl w).alloc _).alloc _
  refine ⟨w.heap.size + 1, [{ target := .collected w.heap.size, args := #[] }], W1, { target := .fn (.func gf) lb, args := #[.func (.yield (w.heap.size + 1)) #[] #[]] }, W1, gf, #[.func (.yield (w.heap.size + 1)) #[] #[]] ++ lb, W1, ?_, ?_, ?_, ?_, fun h => (by cases h), ?_⟩
  · rw [← hW1]; exact run_enterLoop_outer _ _ _ _ _
  · simp only [resolve, hg]
    simp [go_sem]
  · intro f' hf'; trivial
  · simp [invoke, go_sem, eg]
  · refine callsIn_wide.2 ((range_core (X := X) (I := fun s A => I s A ∧ A.heap[w.heap.size]? = some (.deferred (some []))) (Ix := fun s A => Ix s A ∧ A.heap[w.heap.size]? = some (.deferred (some []))) hz hL1 (fun k hk => by have := hX k hk; omega) (hseq W1 hG1) ?_ ?_ ⟨hI _ _ _ h0 (hG1.gn _), hD1⟩ a1 (ha _) ?_).mono ?_)
    · intro s A B hs hg
      exact ⟨hI s A B hs.1 (hg.mono (by omega)), hg.block _ _ hs.2 (Or.inl (by omega))⟩
    · intro s A B hs hg
      exact ⟨hIx s A B hs.1 (hg.mono (by omega)), hg.block _ _ hs.2 (Or.inl (by omega))⟩
    · intro pre x A hi hp hr
      refine wpIn_mono (hb _ pre x A (by omega) hi.1 hp hr) ?_
      intro e a3 B hq
      cases e with
      | normal => exact ⟨hq.1, hq.2.1, hq.2.2, hq.1.2 _ _ hi.2 rfl (fun h => by have := hX _ h; omega)⟩
      | ret => exact ⟨hq.1, hq.2, hq.1.2 _ _ hi.2 rfl (fun h => by have := hX _ h; omega)⟩
      | exit id => exact hq.elim
      | goto t => exact hq.elim
      | panic c => exact hq.elim
      | outgrown => exact hq.elim
    · rintro e B ⟨⟨v, rfl⟩, r, c, hl, hs, hc, h⟩
      refine ⟨_, _, run_endLoop (P := Tryd.prog) hl hs, ?_⟩
      rw [hc]
      rcases h with ⟨rfl, h1, h2⟩ | ⟨pre, hp, rfl, h1, h2⟩
      · exact hdone _ _ (Nat.le_refl _) (hI _ _ _ h1 (GN.put hl rfl (by omega) _)) ((World.putObj_heap_other (by omega)).trans h2)
      · exact hstop _ pre _ (Nat.le_refl _) hp (hIx _ _ _ h1 (GN.put hl rfl (by omega) _)) ((World.putObj_heap_other (by omega)).trans h2)
/- The statement, in a round of another loop. -/
theorem wp_rangeI {ob gf l0 : Nat} {r0 : Loop} {lb : Array Value} {xs : List Int} {g : Operand} {p : Tmp} {assign body : Code} {Q : Exit → Act → World → Prop} {a : Act} {w : World} {X : Nat → Prop} {I Ix : List Int → World → Prop}
    (hl0 : w.heap[l0]? = some (.loop r0)) (hX : ∀ k, X k → k < w.heap.size) (hg : a.eval g = .func (.func gf) #[] lb) (eg : ∀ args w, (callFunc gf args).run Tryd.prog w = .ok (.enter gf args) w) (hseq : ∀ W, Grew w W → SeqO ob gf lb xs W)
    (hI : ∀ s A B, I s A → GN w.heap.size A B → I s B) (hIx : ∀ s A B, Ix s A → GN w.heap.size A B → Ix s B) (h0 : I [] w) (a1 : Int → Act)
    (ha : ∀ (l : Nat) (x : Int) (W : World) (K : Act → World → Prop), K (a1 x) W → assign.wpIn (Fence.wide.inRound l) 0 Tryd.prog (Exit.then K (fun _ _ _ => False)) { tmps := a.tmps.setIfInBounds p (.int .i64 x), defers := [] } W)
    (hb : ∀ (l : Nat) (pre : List Int) (x : Int) (A : World), w.heap.size ≤ l → I pre A → (pre ++ [x]) <+: xs → (∃ r, A.heap[l]? = some (.loop r)) → body.wpIn (Fence.wide.inRound l) 0 Tryd.prog (bpost ob X I Ix (pre ++ [x]) A) (a1 x) A)
    (hdone : ∀ (W : World), I xs W → Q .normal a W)
    (hstop : ∀ (pre : List Int) (W : World), pre <+: xs → Ix pre W → Code.ret.wpIn (Fence.wide.inRound l0) 0 Tryd.prog Q a W) :
    (Code.rangeFunc g #[p] assign body).wpIn (Fence.wide.inRound l0) 0 Tryd.prog Q a w := by
  refine wpIn_rangeFunc ?_
  intro fn hfn
  obtain ⟨W1, hW1⟩ : ∃ W1, w.alloc (.loop { state := .ready, pending := none, fn := fn, tmps := a.tmps, params := #[p], assign := assign, body := body, defers := r0.defers }) = W1 := ⟨_, rfl⟩
  have hz : W1.heap.size = w.heap.size + 1 := by rw [← hW1]; simp
  have hL1 : W1.heap[w.heap.size]? = some (.loop { state := .ready, pending := none, fn := fn, tmps := a.tmps, params := #[p], assign := assign, body := body, defers := r0.defers }) := by
    rw [← hW1]; exact World.alloc_heap_new w _
  have hG1 : Grew w W1 := by rw [← hW1]; exact (Grew.refl w).alloc _
  refine ⟨w.heap.size, [], W1, { target := .fn (.func gf) lb, args := #[.func (.yield w.heap.size) #[] #[]] }, W1, gf, #[.func (.yield w.heap.size) #[] #[]] ++ lb, W1, ?_, ?_, ?_, ?_, fun h => (by cases h), ?_⟩
  · rw [← hW1]; exact run_enterLoop_inner hl0 _ _ _ _ _
  · simp only [resolve, hg]
    simp [go_sem]
  · intro f' hf'; trivial
  · simp [invoke, go_sem, eg]
  · refine CallsIn.inRound l0 (callsIn_wide.2 ((range_core (X := X) (I := I) (Ix := Ix) hz hL1 hX (hseq W1 hG1) hI hIx (hI _ _ _ h0 (hG1.gn _)) a1 (ha _) (fun pre x A hi hp hr => hb _ pre x A (Nat.le_refl _) hi hp hr)).mono ?_))
    rintro e B ⟨⟨v, rfl⟩, r, c, hl, hs, hc, h⟩
    refine ⟨_, _, run_endLoop (P := Tryd.prog) hl hs, ?_⟩
    rw [hc]
    rcases h with ⟨rfl, h1⟩ | ⟨pre, hp, rfl, h1⟩
    · exact hdone _ (hI _ _ _ h1 (GN.put hl rfl (Nat.le_refl _) _))
    · exact hstop pre _ hp (hIx _ _ _ h1 (GN.put hl rfl (Nat.le_refl _) _))
end Go.Proofs.YtojkonoffdlbpaaDoor
