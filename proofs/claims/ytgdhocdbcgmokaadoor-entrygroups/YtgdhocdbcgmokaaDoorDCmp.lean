/-
  The document's reading: the walk of comp but for structs; no statement is proved here.
-/
import Derived.Test.YtgdhocdbcgmokaaDoorDFl2
import Derived.Test.YtgdhocdbcgmokaaDoorGrpR
namespace Go.Proofs.YtgdhocdbcgmokaaDoor
open Go.RowKit
set_option linter.unusedVariables false
set_option linter.unusedSimpArgs false
set_option linter.constructorNameAsVariable false

/- What was read, and how the reading stands. -/
def TieD {α : Type} (r : RS α) (x : α) : Except (Nat × Nat) Nat → Prop
  | .ok q => r = .ok (x, q)
  | .error e => r = .error e
theorem TieD.map {α β : Type} {r : RS α} {x : α} {st : Except (Nat × Nat) Nat} (f : α → β) (h : TieD r x st) : TieD (mapR f r) (f x) st := by
  cases st with
  | ok q => show mapR f r = _; rw [show r = .ok (x, q) from h]; rfl
  | error e => show mapR f r = _; rw [show r = .error e from h]; rfl
theorem TieD.then2 {α β γ : Type} {r : RS α} {x : α} {R : Nat → RS β} {y : β} {st1 st2 : Except (Nat × Nat) Nat} (f : α → β → γ) (h1 : TieD r x st1) (h2 : TieD (runR R st1) y st2) : TieD (thenR r fun a q => mapR (f a) (R q)) (f x y) st2 := by
  cases st1 with
  | ok q =>
    rw [show r = .ok (x, q) from h1]
    exact TieD.map (f x) h2
  | error e =>
    rw [show r = .error e from h1]
    cases st2 with
    | ok q => cases (show (Except.error e : RS β) = .ok (y, q) from h2)
    | error e' => exact congrArg _ (by have : (Except.error e : RS β) = .error e' := h2; injection this)
def TAns {α : Type} (C : Nat → World → List Value → α → Prop) (b : Nat) (v : Value) (l : List Int) (w : World) (r : RS α) (en : Ending) (w' : World) : Prop :=
  ∃ cs x st', en = .returned (.agg cs.toArray) ∧ C w.heap.size w' cs x ∧ FinD b v l w w' st' ∧ TieD r x st'
theorem DAns.tie {α : Type} {enc : α → Value} {b : Nat} {v : Value} {l : List Int} {w : World} {r : RS α} {n : FuncId} {args : Array Value} (h : Calls Tryd.prog n args w (DAns enc b v l w r)) : Calls Tryd.prog n args w fun en w' => ∃ x st', en = .returned (enc x) ∧ FinD b v l w w' st' ∧ TieD r x st' := by
  refine h.mono fun en w' hh => ?_
  cases r with
  | ok y => obtain ⟨x, q⟩ := y; exact ⟨x, .ok q, hh.1, hh.2, rfl⟩
  | error y => obtain ⟨f, e⟩ := y; obtain ⟨⟨x, hx⟩, hf⟩ := hh; exact ⟨x, .error (f, e), hx, hf, rfl⟩
theorem DAnsV.tie {b : Nat} {v : Value} {l : List Int} {w : World} {r : RS (List VT)} {n : FuncId} {args : Array Value} (h : Calls Tryd.prog n args w (DAnsV b v l w r)) : Calls Tryd.prog n args w fun en w' => ∃ rv x st', en = .returned rv ∧ RowV w.heap.size w' rv x ∧ FinD b v l w w' st' ∧ TieD r x st' := by
  refine h.mono fun en w' hh => ?_
  cases r with
  | ok y => obtain ⟨x, q⟩ := y; obtain ⟨rv, h1, h2, h3⟩ := hh; exact ⟨rv, x, .ok q, h1, h2, h3, rfl⟩
  | error y => obtain ⟨f, e⟩ := y; obtain ⟨rv, x, h1, h2, h3⟩ := hh; exact ⟨rv, x, .error (f, e), h1, h2, h3, rfl⟩
set_option maxRecDepth 100000 in
set_option maxHeartbeats 1000000 in
theorem dcomp_fun {w : World} {b : Nat} {v : Value} {l : List Int} {p : Nat} (h : DR w b v l (.ok p)) (hp : p < l.length) (c : Int) (hcv : l.getD p 0 = c) (hn : c = 96) :
    Calls Tryd.prog 69 #[.pointer (some ⟨b, 0, none⟩)] w (TAns CompC b v l w (thenR (valsR l (p + 1)) fun ps q => mapR (fun rs => ⟨1, ps, rs, []⟩) (valsR l q))) := by
  have H : Hid (DR w b v l (.ok p)) := h
  have hb : b < w.heap.size := h.lt
  have hl := h.len
  have P : Hid (∀ w', DR w' b v l (.ok p) → Calls Tryd.prog 116 #[.pointer (some ⟨b, 0, none⟩)] w' fun en w'' => en = .returned (.tuple #[.int .u8 c, .bool true]) ∧ Grew w' w'') := fun w' u => by rw [← hcv]; exact dpeek_ok u hp
  clear h hcv
  subst hn
  have S0 : Hid (DR (w.alloc (.cells #[.int .i64 0, .slice none 0 0, .slice none 0 0, .slice none 0 0] 55)) b v l (.ok p)) := H.out.grew ((Grew.refl w).alloc _)
  have T0 : Hid (Turn [b] w (w.alloc (.cells #[.int .i64 0, .slice none 0 0, .slice none 0 0, .slice none 0 0] 55))) := (Turn.refl [b] w).alloc _
  have N0 : Hid ((w.alloc (.cells #[.int .i64 0, .slice none 0 0, .slice none 0 0, .slice none 0 0] 55)).heap[w.heap.size]? = some (.cells #[.int .i64 0, .slice none 0 0, .slice none 0 0, .slice none 0 0] 55 (0, 0))) := heap_alloc_last _ _
  go_enter Tryd.func69, Tryd.ntmps69
  go_wp2_with fail
  refine (P.out _ S0.out).mono ?_
  rintro en w1 ⟨rfl, g1⟩
  have T1 : Hid (Turn [b] w w1) := T0.out.trans (g1.turn _)
  have S1 : Hid (DR w1 b v l (.ok p)) := S0.out.grew g1
  have N1 : Hid (w1.heap[w.heap.size]? = some (.cells #[.int .i64 0, .slice none 0 0, .slice none 0 0, .slice none 0 0] 55 (0, 0))) := (g1.turn []).other N0.out (by simp)
  clear g1 T0 S0 N0
  have c1_1 := cell_of S1.out.st.1 1
  have z1_1 := free_of S1.out.st.1 1
  simp at c1_1
  have hq2 : p + 1 ≤ l.length := by omega
  go_wp2_with fail
  generalize hw2 : w1.setCell { block := b, off := 1 } (Value.int IntKind.i64 ((p : Int) + 1)) = w2
  have f2 : FinD b v l w w2 (.ok (p + 1)) := by rw [← hw2]; exact (FinD.mk_ T1.out S1.out).inc hq2
  have T2 : Hid (Turn [b] w w2) := f2.1
  have S2 : Hid (DR w2 b v l (.ok (p + 1))) := f2.2
  have N2 : Hid (w2.heap[w.heap.size]? = some (.cells #[.int .i64 0, .slice none 0 0, .slice none 0 0, .slice none 0 0] 55 (0, 0))) := by rw [← hw2]; exact heap_other N1.out (by simp; omega) _
  clear f2 hw2 c1_1 z1_1 T1 S1 N1
  refine (DAnsV.tie (dvals_any S2.out)).mono ?_
  rintro en w3 ⟨rv, ps, st1, rfl, r3, ⟨t3, s3⟩, e3⟩
  have T3 : Hid (Turn [b] w w3) := T2.out.trans t3
  have S3 : Hid (DR w3 b v l st1) := s3
  have E3 : Hid _ := e3
  have N3 : Hid (w3.heap[w.heap.size]? = some (.cells #[.int .i64 0, .slice none 0 0, .slice none 0 0, .slice none 0 0] 55 (0, 0))) := t3.other N2.out (by simp; omega)
  have R3 : Hid (RowV w.heap.size w3 rv ps) := row_low r3 T2.out.size
  obtain ⟨ra0, rc0, hrv0⟩ := row_one r3
  subst hrv0
  clear r3
  clear t3 s3 e3 T2 S2 N2
  go_wp2_with fail
  refine (DAnsV.tie (dvals_any S3.out)).mono ?_
  rintro en w4 ⟨rv, rs, st2, rfl, r4, ⟨t4, s4⟩, e4⟩
  have T4 : Hid (Turn [b] w w4) := T3.out.trans t4
  have S4 : Hid (DR w4 b v l st2) := s4
  have E4 : Hid _ := e4
  have N4 : Hid (w4.heap[w.heap.size]? = some (.cells #[.int .i64 0, .slice none 0 0, .slice none 0 0, .slice none 0 0] 55 (0, 0))) := t4.other N3.out (by simp; omega)
  have R4 : Hid (RowV w.heap.size w4 rv rs) := row_low r4 T3.out.size
  have Q4 : Hid (RowV w.heap.size w4 (.slice ra0 ps.length rc0) ps) := R3.out.turn t4 (S3.out.no (by decide))
  obtain ⟨ra1, rc1, hrv1⟩ := row_one r4
  subst hrv1
  clear r4 R3
  clear t4 s4 e4 T3 S3 N3
  have hne : ¬ b = w.heap.size := by omega
  have n0 := cell_of N4.out 0
  have y0 := free_of N4.out 0
  have n1 := cell_of N4.out 1
  have y1 := free_of N4.out 1
  have n2 := cell_of N4.out 2
  have y2 := free_of N4.out 2
  have n3 := cell_of N4.out 3
  have y3 := free_of N4.out 3
  simp at n0 n1 n2 n3
  go_wp2_with fail
  have tN : Turn [w.heap.size] w4 ((((w4.setCell ⟨w.heap.size, 0, none⟩ (.int .i64 1)).setCell ⟨w.heap.size, 1, none⟩ (.slice ra0 ps.length rc0)).setCell ⟨w.heap.size, 2, none⟩ (.slice ra1 rs.length rc1)).setCell ⟨w.heap.size, 3, none⟩ (.slice none 0 0)) := ((((Turn.refl [w.heap.size] w4).set (Or.inl (by simp)) _).set (Or.inl (by simp)) _).set (Or.inl (by simp)) _).set (Or.inl (by simp)) _
  have nV : ∀ y ∈ [w.heap.size], NoT w4 y 29 := fun y hy => by simp at hy; subst hy; exact NoT.of N4.out (by decide)
  have nF : ∀ y ∈ [w.heap.size], NoT w4 y 48 := fun y hy => by simp at hy; subst hy; exact NoT.of N4.out (by decide)
  refine bodyPost_ret (v := .agg #[.int .i64 1, .slice ra0 ps.length rc0, .slice ra1 rs.length rc1, .slice none 0 0]) (by simp [results, Tryd.results69, go_sem, n0, n1, n2, n3]) rfl ?_
  exact ⟨[.int .i64 1, .slice ra0 ps.length rc0, .slice ra1 rs.length rc1, .slice none 0 0], ⟨1, ps, rs, []⟩, st2, rfl, ⟨_, _, _, rfl, Q4.out.turn tN nV, R4.out.turn tN nV, World.ownsRow_nil _ _ _ _⟩, (((((FinD.mk_ T4.out S4.out).set H.out (Nat.le_refl _)).set H.out (Nat.le_refl _)).set H.out (Nat.le_refl _)).set H.out (Nat.le_refl _)), TieD.then2 (fun a c => (⟨1, a, c, []⟩ : CT)) E3.out E4.out⟩
set_option maxRecDepth 100000 in
set_option maxHeartbeats 1000000 in
theorem dcomp_arr {w : World} {b : Nat} {v : Value} {l : List Int} {p : Nat} (h : DR w b v l (.ok p)) (hp : p < l.length) (c : Int) (hcv : l.getD p 0 = c) (hn : c = 94) :
    Calls Tryd.prog 69 #[.pointer (some ⟨b, 0, none⟩)] w (TAns CompC b v l w (mapR (fun f => ⟨3, [], [], [f]⟩) (fieldR l (p + 1)))) := by
  have H : Hid (DR w b v l (.ok p)) := h
  have hb : b < w.heap.size := h.lt
  have hl := h.len
  have P : Hid (∀ w', DR w' b v l (.ok p) → Calls Tryd.prog 116 #[.pointer (some ⟨b, 0, none⟩)] w' fun en w'' => en = .returned (.tuple #[.int .u8 c, .bool true]) ∧ Grew w' w'') := fun w' u => by rw [← hcv]; exact dpeek_ok u hp
  clear h hcv
  subst hn
  have S0 : Hid (DR (w.alloc (.cells #[.int .i64 0, .slice none 0 0, .slice none 0 0, .slice none 0 0] 55)) b v l (.ok p)) := H.out.grew ((Grew.refl w).alloc _)
  have T0 : Hid (Turn [b] w (w.alloc (.cells #[.int .i64 0, .slice none 0 0, .slice none 0 0, .slice none 0 0] 55))) := (Turn.refl [b] w).alloc _
  have N0 : Hid ((w.alloc (.cells #[.int .i64 0, .slice none 0 0, .slice none 0 0, .slice none 0 0] 55)).heap[w.heap.size]? = some (.cells #[.int .i64 0, .slice none 0 0, .slice none 0 0, .slice none 0 0] 55 (0, 0))) := heap_alloc_last _ _
  go_enter Tryd.func69, Tryd.ntmps69
  go_wp2_with fail
  refine (P.out _ S0.out).mono ?_
  rintro en w1 ⟨rfl, g1⟩
  have T1 : Hid (Turn [b] w w1) := T0.out.trans (g1.turn _)
  have S1 : Hid (DR w1 b v l (.ok p)) := S0.out.grew g1
  have N1 : Hid (w1.heap[w.heap.size]? = some (.cells #[.int .i64 0, .slice none 0 0, .slice none 0 0, .slice none 0 0] 55 (0, 0))) := (g1.turn []).other N0.out (by simp)
  clear g1 T0 S0 N0
  have c1_1 := cell_of S1.out.st.1 1
  have z1_1 := free_of S1.out.st.1 1
  simp at c1_1
  have hq2 : p + 1 ≤ l.length := by omega
  go_wp2_with fail
  generalize hw2 : w1.setCell { block := b, off := 1 } (Value.int IntKind.i64 ((p : Int) + 1)) = w2
  have f2 : FinD b v l w w2 (.ok (p + 1)) := by rw [← hw2]; exact (FinD.mk_ T1.out S1.out).inc hq2
  have T2 : Hid (Turn [b] w w2) := f2.1
  have S2 : Hid (DR w2 b v l (.ok (p + 1))) := f2.2
  have N2 : Hid (w2.heap[w.heap.size]? = some (.cells #[.int .i64 0, .slice none 0 0, .slice none 0 0, .slice none 0 0] 55 (0, 0))) := by rw [← hw2]; exact heap_other N1.out (by simp; omega) _
  clear f2 hw2 c1_1 z1_1 T1 S1 N1
  refine (DAns.tie (dfield_any S2.out)).mono ?_
  rintro en w3 ⟨x, st1, rfl, ⟨t3, s3⟩, e3⟩
  have T3 : Hid (Turn [b] w w3) := T2.out.trans t3
  have S3 : Hid (DR w3 b v l st1) := s3
  have E3 : Hid _ := e3
  have N3 : Hid (w3.heap[w.heap.size]? = some (.cells #[.int .i64 0, .slice none 0 0, .slice none 0 0, .slice none 0 0] 55 (0, 0))) := t3.other N2.out (by simp; omega)
  clear t3 s3 e3 T2 S2 N2
  obtain ⟨⟨xn, xb, xh⟩, xm⟩ := x
  unfold FT.v
  have hne : ¬ b = w.heap.size := by omega
  have n0 := cell_of N3.out 0
  have y0 := free_of N3.out 0
  have n1 := cell_of N3.out 1
  have y1 := free_of N3.out 1
  have n2 := cell_of N3.out 2
  have y2 := free_of N3.out 2
  have n3 := cell_of N3.out 3
  have y3 := free_of N3.out 3
  simp at n0 n1 n2 n3
  have hs3 : w.heap.size < w3.heap.size := lt_of_obj N3.out
  have hs4 : ¬ w.heap.size = w3.heap.size := by omega
  go_wp2_with fail
  generalize hW8 : (((w3.setCell ⟨w.heap.size, 0, none⟩ (.int .i64 3)).setCell ⟨w.heap.size, 1, none⟩ (.slice none 0 0)).setCell ⟨w.heap.size, 2, none⟩ (.slice none 0 0)).setCell ⟨w.heap.size, 3, none⟩ (.slice (some ⟨w3.heap.size, 0, none⟩) 1 1) = W8
  have hsz : W8.heap.size = w3.heap.size := by rw [← hW8]; simp
  have F8 : FinD b v l w W8 st1 := by rw [← hW8]; exact ((((FinD.mk_ T3.out S3.out).set H.out (Nat.le_refl _)).set H.out (Nat.le_refl _)).set H.out (Nat.le_refl _)).set H.out (Nat.le_refl _)
  have O8 : W8.heap[w.heap.size]? = some (.cells #[.int .i64 3, .slice none 0 0, .slice none 0 0, .slice (some ⟨w3.heap.size, 0, none⟩) 1 1] 55 (0, 0)) := by
    rw [← hW8, heap_set (heap_set (heap_set (heap_set N3.out 0 _) 1 _) 2 _) 3 _]
    simp
  clear hW8
  rw [← hsz]
  rw [← hsz] at O8
  generalize hW9 : W8.alloc (.cells #[.int .i64 xn, .bool xb, .int .i64 xh, .bool xm] 48) = W9
  have F9 : FinD b v l w W9 st1 := by rw [← hW9]; exact F8.grew ((Grew.refl _).alloc _)
  have O9 : W9.heap[w.heap.size]? = some (.cells #[.int .i64 3, .slice none 0 0, .slice none 0 0, .slice (some ⟨W8.heap.size, 0, none⟩) 1 1] 55 (0, 0)) := by
    rw [← hW9]
    exact (((Grew.refl _).alloc _).turn []).other O8 (by simp)
  have R9 : RowF w.heap.size W9 (.slice (some ⟨W8.heap.size, 0, none⟩) 1 1) [(⟨⟨xn, xb, xh⟩, xm⟩ : FT)] := by
    rw [← hW9]
    exact row_low (row_new W8 48 4 (by decide) _ rfl (by simp [Value.oneCell'])) (by omega)
  have x0 := cell_of O9 0
  have x1 := cell_of O9 1
  have x2 := cell_of O9 2
  have x3 := cell_of O9 3
  simp at x0 x1 x2 x3
  clear hW9 O8 F8
  refine bodyPost_ret (v := .agg #[.int .i64 3, .slice none 0 0, .slice none 0 0, .slice (some ⟨W8.heap.size, 0, none⟩) 1 1]) (by simp [results, Tryd.results69, go_sem, x0, x1, x2, x3]) rfl ?_
  exact ⟨[.int .i64 3, .slice none 0 0, .slice none 0 0, .slice (some ⟨W8.heap.size, 0, none⟩) 1 1], ⟨3, [], [], [⟨⟨xn, xb, xh⟩, xm⟩]⟩, st1, rfl, ⟨_, _, _, rfl, World.ownsRow_nil _ _ _ _, World.ownsRow_nil _ _ _ _, R9⟩, F9, TieD.map (fun f => (⟨3, [], [], [f]⟩ : CT)) E3.out⟩
set_option maxRecDepth 100000 in
set_option maxHeartbeats 1000000 in
theorem dcomp_bad {w : World} {b : Nat} {v : Value} {l : List Int} {p : Nat} (h : DR w b v l (.ok p)) (hp : p < l.length) (c : Int) (hcv : l.getD p 0 = c) (d1 : (c == 96) = false) (d2 : (c == 95) = false) (d3 : (c == 94) = false) :
    Calls Tryd.prog 69 #[.pointer (some ⟨b, 0, none⟩)] w (TAns CompC b v l w ((.error (p, 4) : RS CT))) := by
  have H : Hid (DR w b v l (.ok p)) := h
  have hb : b < w.heap.size := h.lt
  have hl := h.len
  have P : Hid (∀ w', DR w' b v l (.ok p) → Calls Tryd.prog 116 #[.pointer (some ⟨b, 0, none⟩)] w' fun en w'' => en = .returned (.tuple #[.int .u8 c, .bool true]) ∧ Grew w' w'') := fun w' u => by rw [← hcv]; exact dpeek_ok u hp
  clear h hcv
  have S0 : Hid (DR (w.alloc (.cells #[.int .i64 0, .slice none 0 0, .slice none 0 0, .slice none 0 0] 55)) b v l (.ok p)) := H.out.grew ((Grew.refl w).alloc _)
  have T0 : Hid (Turn [b] w (w.alloc (.cells #[.int .i64 0, .slice none 0 0, .slice none 0 0, .slice none 0 0] 55))) := (Turn.refl [b] w).alloc _
  have N0 : Hid ((w.alloc (.cells #[.int .i64 0, .slice none 0 0, .slice none 0 0, .slice none 0 0] 55)).heap[w.heap.size]? = some (.cells #[.int .i64 0, .slice none 0 0, .slice none 0 0, .slice none 0 0] 55 (0, 0))) := heap_alloc_last _ _
  go_enter Tryd.func69, Tryd.ntmps69
  go_wp2_with fail
  refine (P.out _ S0.out).mono ?_
  rintro en w1 ⟨rfl, g1⟩
  have T1 : Hid (Turn [b] w w1) := T0.out.trans (g1.turn _)
  have S1 : Hid (DR w1 b v l (.ok p)) := S0.out.grew g1
  have N1 : Hid (w1.heap[w.heap.size]? = some (.cells #[.int .i64 0, .slice none 0 0, .slice none 0 0, .slice none 0 0] 55 (0, 0))) := (g1.turn []).other N0.out (by simp)
  clear g1 T0 S0 N0
  have c1_1 := cell_of S1.out.st.1 1
  have z1_1 := free_of S1.out.st.1 1
  simp at c1_1
  have hq2 : p + 1 ≤ l.length := by omega
  go_wp2_with fail
  generalize hw2 : w1.setCell { block := b, off := 1 } (Value.int IntKind.i64 ((p : Int) + 1)) = w2
  have f2 : FinD b v l w w2 (.ok (p + 1)) := by rw [← hw2]; exact (FinD.mk_ T1.out S1.out).inc hq2
  have T2 : Hid (Turn [b] w w2) := f2.1
  have S2 : Hid (DR w2 b v l (.ok (p + 1))) := f2.2
  have N2 : Hid (w2.heap[w.heap.size]? = some (.cells #[.int .i64 0, .slice none 0 0, .slice none 0 0, .slice none 0 0] 55 (0, 0))) := by rw [← hw2]; exact heap_other N1.out (by simp; omega) _
  clear f2 hw2 c1_1 z1_1 T1 S1 N1
  refine (fail_any S2.out p 4 (by decide)).mono ?_
  rintro en w3 ⟨rfl, t3, s3⟩
  have T3 : Hid (Turn [b] w w3) := T2.out.trans t3
  have S3 : Hid (DR w3 b v l (.error (p, 4))) := s3
  have N3 : Hid (w3.heap[w.heap.size]? = some (.cells #[.int .i64 0, .slice none 0 0, .slice none 0 0, .slice none 0 0] 55 (0, 0))) := t3.other N2.out (by simp; omega)
  clear t3 s3 T2 S2 N2
  have hne : ¬ b = w.heap.size := by omega
  have n0 := cell_of N3.out 0
  have y0 := free_of N3.out 0
  have n1 := cell_of N3.out 1
  have y1 := free_of N3.out 1
  have n2 := cell_of N3.out 2
  have y2 := free_of N3.out 2
  have n3 := cell_of N3.out 3
  have y3 := free_of N3.out 3
  simp at n0 n1 n2 n3
  go_wp2_with fail
  have tN : Turn [w.heap.size] w3 ((((w3.setCell ⟨w.heap.size, 0, none⟩ (.int .i64 0)).setCell ⟨w.heap.size, 1, none⟩ (.slice none 0 0)).setCell ⟨w.heap.size, 2, none⟩ (.slice none 0 0)).setCell ⟨w.heap.size, 3, none⟩ (.slice none 0 0)) := ((((Turn.refl [w.heap.size] w3).set (Or.inl (by simp)) _).set (Or.inl (by simp)) _).set (Or.inl (by simp)) _).set (Or.inl (by simp)) _
  have nV : ∀ y ∈ [w.heap.size], NoT w3 y 29 := fun y hy => by simp at hy; subst hy; exact NoT.of N3.out (by decide)
  have nF : ∀ y ∈ [w.heap.size], NoT w3 y 48 := fun y hy => by simp at hy; subst hy; exact NoT.of N3.out (by decide)
  refine bodyPost_ret (v := .agg #[.int .i64 0, .slice none 0 0, .slice none 0 0, .slice none 0 0]) (by simp [results, Tryd.results69, go_sem, n0, n1, n2, n3]) rfl ?_
  exact ⟨[.int .i64 0, .slice none 0 0, .slice none 0 0, .slice none 0 0], ⟨0, [], [], []⟩, (.error (p, 4)), rfl, ⟨_, _, _, rfl, World.ownsRow_nil _ _ _ _, World.ownsRow_nil _ _ _ _, World.ownsRow_nil _ _ _ _⟩, (((((FinD.mk_ T3.out S3.out).set H.out (Nat.le_refl _)).set H.out (Nat.le_refl _)).set H.out (Nat.le_refl _)).set H.out (Nat.le_refl _)), rfl⟩
set_option maxRecDepth 100000 in
set_option maxHeartbeats 1000000 in
theorem dcomp_no {w : World} {b : Nat} {v : Value} {l : List Int} {st : Except (Nat × Nat) Nat} (h : DR w b v l st) (hp : ¬ Ahead l st) :
    Calls Tryd.prog 69 #[.pointer (some ⟨b, 0, none⟩)] w (TAns CompC b v l w (runR (compR l) st)) := by
  have H : Hid (DR w b v l st) := h
  have hb : b < w.heap.size := h.lt
  have hl := h.len
  have hr : ∃ f e, runR (compR l) st = .error (f, e) ∧ failS st l.length 3 = .error (f, e) := by
    cases st with
    | error x => obtain ⟨f, e⟩ := x; exact ⟨f, e, rfl, rfl⟩
    | ok p =>
      have hpl : p = l.length := by
        have := h.st.2
        rcases Nat.lt_or_ge p l.length with h' | h'
        · exact absurd ⟨p, rfl, h'⟩ hp
        · omega
      subst hpl
      exact ⟨l.length, 3, by show compR l l.length = _; unfold compR; exact atR_no (by omega), rfl⟩
  obtain ⟨f, e, hr1, hf⟩ := hr
  rw [hr1]
  obtain ⟨sa, cap, rfl⟩ := h.rd.len
  clear h hr1
  have S0 : Hid (DR (w.alloc (.cells #[.int .i64 0, .slice none 0 0, .slice none 0 0, .slice none 0 0] 55)) b (.slice sa l.length cap) l st) := H.out.grew ((Grew.refl w).alloc _)
  have T0 : Hid (Turn [b] w (w.alloc (.cells #[.int .i64 0, .slice none 0 0, .slice none 0 0, .slice none 0 0] 55))) := (Turn.refl [b] w).alloc _
  have N0 : Hid ((w.alloc (.cells #[.int .i64 0, .slice none 0 0, .slice none 0 0, .slice none 0 0] 55)).heap[w.heap.size]? = some (.cells #[.int .i64 0, .slice none 0 0, .slice none 0 0, .slice none 0 0] 55 (0, 0))) := heap_alloc_last _ _
  go_enter Tryd.func69, Tryd.ntmps69
  go_wp2_with fail
  refine (dpeek_no S0.out hp).mono ?_
  rintro en w1 ⟨rfl, g1⟩
  have T1 : Hid (Turn [b] w w1) := T0.out.trans (g1.turn _)
  have S1 : Hid (DR w1 b (.slice sa l.length cap) l st) := S0.out.grew g1
  have N1 : Hid (w1.heap[w.heap.size]? = some (.cells #[.int .i64 0, .slice none 0 0, .slice none 0 0, .slice none 0 0] 55 (0, 0))) := (g1.turn []).other N0.out (by simp)
  clear g1 T0 S0 N0
  obtain ⟨av1, plv1, ev1, ho1⟩ := S1.out.obj
  have c0_1 := cell_of ho1 0
  simp at c0_1
  clear ho1
  go_wp2_with fail
  refine (fail_any S1.out l.length 3 (by decide)).mono ?_
  rw [hf]
  rintro en w2 ⟨rfl, t2, s2⟩
  have T2 : Hid (Turn [b] w w2) := T1.out.trans t2
  have S2 : Hid (DR w2 b (.slice sa l.length cap) l (.error (f, e))) := s2
  have N2 : Hid (w2.heap[w.heap.size]? = some (.cells #[.int .i64 0, .slice none 0 0, .slice none 0 0, .slice none 0 0] 55 (0, 0))) := t2.other N1.out (by simp; omega)
  clear t2 s2 T1 S1 N1
  have hne : ¬ b = w.heap.size := by omega
  have n0 := cell_of N2.out 0
  have y0 := free_of N2.out 0
  have n1 := cell_of N2.out 1
  have y1 := free_of N2.out 1
  have n2 := cell_of N2.out 2
  have y2 := free_of N2.out 2
  have n3 := cell_of N2.out 3
  have y3 := free_of N2.out 3
  simp at n0 n1 n2 n3
  go_wp2_with fail
  have tN : Turn [w.heap.size] w2 ((((w2.setCell ⟨w.heap.size, 0, none⟩ (.int .i64 0)).setCell ⟨w.heap.size, 1, none⟩ (.slice none 0 0)).setCell ⟨w.heap.size, 2, none⟩ (.slice none 0 0)).setCell ⟨w.heap.size, 3, none⟩ (.slice none 0 0)) := ((((Turn.refl [w.heap.size] w2).set (Or.inl (by simp)) _).set (Or.inl (by simp)) _).set (Or.inl (by simp)) _).set (Or.inl (by simp)) _
  have nV : ∀ y ∈ [w.heap.size], NoT w2 y 29 := fun y hy => by simp at hy; subst hy; exact NoT.of N2.out (by decide)
  have nF : ∀ y ∈ [w.heap.size], NoT w2 y 48 := fun y hy => by simp at hy; subst hy; exact NoT.of N2.out (by decide)
  refine bodyPost_ret (v := .agg #[.int .i64 0, .slice none 0 0, .slice none 0 0, .slice none 0 0]) (by simp [results, Tryd.results69, go_sem, n0, n1, n2, n3]) rfl ?_
  exact ⟨[.int .i64 0, .slice none 0 0, .slice none 0 0, .slice none 0 0], ⟨0, [], [], []⟩, (.error (f, e)), rfl, ⟨_, _, _, rfl, World.ownsRow_nil _ _ _ _, World.ownsRow_nil _ _ _ _, World.ownsRow_nil _ _ _ _⟩, (((((FinD.mk_ T2.out S2.out).set H.out (Nat.le_refl _)).set H.out (Nat.le_refl _)).set H.out (Nat.le_refl _)).set H.out (Nat.le_refl _)), rfl⟩
end Go.Proofs.YtgdhocdbcgmokaaDoor
