/-
  The document's reading: the walk of field; no statement is proved here.
-/
import Derived.Test.YtmcljnohdknpoaaDoorDVals
namespace Go.Proofs.YtmcljnohdknpoaaDoor
open Go.RowKit
set_option linter.unusedVariables false
set_option linter.unusedSimpArgs false
set_option linter.constructorNameAsVariable false

theorem ST.set4 {w : World} {b : Nat} {s : ByteArray} {st : Except Nat Nat} (h : ST w b s st) (N : Nat) (hN : b ≠ N) (x y z u : Value) : ST ((((w.setCell ⟨N, 0, none⟩ x).setCell ⟨N, 1, none⟩ y).setCell ⟨N, 2, none⟩ z).setCell ⟨N, 3, none⟩ u) b s st :=
  (((h.set (q := ⟨N, 0, none⟩) hN x).set (q := ⟨N, 1, none⟩) hN y).set (q := ⟨N, 2, none⟩) hN z).set (q := ⟨N, 3, none⟩) hN u
theorem isB_of {s x : ByteArray} (p : Nat) (h0 : x ≠ E0) : isB s x (.ok p) = decide (tk s p = x) := by
  show decide (tk s p = x ∧ x ≠ E0) = _
  by_cases h : tk s p = x
  · rw [decide_eq_true h, decide_eq_true (And.intro h h0)]
  · rw [decide_eq_false h, decide_eq_false (fun hh : tk s p = x ∧ x ≠ E0 => h hh.1)]
theorem ahead_yes {s x : ByteArray} {p : Nat} (h1 : tk s p = LP) (h2 : tk s (nx s p) = x) (h0 : x ≠ E0) : aheadB s x (.ok p) = true := by
  unfold aheadB
  rw [isB_of p (by decide), decide_eq_true h1]
  have : isS s LP (.ok p) = .ok (nx s p) := by
    show (if tk s p = LP ∧ LP ≠ E0 then Except.ok (nx s p) else Except.ok p) = _
    rw [if_pos ⟨h1, by decide⟩]
  rw [this, isB_of _ h0, decide_eq_true h2]
  rfl
theorem ahead_no {s x : ByteArray} {p : Nat} (h : ¬ (tk s p = LP ∧ tk s (nx s p) = x)) (h0 : x ≠ E0) : aheadB s x (.ok p) = false := by
  unfold aheadB
  rw [isB_of p (by decide)]
  by_cases h1 : tk s p = LP
  · have : isS s LP (.ok p) = .ok (nx s p) := by
      show (if tk s p = LP ∧ LP ≠ E0 then Except.ok (nx s p) else Except.ok p) = _
      rw [if_pos ⟨h1, by decide⟩]
    rw [this, isB_of _ h0, decide_eq_false (fun h2 => h ⟨h1, h2⟩), Bool.and_false]
  · rw [decide_eq_false h1, Bool.false_and]
theorem ahead_er (s x : ByteArray) (e : Nat) : aheadB s x (.error e) = false := rfl
theorem field_plain {s : ByteArray} {p : Nat} (h : ¬ (tk s p = LP ∧ tk s (nx s p) = WMUT)) : fieldS s p = mapS (fun v => (⟨v, false⟩ : FT)) (valS s p) := by
  unfold fieldS valS
  by_cases h1 : tk s p = LP
  · rw [if_pos h1, if_pos h1, if_neg (fun h2 => h ⟨h1, h2⟩)]
  · rw [if_neg h1, if_neg h1]
theorem field_mut {s : ByteArray} {p : Nat} (h1 : tk s p = LP) (h2 : tk s (nx s p) = WMUT) : fieldS s p = closeS s (fun v => (⟨v, true⟩ : FT)) (valS s (nx s (nx s p))) := by
  unfold fieldS
  rw [if_pos h1, if_pos h2]
theorem map_tied {α β : Type} {f : Nat → Except Nat (α × Nat)} {g : Nat → Except Nat (β × Nat)} {u : α → β} {p : Nat} {a : α} {st' : Except Nat Nat} (hg : g p = mapS u (f p)) (h : Tied f (.ok p) a st') : Tied g (.ok p) (u a) st' := by
  cases hf : f p with
  | error e =>
    rw [hf] at hg
    have := h.er hf
    subst this
    exact Tied.bad hg
  | ok y =>
    obtain ⟨a', q⟩ := y
    rw [hf] at hg
    obtain ⟨rfl, rfl⟩ := h.ok hf
    exact Tied.mk hg
/- A closing bracket behind. -/
theorem close_tied {α β : Type} {s : ByteArray} {f : Nat → Except Nat (α × Nat)} {g : Nat → Except Nat (β × Nat)} {u : α → β} {p p' : Nat} {a : α} {st' : Except Nat Nat} (hg : g p = closeS s u (f p')) (h : Tied f (.ok p') a st') : Tied g (.ok p) (u a) (mustS s RP st') := by
  cases hf : f p' with
  | error e =>
    rw [hf] at hg
    have := h.er hf
    subst this
    exact Tied.bad hg
  | ok y =>
    obtain ⟨a', q⟩ := y
    rw [hf] at hg
    obtain ⟨rfl, rfl⟩ := h.ok hf
    simp only [closeS] at hg
    by_cases hq : tk s q = RP
    · rw [if_pos hq] at hg
      rw [must_ok hq (by decide)]
      exact Tied.mk hg
    · rw [if_neg hq] at hg
      rw [must_er hq]
      exact Tied.bad hg
set_option maxRecDepth 100000 in
set_option maxHeartbeats 1000000 in
theorem dfield_any {w : World} {b : Nat} {s : ByteArray} {st : Except Nat Nat} (h : ST w b s st) (hs : s.size ≤ 65536) :
    Calls Tryd.prog 70 #[.pointer (some ⟨b, 0, none⟩)] w fun en w' => ∃ x st', en = .returned (FT.v x) ∧ Turn [b] w w' ∧ ST w' b s st' ∧ Tied (fieldS s) st x st' := by
  have hb : b < w.heap.size := h.lt
  have R0 : Hid (ST (w.alloc (.cells #[.int .i64 0, .bool false, .int .i64 0, .bool false] 94)) b s st) := h.grew ((Grew.refl w).alloc _)
  have T0 : Hid (Turn [b] w (w.alloc (.cells #[.int .i64 0, .bool false, .int .i64 0, .bool false] 94))) := (Turn.refl [b] w).alloc _
  have N0 : Hid ((w.alloc (.cells #[.int .i64 0, .bool false, .int .i64 0, .bool false] 94)).heap[w.heap.size]? = some zf) := heap_alloc_last _ _
  have C := ahead_any R0.out hs WMUT
  clear h
  by_cases hm : ∃ p, st = .ok p ∧ tk s p = LP ∧ tk s (nx s p) = WMUT
  · obtain ⟨p, rfl, h1, h2⟩ := hm
    rw [ahead_yes h1 h2 (by decide)] at C
    have HF : Hid (fieldS s p = closeS s (fun v => (⟨v, true⟩ : FT)) (valS s (nx s (nx s p)))) := field_mut h1 h2
    have HM1 : Hid (mustS s LP (.ok p) = .ok (nx s p)) := must_ok h1 (by decide)
    have HM2 : Hid (mustS s WMUT (.ok (nx s p)) = .ok (nx s (nx s p))) := must_ok h2 (by decide)
    clear h1 h2
    go_enter Tryd.func70, Tryd.ntmps70
    go_wp2_with fail
    refine C.mono ?_
    rintro en w1 ⟨rfl, g1⟩
    have T1 : Hid (Turn [b] w w1) := T0.out.trans (g1.turn _)
    have N1 : Hid (w1.heap[w.heap.size]? = some zf) := (g1.turn []).other N0.out (by simp)
    have D := must_any (R0.out.grew g1) hs LP
    rw [HM1.out] at D
    clear C g1 T0 N0 R0
    go_wp2_with fail
    refine D.mono ?_
    rintro en w2 ⟨rfl, t2, s2⟩
    have T2 : Hid (Turn [b] w w2) := T1.out.trans t2
    have N2 : Hid (w2.heap[w.heap.size]? = some zf) := t2.other N1.out (by simp; omega)
    have E := must_any s2 hs WMUT
    rw [HM2.out] at E
    clear D t2 s2 T1 N1
    go_wp2_with fail
    refine E.mono ?_
    rintro en w3 ⟨rfl, t3, s3⟩
    have T3 : Hid (Turn [b] w w3) := T2.out.trans t3
    have N3 : Hid (w3.heap[w.heap.size]? = some zf) := t3.other N2.out (by simp; omega)
    have V := dval_any s3 hs
    clear E t3 s3 T2 N2
    have VT2 : Hid _ := val_tied s (.ok (nx s (nx s p)))
    generalize valT s (.ok (nx s (nx s p))) = st2 at *
    generalize valV s (.ok (nx s (nx s p))) = a at *
    go_wp2_with fail
    refine V.mono ?_
    rintro en w4 ⟨rfl, t4, s4⟩
    have T4 : Hid (Turn [b] w w4) := T3.out.trans t4
    have n4 := t4.other N3.out (by simp; omega)
    have N4 : Hid (w4.heap[w.heap.size]? = some zf) := n4
    have S4 : Hid (ST w4 b s st2) := s4
    have hlt4 : w.heap.size < w4.heap.size := lt_of_obj n4
    clear V t4 s4 T3 N3 n4
    obtain ⟨n, nul, hp⟩ := a
    unfold VT.v vt
    go_wp2_with fail
    generalize hw5 : w4.alloc (.cells #[.int .i64 n, .bool nul, .int .i64 hp, .bool true] 94) = w5
    have g5 : Grew w4 w5 := by rw [← hw5]; exact (Grew.refl w4).alloc _
    have M5 : Hid (w5.heap[w4.heap.size]? = some (.cells #[.int .i64 n, .bool nul, .int .i64 hp, .bool true] 94 (0, 0))) := by rw [← hw5]; exact heap_alloc_last _ _
    have T5 : Hid (Turn [b] w w5) := T4.out.trans (g5.turn _)
    have N5 : Hid (w5.heap[w.heap.size]? = some zf) := (g5.turn []).other N4.out (by simp)
    have M := must_any (S4.out.grew g5) hs RP
    clear hw5 g5 T4 N4 S4
    refine M.mono ?_
    rintro en w6 ⟨rfl, t6, s6⟩
    have T6 : Hid (Turn [b] w w6) := T5.out.trans t6
    have S6 : Hid (ST w6 b s (mustS s RP st2)) := s6
    have hM6 := t6.other M5.out (by simp; omega)
    have hN6 := t6.other N5.out (by simp; omega)
    have m0 := cell_of hM6 0
    have m1 := cell_of hM6 1
    have m2 := cell_of hM6 2
    have m3 := cell_of hM6 3
    have c0 := cell_of hN6 0
    have c1 := cell_of hN6 1
    have c2 := cell_of hN6 2
    have c3 := cell_of hN6 3
    have z0 := free_of hN6 0
    have z1 := free_of hN6 1
    have z2 := free_of hN6 2
    have z3 := free_of hN6 3
    simp at m0 m1 m2 m3 c0 c1 c2 c3
    clear M t6 s6 hM6 hN6 M5 N5
    go_wp2_with fail
    refine bodyPost_ret (v := FT.v ⟨⟨n, nul, hp⟩, true⟩) (by simp [results, Tryd.results70, go_sem, FT.v, c0, c1, c2, c3]) rfl ?_
    exact ⟨_, mustS s RP st2, rfl, T6.out.set4 _ (Nat.le_refl _) _ _ _ _, S6.out.set4 _ (by omega) _ _ _ _, close_tied (u := fun v => (⟨v, true⟩ : FT)) HF.out VT2.out⟩
  · have hA : aheadB s WMUT st = false := by
      cases st with
      | error e => rfl
      | ok p => exact ahead_no (fun h => hm ⟨p, rfl, h⟩) (by decide)
    have HF : Hid (∀ a st', Tied (valS s) st a st' → Tied (fieldS s) st (⟨a, false⟩ : FT) st') := by
      intro a st' h
      cases st with
      | error e => exact h
      | ok p => exact map_tied (u := fun v => (⟨v, false⟩ : FT)) (field_plain (fun h => hm ⟨p, rfl, h⟩)) h
    rw [hA] at C
    clear hA hm
    go_enter Tryd.func70, Tryd.ntmps70
    go_wp2_with fail
    refine C.mono ?_
    rintro en w1 ⟨rfl, g1⟩
    have T1 : Hid (Turn [b] w w1) := T0.out.trans (g1.turn _)
    have N1 : Hid (w1.heap[w.heap.size]? = some zf) := (g1.turn []).other N0.out (by simp)
    have V := dval_any (R0.out.grew g1) hs
    have VT2 := HF.out _ _ (val_tied s st)
    clear C g1 T0 N0 R0 HF
    generalize valT s st = st2 at *
    generalize valV s st = a at *
    have HV : Hid (Tied (fieldS s) st (⟨a, false⟩ : FT) st2) := VT2
    clear VT2
    go_wp2_with fail
    refine V.mono ?_
    rintro en w4 ⟨rfl, t4, s4⟩
    have T4 : Hid (Turn [b] w w4) := T1.out.trans t4
    have n4 := t4.other N1.out (by simp; omega)
    have S4 : Hid (ST w4 b s st2) := s4
    have c0 := cell_of n4 0
    have c1 := cell_of n4 1
    have c2 := cell_of n4 2
    have c3 := cell_of n4 3
    have z0 := free_of n4 0
    have z1 := free_of n4 1
    have z2 := free_of n4 2
    have z3 := free_of n4 3
    simp at c0 c1 c2 c3
    clear V t4 s4 T1 N1 n4
    obtain ⟨n, nul, hp⟩ := a
    unfold VT.v vt
    go_wp2_with fail
    refine bodyPost_ret (v := FT.v ⟨⟨n, nul, hp⟩, false⟩) (by simp [results, Tryd.results70, go_sem, FT.v, c0, c1, c2, c3]) rfl ?_
    exact ⟨_, st2, rfl, T4.out.set4 _ (Nat.le_refl _) _ _ _ _, S4.out.set4 _ (by omega) _ _ _ _, HV.out⟩
end Go.Proofs.YtmcljnohdknpoaaDoor
