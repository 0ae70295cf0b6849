/-
  The document's reading: the walk of rec; no statement is proved here.
-/
import Derived.Test.YtgdhocdbcgmokaaDoorDSb8
import Derived.Deep.RegionLaw
namespace Go.Proofs.YtgdhocdbcgmokaaDoor
open Go.RowKit
set_option linter.unusedVariables false
set_option linter.unusedSimpArgs false
set_option linter.constructorNameAsVariable false

set_option maxRecDepth 100000 in
set_option maxHeartbeats 1000000 in
theorem drec_else {w : World} {b : Nat} {v : Value} {l : List Int} {p : Nat} (h : DR w b v l (.ok p)) (hp : p < l.length) (c : Int) (hcv : l.getD p 0 = c) (d1 : (c != 78) = true) :
    Calls Tryd.prog 77 #[.pointer (some ⟨b, 0, none⟩)] w (TAns RecC b v l w (mapR (fun t => ⟨[t], false⟩) (subR l p))) := by
  have H : Hid (DR w b v l (.ok p)) := h
  have hb : b < w.heap.size := h.lt
  have P : Hid (∀ w', DR w' b v l (.ok p) → Calls Tryd.prog 116 #[.pointer (some ⟨b, 0, none⟩)] w' fun en w'' => en = .returned (.tuple #[.int .u8 c, .bool true]) ∧ Grew w' w'') := fun w' u => by rw [← hcv]; exact dpeek_ok u hp
  clear h hcv
  have S0 : Hid (DR (w.alloc (.cells #[.slice none 0 0, .bool false] 70)) b v l (.ok p)) := H.out.grew ((Grew.refl w).alloc _)
  have T0 : Hid (Turn [b] w (w.alloc (.cells #[.slice none 0 0, .bool false] 70))) := (Turn.refl [b] w).alloc _
  have N0 : Hid ((w.alloc (.cells #[.slice none 0 0, .bool false] 70)).heap[w.heap.size]? = some (.cells #[.slice none 0 0, .bool false] 70 (0, 0))) := heap_alloc_last _ _
  go_enter Tryd.func77, Tryd.ntmps77
  go_wp2_with fail
  refine (P.out _ S0.out).mono ?_
  rintro en w1 ⟨rfl, g1⟩
  have T1 : Hid (Turn [b] w w1) := T0.out.trans (g1.turn _)
  have S1 : Hid (DR w1 b v l (.ok p)) := S0.out.grew g1
  have N1 : Hid (w1.heap[w.heap.size]? = some (.cells #[.slice none 0 0, .bool false] 70 (0, 0))) := (g1.turn []).other N0.out (by simp)
  clear g1 T0 S0 N0
  go_wp2_with fail
  refine (dsub_any S1.out).mono ?_
  rintro en w2 ⟨cs, x, st4, rfl, r4, ⟨t2, s2⟩, e4⟩
  have T2 : Hid (Turn [b] w w2) := T1.out.trans t2
  have S2 : Hid (DR w2 b v l st4) := s2
  have E4 : Hid _ := e4
  have N2 : Hid (w2.heap[w.heap.size]? = some (.cells #[.slice none 0 0, .bool false] 70 (0, 0))) := t2.other N1.out (by simp; omega)
  have HC3 : Hid (SubC w.heap.size w2 cs x) := r4.low T1.out.size
  obtain ⟨sv, pv, rv, fv, hcs, z1, z2, z3, z4⟩ := r4
  obtain ⟨sa, sc, hsv⟩ := row_one z1
  obtain ⟨pa, pc, hpv⟩ := row_one z2
  obtain ⟨ra, rc, hrv⟩ := row_one z3
  obtain ⟨fa, fc, hfv⟩ := row_one z4
  subst hsv
  subst hpv
  subst hrv
  subst hfv
  subst hcs
  clear z1 z2 z3 z4
  clear t2 s2 e4 T1 S1 N1
  have hlk : w.heap.size < w2.heap.size := lt_of_obj N2.out
  have hne : ¬ b = w.heap.size := by omega
  have hne2 : ¬ w2.heap.size = w.heap.size := by omega
  have hne3 : ¬ w.heap.size = w2.heap.size := by omega
  have n0 := cell_of N2.out 0
  have n1 := cell_of N2.out 1
  have y0 := free_of N2.out 0
  have y1 := free_of N2.out 1
  simp at n0 n1
  go_wp2_with fail
  generalize hWf : (((w2.setCell ⟨w.heap.size, 0, none⟩ (.slice (some ⟨w2.heap.size, 0, none⟩) 1 1)).setCell ⟨w.heap.size, 1, none⟩ (.bool false)).alloc (.cells #[.bool x.final_, .slice sa x.supers.length sc, .int .i64 x.comp.kind, .slice pa x.comp.params.length pc, .slice ra x.comp.results.length rc, .slice fa x.comp.fields.length fc] 63)) = Wf
  have hN : Wf.heap[w.heap.size]? = some (.cells #[.slice (some ⟨w2.heap.size, 0, none⟩) 1 1, .bool false] 70 (0, 0)) := by
    rw [← hWf]
    refine heap_alloc ?_ _
    rw [heap_set (heap_set N2.out 0 _) 1 _]
    rfl
  have m0 := cell_of hN 0
  have m1 := cell_of hN 1
  simp at m0 m1
  refine bodyPost_ret (v := .agg #[.slice (some ⟨w2.heap.size, 0, none⟩) 1 1, .bool false]) (by simp [results, Tryd.results77, go_sem, m0, m1]) rfl ?_
  rw [← hWf]
  have hNT : ∀ (e : TypeId), 70 ≠ e → ∀ y ∈ [w.heap.size], NoT w2 y e := fun e he y hy => by simp at hy; subst hy; exact NoT.of N2.out he
  have tk : Turn [w.heap.size] w2 ((w2.setCell ⟨w.heap.size, 0, none⟩ (.slice (some ⟨w2.heap.size, 0, none⟩) 1 1)).setCell ⟨w.heap.size, 1, none⟩ (.bool false)) := ((Turn.refl [w.heap.size] w2).set (p := ⟨w.heap.size, 0, none⟩) (Or.inl (by simp)) _).set (p := ⟨w.heap.size, 1, none⟩) (Or.inl (by simp)) _
  have hsub : SubsQ w.heap.size (((w2.setCell ⟨w.heap.size, 0, none⟩ (.slice (some ⟨w2.heap.size, 0, none⟩) 1 1)).setCell ⟨w.heap.size, 1, none⟩ (.bool false)).alloc (.cells #[.bool x.final_, .slice sa x.supers.length sc, .int .i64 x.comp.kind, .slice pa x.comp.params.length pc, .slice ra x.comp.results.length rc, .slice fa x.comp.fields.length fc] 63)) (.slice (some ⟨w2.heap.size, 0, none⟩) 1 1) [x] := by
    have h := row_new ((w2.setCell ⟨w.heap.size, 0, none⟩ (.slice (some ⟨w2.heap.size, 0, none⟩) 1 1)).setCell ⟨w.heap.size, 1, none⟩ (.bool false)) 63 6 (by decide) #[.bool x.final_, .slice sa x.supers.length sc, .int .i64 x.comp.kind, .slice pa x.comp.params.length pc, .slice ra x.comp.results.length rc, .slice fa x.comp.fields.length fc] rfl (by simp [Value.oneCell'])
    have hz : ((w2.setCell ⟨w.heap.size, 0, none⟩ (.slice (some ⟨w2.heap.size, 0, none⟩) 1 1)).setCell ⟨w.heap.size, 1, none⟩ (.bool false)).heap.size = w2.heap.size := by simp
    rw [hz] at h
    refine ⟨_, row_low h (Nat.le_of_lt hlk), fun i y hy => ?_⟩
    have hi : i = 0 := by
      rcases Nat.eq_zero_or_pos i with h | h
      · exact h
      · rw [List.getElem?_eq_none (by simp; omega)] at hy; cases hy
    subst hi
    simp only [List.getElem?_cons_zero, Option.some.injEq] at hy
    subst hy
    exact (HC3.out.turn tk (hNT 3 (by decide)) (hNT 29 (by decide)) (hNT 48 (by decide))).grew ((Grew.refl _).alloc _)
  exact ⟨[.slice (some ⟨w2.heap.size, 0, none⟩) 1 1, .bool false], ⟨[x], false⟩, st4, rfl, ⟨_, rfl, hsub⟩, (((FinD.mk_ T2.out S2.out).set H.out (Nat.le_refl _)).set H.out (Nat.le_refl _)).grew ((Grew.refl _).alloc _), TieD.map (fun t => (⟨[t], false⟩ : RT)) E4.out⟩
theorem rec_no {l : List Int} {st : Except (Nat × Nat) Nat} (hp : ¬ Ahead l st) : runR (recR l) st = mapR (fun t => ⟨[t], false⟩) (runR (subR l) st) := by
  cases st with
  | error e => rfl
  | ok p =>
    have hp' : ¬ p < l.length := fun h => hp ⟨p, rfl, h⟩
    show recR l p = mapR _ (subR l p)
    unfold recR subR
    rw [atR_no hp', atR_no hp']
    rfl
set_option maxRecDepth 100000 in
set_option maxHeartbeats 1000000 in
theorem drec_no {w : World} {b : Nat} {v : Value} {l : List Int} {st : Except (Nat × Nat) Nat} (h : DR w b v l st) (hp : ¬ Ahead l st) :
    Calls Tryd.prog 77 #[.pointer (some ⟨b, 0, none⟩)] w (TAns RecC b v l w (runR (recR l) st)) := by
  have H : Hid (DR w b v l st) := h
  have hb : b < w.heap.size := h.lt
  rw [rec_no hp]
  clear h
  have S0 : Hid (DR (w.alloc (.cells #[.slice none 0 0, .bool false] 70)) b v l st) := H.out.grew ((Grew.refl w).alloc _)
  have T0 : Hid (Turn [b] w (w.alloc (.cells #[.slice none 0 0, .bool false] 70))) := (Turn.refl [b] w).alloc _
  have N0 : Hid ((w.alloc (.cells #[.slice none 0 0, .bool false] 70)).heap[w.heap.size]? = some (.cells #[.slice none 0 0, .bool false] 70 (0, 0))) := heap_alloc_last _ _
  go_enter Tryd.func77, Tryd.ntmps77
  go_wp2_with fail
  refine (dpeek_no S0.out hp).mono ?_
  rintro en w1 ⟨rfl, g1⟩
  have T1 : Hid (Turn [b] w w1) := T0.out.trans (g1.turn _)
  have S1 : Hid (DR w1 b v l st) := S0.out.grew g1
  have N1 : Hid (w1.heap[w.heap.size]? = some (.cells #[.slice none 0 0, .bool false] 70 (0, 0))) := (g1.turn []).other N0.out (by simp)
  clear g1 T0 S0 N0
  go_wp2_with fail
  refine (dsub_any S1.out).mono ?_
  rintro en w2 ⟨cs, x, st4, rfl, r4, ⟨t2, s2⟩, e4⟩
  have T2 : Hid (Turn [b] w w2) := T1.out.trans t2
  have S2 : Hid (DR w2 b v l st4) := s2
  have E4 : Hid _ := e4
  have N2 : Hid (w2.heap[w.heap.size]? = some (.cells #[.slice none 0 0, .bool false] 70 (0, 0))) := t2.other N1.out (by simp; omega)
  have HC3 : Hid (SubC w.heap.size w2 cs x) := r4.low T1.out.size
  obtain ⟨sv, pv, rv, fv, hcs, z1, z2, z3, z4⟩ := r4
  obtain ⟨sa, sc, hsv⟩ := row_one z1
  obtain ⟨pa, pc, hpv⟩ := row_one z2
  obtain ⟨ra, rc, hrv⟩ := row_one z3
  obtain ⟨fa, fc, hfv⟩ := row_one z4
  subst hsv
  subst hpv
  subst hrv
  subst hfv
  subst hcs
  clear z1 z2 z3 z4
  clear t2 s2 e4 T1 S1 N1
  have hlk : w.heap.size < w2.heap.size := lt_of_obj N2.out
  have hne : ¬ b = w.heap.size := by omega
  have hne2 : ¬ w2.heap.size = w.heap.size := by omega
  have hne3 : ¬ w.heap.size = w2.heap.size := by omega
  have n0 := cell_of N2.out 0
  have n1 := cell_of N2.out 1
  have y0 := free_of N2.out 0
  have y1 := free_of N2.out 1
  simp at n0 n1
  go_wp2_with fail
  generalize hWf : (((w2.setCell ⟨w.heap.size, 0, none⟩ (.slice (some ⟨w2.heap.size, 0, none⟩) 1 1)).setCell ⟨w.heap.size, 1, none⟩ (.bool false)).alloc (.cells #[.bool x.final_, .slice sa x.supers.length sc, .int .i64 x.comp.kind, .slice pa x.comp.params.length pc, .slice ra x.comp.results.length rc, .slice fa x.comp.fields.length fc] 63)) = Wf
  have hN : Wf.heap[w.heap.size]? = some (.cells #[.slice (some ⟨w2.heap.size, 0, none⟩) 1 1, .bool false] 70 (0, 0)) := by
    rw [← hWf]
    refine heap_alloc ?_ _
    rw [heap_set (heap_set N2.out 0 _) 1 _]
    rfl
  have m0 := cell_of hN 0
  have m1 := cell_of hN 1
  simp at m0 m1
  refine bodyPost_ret (v := .agg #[.slice (some ⟨w2.heap.size, 0, none⟩) 1 1, .bool false]) (by simp [results, Tryd.results77, go_sem, m0, m1]) rfl ?_
  rw [← hWf]
  have hNT : ∀ (e : TypeId), 70 ≠ e → ∀ y ∈ [w.heap.size], NoT w2 y e := fun e he y hy => by simp at hy; subst hy; exact NoT.of N2.out he
  have tk : Turn [w.heap.size] w2 ((w2.setCell ⟨w.heap.size, 0, none⟩ (.slice (some ⟨w2.heap.size, 0, none⟩) 1 1)).setCell ⟨w.heap.size, 1, none⟩ (.bool false)) := ((Turn.refl [w.heap.size] w2).set (p := ⟨w.heap.size, 0, none⟩) (Or.inl (by simp)) _).set (p := ⟨w.heap.size, 1, none⟩) (Or.inl (by simp)) _
  have hsub : SubsQ w.heap.size (((w2.setCell ⟨w.heap.size, 0, none⟩ (.slice (some ⟨w2.heap.size, 0, none⟩) 1 1)).setCell ⟨w.heap.size, 1, none⟩ (.bool false)).alloc (.cells #[.bool x.final_, .slice sa x.supers.length sc, .int .i64 x.comp.kind, .slice pa x.comp.params.length pc, .slice ra x.comp.results.length rc, .slice fa x.comp.fields.length fc] 63)) (.slice (some ⟨w2.heap.size, 0, none⟩) 1 1) [x] := by
    have h := row_new ((w2.setCell ⟨w.heap.size, 0, none⟩ (.slice (some ⟨w2.heap.size, 0, none⟩) 1 1)).setCell ⟨w.heap.size, 1, none⟩ (.bool false)) 63 6 (by decide) #[.bool x.final_, .slice sa x.supers.length sc, .int .i64 x.comp.kind, .slice pa x.comp.params.length pc, .slice ra x.comp.results.length rc, .slice fa x.comp.fields.length fc] rfl (by simp [Value.oneCell'])
    have hz : ((w2.setCell ⟨w.heap.size, 0, none⟩ (.slice (some ⟨w2.heap.size, 0, none⟩) 1 1)).setCell ⟨w.heap.size, 1, none⟩ (.bool false)).heap.size = w2.heap.size := by simp
    rw [hz] at h
    refine ⟨_, row_low h (Nat.le_of_lt hlk), fun i y hy => ?_⟩
    have hi : i = 0 := by
      rcases Nat.eq_zero_or_pos i with h | h
      · exact h
      · rw [List.getElem?_eq_none (by simp; omega)] at hy; cases hy
    subst hi
    simp only [List.getElem?_cons_zero, Option.some.injEq] at hy
    subst hy
    exact (HC3.out.turn tk (hNT 3 (by decide)) (hNT 29 (by decide)) (hNT 48 (by decide))).grew ((Grew.refl _).alloc _)
  exact ⟨[.slice (some ⟨w2.heap.size, 0, none⟩) 1 1, .bool false], ⟨[x], false⟩, st4, rfl, ⟨_, rfl, hsub⟩, (((FinD.mk_ T2.out S2.out).set H.out (Nat.le_refl _)).set H.out (Nat.le_refl _)).grew ((Grew.refl _).alloc _), TieD.map (fun t => (⟨[t], false⟩ : RT)) E4.out⟩
set_option maxRecDepth 100000 in
set_option maxHeartbeats 1000000 in
theorem drec_78 {w : World} {b : Nat} {v : Value} {l : List Int} {p : Nat} (h : DR w b v l (.ok p)) (hp : p < l.length) (c : Int) (hcv : l.getD p 0 = c) (hn : c = 78) :
    Calls Tryd.prog 77 #[.pointer (some ⟨b, 0, none⟩)] w (TAns RecC b v l w (mapR (fun ts => ⟨ts, true⟩) (listR 10000 (subR l) l (p + 1)))) := by
  have H : Hid (DR w b v l (.ok p)) := h
  have hb : b < w.heap.size := h.lt
  have hl := h.len
  have P : Hid (∀ w', DR w' b v l (.ok p) → Calls Tryd.prog 116 #[.pointer (some ⟨b, 0, none⟩)] w' fun en w'' => en = .returned (.tuple #[.int .u8 c, .bool true]) ∧ Grew w' w'') := fun w' u => by rw [← hcv]; exact dpeek_ok u hp
  clear h hcv
  subst hn
  obtain ⟨R, hR⟩ : ∃ R, R = listR 10000 (subR l) l (p + 1) := ⟨_, rfl⟩
  rw [← hR]
  have C : Hid (∀ w', DR w' b v l (.ok (p + 1)) → Calls Tryd.prog 126 #[.pointer (some ⟨b, 0, none⟩), .int .i64 10000] w' fun en w'' => ∃ (N : Nat) (st1 : Except (Nat × Nat) Nat), en = .returned (.int .i64 (N : Int)) ∧ N ≤ 10000 ∧ FinD b v l w' w'' st1 ∧ Left R (subR l) N [] st1) := fun w' u => by rw [hR]; exact many_tie u 10000 (by decide) (subR l)
  clear hR
  have S0 : Hid (DR (w.alloc (.cells #[.slice none 0 0, .bool false] 70)) b v l (.ok p)) := H.out.grew ((Grew.refl w).alloc _)
  have T0 : Hid (Turn [b] w (w.alloc (.cells #[.slice none 0 0, .bool false] 70))) := (Turn.refl [b] w).alloc _
  have N0 : Hid ((w.alloc (.cells #[.slice none 0 0, .bool false] 70)).heap[w.heap.size]? = some (.cells #[.slice none 0 0, .bool false] 70 (0, 0))) := heap_alloc_last _ _
  go_enter Tryd.func77, Tryd.ntmps77
  go_wp2_with fail
  refine (P.out _ S0.out).mono ?_
  rintro en w1 ⟨rfl, g1⟩
  have T1 : Hid (Turn [b] w w1) := T0.out.trans (g1.turn _)
  have S1 : Hid (DR w1 b v l (.ok p)) := S0.out.grew g1
  have N1 : Hid (w1.heap[w.heap.size]? = some (.cells #[.slice none 0 0, .bool false] 70 (0, 0))) := (g1.turn []).other N0.out (by simp)
  clear g1 T0 S0 N0
  have c1_1 := cell_of S1.out.st.1 1
  have z1_1 := free_of S1.out.st.1 1
  simp at c1_1
  have hq2 : p + 1 ≤ l.length := by omega
  go_wp2_with fail
  generalize hw2 : w1.setCell { block := b, off := 1 } (Value.int IntKind.i64 ((p : Int) + 1)) = w2
  have hsz : w2.heap.size = w1.heap.size := by rw [← hw2]; simp
  have f2 : FinD b v l w w2 (.ok (p + 1)) := by rw [← hw2]; exact (FinD.mk_ T1.out S1.out).inc hq2
  have T2 : Hid (Turn [b] w w2) := f2.1
  have S2 : Hid (DR w2 b v l (.ok (p + 1))) := f2.2
  have N2 : Hid (w2.heap[w.heap.size]? = some (.cells #[.slice none 0 0, .bool false] 70 (0, 0))) := by rw [← hw2]; exact heap_other N1.out (by simp; omega) _
  clear f2 hw2 c1_1 z1_1 T1 S1 N1
  have hNM : w.heap.size < w1.heap.size := by rw [← hsz]; exact lt_of_obj N2.out
  generalize hw3 : w2.alloc (.cells #[.slice none 0 0, .bool true] 70) = w3
  have X3 : Hid (CX w b w1.heap.size v l (.cells #[.slice none 0 0, .bool false] 70 (0, 0)) (.cells #[.slice none 0 0, .bool true] 70 (0, 0)) (.ok (p + 1)) w3) := by
    rw [← hw3, ← hsz]
    exact ⟨heap_alloc_last _ _, (((Grew.refl w2).alloc _).turn []).other N2.out (by simp), by simp, T2.out.alloc _, S2.out.grew ((Grew.refl w2).alloc _)⟩
  clear hw3 T2 S2 N2 hsz
  generalize w1.heap.size = M at *
  refine (C.out _ X3.out.2.2.2.2).mono ?_
  rintro en w4 ⟨N, st1, rfl, hN, ⟨t4, s4⟩, e4⟩
  have X4 : Hid (CX w b M v l (.cells #[.slice none 0 0, .bool false] 70 (0, 0)) (.cells #[.slice none 0 0, .bool true] 70 (0, 0)) st1 w4) := X3.out.next t4 s4 hb hNM
  have E3 : Hid (Left R (subR l) N [] st1) := e4
  clear t4 s4 e4 X3
  go_wp2_with fail
  go_loopw [7] (fun i_ wr => ∃ (k : Nat) (acc : List SB) (fv : Value) (stq : Except (Nat × Nat) Nat), i_ = .int .i64 k ∧ k ≤ N ∧ acc.length = k ∧ Hid (CX w b M v l (.cells #[.slice none 0 0, .bool false] 70 (0, 0)) (.cells #[fv, .bool true] 70 (0, 0)) stq wr) ∧ Hid (SubsQ (M + 1) wr fv acc) ∧ Hid (Left R (subR l) (N - k) acc stq)) (fun i_ _ => N - (intOf i_).toNat)
  case atStart => exact ⟨0, [], .slice none 0 0, st1, rfl, by omega, rfl, X4, SubsQ.nil _ _, E3⟩
  case round =>
    obtain ⟨k, acc, fv, stq, rfl, hk, hacc, XR, FR, ER⟩ := hrel
    subst hacc
    obtain ⟨aa, cc, hv⟩ := FR.out.one
    subst hv
    obtain ⟨w0, hw0⟩ : ∃ w0, w0 = wr := ⟨_, rfl⟩
    rw [← hw0] at XR FR ⊢
    clear hw0 X4 E3
    rcases ER.out with ⟨q, rfl, hE⟩ | ⟨e, rfl, hE⟩
    · have c3 := cell_of XR.out.2.2.2.2.st.1 3
      simp at c3
      by_cases hkn : acc.length < N
      · have d4 : decide ((acc.length : Int) < (N : Int)) = true := by simp; omega
        have d4' : decide (acc.length < N) = true := by simpa using hkn
        rw [show N - acc.length = (N - (acc.length + 1)) + 1 by omega] at hE
        have HE : Hid (∀ x st', TieD (runR (subR l) (.ok q)) x st' → Left R (subR l) (N - (acc.length + 1)) (acc ++ [x]) st') := fun x st' t => Left.next hE t
        have NC : Hid (∀ w', Grew w0 w' → Calls Tryd.prog 74 #[.pointer (some ⟨b, 0, none⟩)] w' fun en w'' => ∃ cs x st', en = .returned (.agg cs.toArray) ∧ SubC (M + 1) w'' cs x ∧ Turn [b] w0 w'' ∧ DR w'' b v l st' ∧ TieD (runR (subR l) (.ok q)) x st') := by
          intro w' g
          refine (dsub_any (XR.out.2.2.2.2.grew g)).mono ?_
          rintro en w'' ⟨cs, x, st', rfl, r, ⟨t, s'⟩, td⟩
          refine ⟨cs, x, st', rfl, r.low ?_, (g.turn _).trans t, s', td⟩
          have := XR.out.2.2.1
          have := g.2
          omega
        have mq := cell_of XR.out.1 0
        have mz := free_of XR.out.1 0
        simp at mq
        clear hE ER
        go_wp2_with fail
        go_region_law (first
          | (refine step_sub (.tmp 47) rfl rfl rfl (NC.out _ (by first | exact Grew.refl _ | exact (Grew.refl _).drew | exact (Grew.refl _).drewN _ | exact ((Grew.refl _).drew).drew | exact ((Grew.refl _).drewN _).drew)) ?_
             rintro en w6 ⟨cs6, y6, st6, rfl, r6, t6, s6, td6⟩
             refine ⟨_, rfl, ?_⟩
             have R6 : Hid (SubC (M + 1) w6 cs6 y6) := r6
             obtain ⟨sv, pv, rv, fv, hcs, z1, z2, z3, z4⟩ := r6
             obtain ⟨sa, sc, hsv⟩ := row_one z1
             obtain ⟨pa, pc, hpv⟩ := row_one z2
             obtain ⟨ra, rc, hrv⟩ := row_one z3
             obtain ⟨fa, fc, hfv⟩ := row_one z4
             subst hsv
             subst hpv
             subst hrv
             subst hfv
             subst hcs
             have y7 := XR.out.next t6 s6 hb hNM
             have X6 : Hid (CX w b M v l (.cells #[.slice none 0 0, .bool false] 70 (0, 0)) (.cells #[.slice aa acc.length cc, .bool true] 70 (0, 0)) st6 w6) := y7
             have Q6 : Hid (SubsQ (M + 1) w6 (.slice aa acc.length cc) acc) := FR.out.next t6 XR.out.2.2.2.2
             have TD6 : Hid (TieD (runR (subR l) (.ok q)) y6 st6) := td6
             have q6 := cell_of y7.1 0
             have zz6 := free_of y7.1 0
             simp at q6
             have q6a := cell_of (heap_alloc y7.1 (.cells #[.bool y6.final_, .slice sa y6.supers.length sc, .int .i64 y6.comp.kind, .slice pa y6.comp.params.length pc, .slice ra y6.comp.results.length rc, .slice fa y6.comp.fields.length fc] 63)) 0
             simp at q6a
             clear t6 s6 td6 y7 z1 z2 z3 z4)
          | (refine step_appS (w0 := w6) (B := M + 1) (v := (.slice aa acc.length cc)) (l := acc) (y := y6) (new := (#[.bool y6.final_, .slice sa y6.supers.length sc, .int .i64 y6.comp.kind, .slice pa y6.comp.params.length pc, .slice ra y6.comp.results.length rc, .slice fa y6.comp.fields.length fc] : Array Value).toList) (gg := w6.heap.size) rfl (.tmp 46) (.tmp 49) rfl rfl rfl (by first | exact ((Grew.refl _).alloc _) | exact ((Grew.refl _).alloc _).drew | exact ((Grew.refl _).alloc _).drewN _ | exact ((Grew.refl _).drew.alloc _) | exact ((Grew.refl _).drewN _).alloc _ | exact (((Grew.refl _).drew).alloc _).drew | exact (((Grew.refl _).drewN _).alloc _).drew) Q6.out X6.out.2.2.1 R6.out (by intro j u hj; rw [Array.getElem?_toList] at hj; exact (cell_of (heap_alloc_last w6 _) j).trans hj) (by first | omega | simp) ?_
             intro v7 w7 I7' t7
             obtain ⟨a7, c7, hv7⟩ := I7'.one
             subst hv7
             have Q7 : Hid (SubsQ (M + 1) w7 (.slice a7 (acc ++ [y6]).length c7) (acc ++ [y6])) := I7'
             have y7 := X6.out.app H.out (t7 _) hb hNM
             have X7 : Hid (CX w b M v l (.cells #[.slice none 0 0, .bool false] 70 (0, 0)) (.cells #[.slice aa acc.length cc, .bool true] 70 (0, 0)) st6 w7) := y7
             have q7 := cell_of y7.1 0
             have z7 := free_of y7.1 0
             simp at q7
             clear t7 y7 I7'))
        all_goals
          go_wp2_with fail
          have X8 := X7.out.set (o' := (.cells #[.slice a7 (acc ++ [y6]).length c7, .bool true] 70 (0, 0))) H.out hNM 0 (.slice a7 (acc ++ [y6]).length c7) (by have hh := heap_set X7.out.1 0 (.slice a7 (acc ++ [y6]).length c7); simpa using hh)
          have hNT : ∀ (e : TypeId), 70 ≠ e → ∀ y ∈ [M], NoT w7 y e := fun e he y hy => by simp at hy; subst hy; exact NoT.of X7.out.1 he
          have F8 : SubsQ (M + 1) (w7.setCell ⟨M, 0, none⟩ (.slice a7 (acc ++ [y6]).length c7)) _ _ := Q7.out.turn ((Turn.refl [M] w7).set (p := ⟨M, 0, none⟩) (Or.inl (by simp)) _) (hNT _ (by decide)) (hNT _ (by decide)) (hNT _ (by decide)) (hNT _ (by decide))
          have E8 := HE.out _ _ TD6.out
          simp only [List.length_append, List.length_cons, List.length_nil, Nat.zero_add] at X8 F8
          go_roundw
          case rel => exact ⟨acc.length + 1, acc ++ [y6], _, st6, by go_num, by omega, by simp, X8, F8, E8⟩
          case measure => simp [intOf]; omega
      · have d4 : decide ((acc.length : Int) < (N : Int)) = false := by simp; omega
        have d4' : decide (acc.length < N) = false := by simpa using hkn
        rw [show N - acc.length = 0 by omega] at hE
        have TE : Hid (TieD R acc (.ok q)) := hE
        clear hE ER
        have m0 := cell_of XR.out.1 0
        have m1 := cell_of XR.out.1 1
        have n0 := cell_of XR.out.2.1 0
        have n1 := cell_of XR.out.2.1 1
        have y0 := free_of XR.out.2.1 0
        have y1 := free_of XR.out.2.1 1
        simp at m0 m1 n0 n1
        have hne : ¬ b = w.heap.size := by omega
        have hn2 : ¬ M = w.heap.size := by omega
        go_wp2_with fail
        have tN : Turn [w.heap.size] w0 ((w0.setCell ⟨w.heap.size, 0, none⟩ (.slice aa acc.length cc)).setCell ⟨w.heap.size, 1, none⟩ (.bool true)) := ((Turn.refl [w.heap.size] w0).set (Or.inl (by simp)) _).set (Or.inl (by simp)) _
        have hNT : ∀ (e : TypeId), 70 ≠ e → ∀ y ∈ [w.heap.size], NoT w0 y e := fun e he y hy => by simp at hy; subst hy; exact NoT.of XR.out.2.1 he
        have R9 := (FR.out.turn tN (hNT _ (by decide)) (hNT _ (by decide)) (hNT _ (by decide)) (hNT _ (by decide))).low (show w.heap.size ≤ M + 1 by omega)
        have FF := ((FinD.mk_ XR.out.2.2.2.1 XR.out.2.2.2.2).set (N := w.heap.size) (j := 0) H.out (Nat.le_refl _) (x := .slice aa acc.length cc)).set (j := 1) H.out (Nat.le_refl _) (x := .bool true)
        refine bodyPost_ret (v := .agg #[.slice aa acc.length cc, .bool true]) (by simp [results, Tryd.results77, go_sem, n0, n1]) rfl ?_
        exact ⟨[.slice aa acc.length cc, .bool true], ⟨acc, true⟩, _, rfl, ⟨_, rfl, R9⟩, FF, TieD.map (fun ts => (⟨ts, true⟩ : RT)) TE.out⟩
    · have TE : Hid (TieD R acc (.error e)) := hE
      obtain ⟨fe, ee⟩ := e
      obtain ⟨a1, o1, _, he1⟩ := XR.out.2.2.2.2.st
      have c3 := cell_of o1 3
      simp at c3
      have de : ((ee : Int) == 0) = false := by simp; exact he1
      clear hE ER o1
      by_cases hkn : acc.length < N
      · have d4 : decide ((acc.length : Int) < (N : Int)) = true := by simp; omega
        have d4' : decide (acc.length < N) = true := by simpa using hkn
        have m0 := cell_of XR.out.1 0
        have m1 := cell_of XR.out.1 1
        have n0 := cell_of XR.out.2.1 0
        have n1 := cell_of XR.out.2.1 1
        have y0 := free_of XR.out.2.1 0
        have y1 := free_of XR.out.2.1 1
        simp at m0 m1 n0 n1
        have hne : ¬ b = w.heap.size := by omega
        have hn2 : ¬ M = w.heap.size := by omega
        go_wp2_with fail
        have tN : Turn [w.heap.size] w0 ((w0.setCell ⟨w.heap.size, 0, none⟩ (.slice aa acc.length cc)).setCell ⟨w.heap.size, 1, none⟩ (.bool true)) := ((Turn.refl [w.heap.size] w0).set (Or.inl (by simp)) _).set (Or.inl (by simp)) _
        have hNT : ∀ (e : TypeId), 70 ≠ e → ∀ y ∈ [w.heap.size], NoT w0 y e := fun e he y hy => by simp at hy; subst hy; exact NoT.of XR.out.2.1 he
        have R9 := (FR.out.turn tN (hNT _ (by decide)) (hNT _ (by decide)) (hNT _ (by decide)) (hNT _ (by decide))).low (show w.heap.size ≤ M + 1 by omega)
        have FF := ((FinD.mk_ XR.out.2.2.2.1 XR.out.2.2.2.2).set (N := w.heap.size) (j := 0) H.out (Nat.le_refl _) (x := .slice aa acc.length cc)).set (j := 1) H.out (Nat.le_refl _) (x := .bool true)
        refine bodyPost_ret (v := .agg #[.slice aa acc.length cc, .bool true]) (by simp [results, Tryd.results77, go_sem, n0, n1]) rfl ?_
        exact ⟨[.slice aa acc.length cc, .bool true], ⟨acc, true⟩, _, rfl, ⟨_, rfl, R9⟩, FF, TieD.map (fun ts => (⟨ts, true⟩ : RT)) TE.out⟩
      · have d4 : decide ((acc.length : Int) < (N : Int)) = false := by simp; omega
        have d4' : decide (acc.length < N) = false := by simpa using hkn
        have m0 := cell_of XR.out.1 0
        have m1 := cell_of XR.out.1 1
        have n0 := cell_of XR.out.2.1 0
        have n1 := cell_of XR.out.2.1 1
        have y0 := free_of XR.out.2.1 0
        have y1 := free_of XR.out.2.1 1
        simp at m0 m1 n0 n1
        have hne : ¬ b = w.heap.size := by omega
        have hn2 : ¬ M = w.heap.size := by omega
        go_wp2_with fail
        have tN : Turn [w.heap.size] w0 ((w0.setCell ⟨w.heap.size, 0, none⟩ (.slice aa acc.length cc)).setCell ⟨w.heap.size, 1, none⟩ (.bool true)) := ((Turn.refl [w.heap.size] w0).set (Or.inl (by simp)) _).set (Or.inl (by simp)) _
        have hNT : ∀ (e : TypeId), 70 ≠ e → ∀ y ∈ [w.heap.size], NoT w0 y e := fun e he y hy => by simp at hy; subst hy; exact NoT.of XR.out.2.1 he
        have R9 := (FR.out.turn tN (hNT _ (by decide)) (hNT _ (by decide)) (hNT _ (by decide)) (hNT _ (by decide))).low (show w.heap.size ≤ M + 1 by omega)
        have FF := ((FinD.mk_ XR.out.2.2.2.1 XR.out.2.2.2.2).set (N := w.heap.size) (j := 0) H.out (Nat.le_refl _) (x := .slice aa acc.length cc)).set (j := 1) H.out (Nat.le_refl _) (x := .bool true)
        refine bodyPost_ret (v := .agg #[.slice aa acc.length cc, .bool true]) (by simp [results, Tryd.results77, go_sem, n0, n1]) rfl ?_
        exact ⟨[.slice aa acc.length cc, .bool true], ⟨acc, true⟩, _, rfl, ⟨_, rfl, R9⟩, FF, TieD.map (fun ts => (⟨ts, true⟩ : RT)) TE.out⟩
theorem drec_any {w : World} {b : Nat} {v : Value} {l : List Int} {st : Except (Nat × Nat) Nat} (h : DR w b v l st) :
    Calls Tryd.prog 77 #[.pointer (some ⟨b, 0, none⟩)] w (TAns RecC b v l w (runR (recR l) st)) := by
  by_cases hp : Ahead l st
  · obtain ⟨p, rfl, hp⟩ := hp
    show Calls _ _ _ _ (TAns _ _ _ _ _ (recR l p))
    unfold recR
    rw [atR_in hp]
    generalize hc : l.getD p 0 = c at *
    by_cases h1 : c = 78
    · subst h1
      exact drec_78 h hp 78 hc rfl
    · rw [if_neg h1]
      exact drec_else h hp c hc (by simpa using h1)
  · exact drec_no h hp
end Go.Proofs.YtgdhocdbcgmokaaDoor
