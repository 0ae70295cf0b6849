/-
  The walk of the reader's field; no statement is proved here.
-/
import Derived.Test.YtmcljnohdknpoaaDoorUpV
import Derived.Test.YtmcljnohdknpoaaDoorUpF
namespace Go.Proofs.YtmcljnohdknpoaaDoor
open Go.RowKit
set_option linter.unusedVariables false
set_option linter.unusedSimpArgs false
set_option linter.constructorNameAsVariable false

def zf : Obj := .cells #[.int .i64 0, .bool false, .int .i64 0, .bool false] 94 (0, 0)
theorem Turn.set4 {S : List Nat} {w w' : World} (h : Turn S w w') (N : Nat) (hN : w.heap.size ≤ N) (x y z u : Value) : Turn S w ((((w'.setCell ⟨N, 0, none⟩ x).setCell ⟨N, 1, none⟩ y).setCell ⟨N, 2, none⟩ z).setCell ⟨N, 3, none⟩ u) :=
  (h.set3 N hN x y z).set (p := ⟨N, 3, none⟩) (Or.inr hN) u
theorem RD.set4 {w : World} {b : Nat} {s : ByteArray} {p : Nat} (h : RD w b s p) (N : Nat) (hN : b ≠ N) (x y z u : Value) : RD ((((w.setCell ⟨N, 0, none⟩ x).setCell ⟨N, 1, none⟩ y).setCell ⟨N, 2, none⟩ z).setCell ⟨N, 3, none⟩ u) b s p :=
  (h.set3 N hN x y z).set (q := ⟨N, 3, none⟩) hN u
theorem Env.of_turn {w0 w : World} {b : Nat} (h : Env w0) (t : Turn [b] w0 w) (hb : 8 ≤ b) : Env w := h.turn t (by intro g hg; simp at hg; omega)
set_option maxRecDepth 100000 in
set_option maxHeartbeats 1000000 in
theorem field_any {w : World} {b : Nat} {s : ByteArray} {p : Nat} (h : RD w b s p) (hs : s.size ≤ 65536) (he : Env w) (hb8 : 8 ≤ b) :
    Calls Tryd.prog 82 #[.pointer (some ⟨b, 0, none⟩)] w (Ans FT.v b s w (fieldS s p)) := by
  have hb : b < w.heap.size := lt_of_obj h.1
  have R0 : Hid (RD (w.alloc (.cells #[.int .i64 0, .bool false, .int .i64 0, .bool false] 94)) b s p) := h.grew ((Grew.refl w).alloc _)
  have HE : Hid (Env w) := he
  have T0 : Hid (Turn [b] w (w.alloc (.cells #[.int .i64 0, .bool false, .int .i64 0, .bool false] 94))) := (Turn.refl [b] w).alloc _
  have N0 : Hid ((w.alloc (.cells #[.int .i64 0, .bool false, .int .i64 0, .bool false] 94)).heap[w.heap.size]? = some zf) := heap_alloc_last _ _
  clear h he
  obtain ⟨R, hR⟩ : ∃ R, R = fieldS s p := ⟨_, rfl⟩
  rw [← hR]
  have HR : Hid (R = fieldS s p) := hR
  clear hR
  by_cases h1 : tk s p = LP
  · have C := skip_yes R0.out hs LP h1
    by_cases h2 : tk s (nx s p) = WMUT
    · have HS : Hid (R = closeS s (fun v => (⟨v, true⟩ : FT)) (valS s (nx s (nx s p)))) := by rw [HR.out]; unfold fieldS; rw [if_pos h1, if_pos h2]; exact rfl
      clear HR h1
      go_enter Tryd.func82, Tryd.ntmps82
      go_wp2_with fail
      refine C.mono ?_
      rintro en w1 ⟨rfl, t1, r1⟩
      have T1 : Hid (Turn [b] w w1) := T0.out.trans t1
      have N1 : Hid (w1.heap[w.heap.size]? = some zf) := t1.other N0.out (by simp; omega)
      have D := skip_yes r1 hs WMUT h2
      clear C t1 r1 T0 N0 R0 h2
      go_wp2_with fail
      refine D.mono ?_
      rintro en w2 ⟨rfl, t2, r2⟩
      have T2 : Hid (Turn [b] w w2) := T1.out.trans t2
      have N2 : Hid (w2.heap[w.heap.size]? = some zf) := t2.other N1.out (by simp; omega)
      have V := val_any r2 hs (HE.out.of_turn T2.out hb8) hb8
      clear D t2 r2 T1 N1
      go_wp2_with fail
      refine V.mono ?_
      intro en w3 A3
      clear V
      cases hv : valS s (nx s (nx s p)) with
      | error f =>
        rw [hv] at A3 HS
        obtain ⟨rfl, t3⟩ := A3
        have HS' : Hid (R = .error f) := HS.out
        clear HS hv
        go_wp2_with fail
        exact ⟨rfl, by rw [HS'.out]; exact ⟨rfl, T2.out.trans t3⟩⟩
      | ok x =>
        obtain ⟨⟨n, nul, hp⟩, q⟩ := x
        rw [hv] at A3 HS
        obtain ⟨rfl, t3, r3⟩ := A3
        have HS' : Hid (R = if tk s q = RP then .ok ((⟨⟨n, nul, hp⟩, true⟩ : FT), nx s q) else .error q) := HS.out
        have T3 : Hid (Turn [b] w w3) := T2.out.trans t3
        have N3 : Hid (w3.heap[w.heap.size]? = some zf) := t3.other N2.out (by simp; omega)
        have R3 : Hid (RD w3 b s q) := r3
        have hlt3 : w.heap.size < w3.heap.size := lt_of_obj N3.out
        clear HS hv t3 r3 T2 N2
        unfold VT.v vt
        go_wp2_with fail
        generalize hw4 : w3.alloc (.cells #[.int .i64 n, .bool nul, .int .i64 hp, .bool true] 94) = w4
        have g4 : Grew w3 w4 := by rw [← hw4]; exact (Grew.refl w3).alloc _
        have M4 : Hid (w4.heap[w3.heap.size]? = some (.cells #[.int .i64 n, .bool nul, .int .i64 hp, .bool true] 94 (0, 0))) := by rw [← hw4]; exact heap_alloc_last _ _
        have T4 : Hid (Turn [b] w w4) := T3.out.trans (g4.turn _)
        have N4 : Hid (w4.heap[w.heap.size]? = some zf) := (g4.turn []).other N3.out (by simp)
        have R4 : Hid (RD w4 b s q) := R3.out.grew g4
        clear hw4 g4 T3 N3 R3
        by_cases hq : tk s q = RP
        · rw [if_pos hq] at HS'
          refine (take_yes R4.out hs RP hq).mono ?_
          rintro en w6 ⟨rfl, t6, r6⟩
          have T6 : Hid (Turn [b] w w6) := T4.out.trans t6
          have R6 : Hid (RD w6 b s (nx s q)) := r6
          have hM6 := t6.other M4.out (by simp; omega)
          have hN6 := t6.other N4.out (by simp; omega)
          have m0 := cell_of hM6 0
          have m1 := cell_of hM6 1
          have m2 := cell_of hM6 2
          have m3 := cell_of hM6 3
          have c0 := cell_of hN6 0
          have c1 := cell_of hN6 1
          have c2 := cell_of hN6 2
          have c3 := cell_of hN6 3
          have z0 := free_of hN6 0
          have z1 := free_of hN6 1
          have z2 := free_of hN6 2
          have z3 := free_of hN6 3
          simp at m0 m1 m2 m3 c0 c1 c2 c3
          clear t6 r6 hM6 hN6
          go_wp2_with fail
          refine bodyPost_ret (v := FT.v ⟨⟨n, nul, hp⟩, true⟩) (by simp [results, Tryd.results82, go_sem, FT.v, c0, c1, c2, c3]) rfl ?_
          rw [HS'.out]
          exact ⟨rfl, T6.out.set4 _ (Nat.le_refl _) _ _ _ _, R6.out.set4 _ (by omega) _ _ _ _⟩
        · rw [if_neg hq] at HS'
          refine (take_no R4.out RP hq).mono ?_
          rintro en w6 ⟨rfl, h6⟩
          obtain rfl := h6.symm
          go_wp2_with fail
          exact ⟨rfl, by rw [HS'.out]; exact ⟨rfl, T4.out⟩⟩
    · have HS : Hid (R = mapS (fun v => (⟨v, false⟩ : FT)) (refS s (nx s p))) := by rw [HR.out]; unfold fieldS; rw [if_pos h1, if_neg h2]; exact rfl
      clear HR h1
      go_enter Tryd.func82, Tryd.ntmps82
      go_wp2_with fail
      refine C.mono ?_
      rintro en w1 ⟨rfl, t1, r1⟩
      have T1 : Hid (Turn [b] w w1) := T0.out.trans t1
      have N1 : Hid (w1.heap[w.heap.size]? = some zf) := t1.other N0.out (by simp; omega)
      have D := skip_no r1 WMUT h2
      have V := ref_any r1 hs (HE.out.of_turn T1.out hb8) hb8
      clear C t1 r1 T0 N0 R0 h2
      go_wp2_with fail
      refine D.mono ?_
      rintro en w2 ⟨rfl, h2⟩
      obtain rfl := h2.symm
      clear D
      go_wp2_with fail
      refine V.mono ?_
      intro en w3 A3
      clear V
      cases hv : refS s (nx s p) with
      | error f =>
        rw [hv] at A3 HS
        obtain ⟨rfl, t3⟩ := A3
        have HS' : Hid (R = .error f) := HS.out
        clear HS hv
        go_wp2_with fail
        exact ⟨rfl, by rw [HS'.out]; exact ⟨rfl, T1.out.trans t3⟩⟩
      | ok x =>
        obtain ⟨⟨n, nul, hp⟩, q⟩ := x
        rw [hv] at A3 HS
        obtain ⟨rfl, t3, r3⟩ := A3
        have HS' : Hid (R = .ok ((⟨⟨n, nul, hp⟩, false⟩ : FT), q)) := HS.out
        have T3 : Hid (Turn [b] w w3) := T1.out.trans t3
        have R3 : Hid (RD w3 b s q) := r3
        have hN6 := t3.other N1.out (by simp; omega)
        have c0 := cell_of hN6 0
        have c1 := cell_of hN6 1
        have c2 := cell_of hN6 2
        have c3 := cell_of hN6 3
        have z0 := free_of hN6 0
        have z1 := free_of hN6 1
        have z2 := free_of hN6 2
        have z3 := free_of hN6 3
        simp at c0 c1 c2 c3
        clear HS hv t3 r3 T1 N1 hN6
        unfold VT.v vt
        go_wp2_with fail
        refine bodyPost_ret (v := FT.v ⟨⟨n, nul, hp⟩, false⟩) (by simp [results, Tryd.results82, go_sem, FT.v, c0, c1, c2, c3]) rfl ?_
        rw [HS'.out]
        exact ⟨rfl, T3.out.set4 _ (Nat.le_refl _) _ _ _ _, R3.out.set4 _ (by omega) _ _ _ _⟩
  · have C := skip_no R0.out LP h1
    have HS : Hid (R = mapS (fun v => (⟨v, false⟩ : FT)) (numS s p)) := by rw [HR.out]; unfold fieldS; rw [if_neg h1]; exact rfl
    have V := num_any R0.out hs (HE.out.grew ((Grew.refl w).alloc _))
    clear HR h1
    go_enter Tryd.func82, Tryd.ntmps82
    go_wp2_with fail
    refine C.mono ?_
    rintro en w1 ⟨rfl, h1⟩
    obtain rfl := h1.symm
    clear C
    go_wp2_with fail
    refine V.mono ?_
    intro en w3 A3
    clear V
    cases hv : numS s p with
    | error f =>
      rw [hv] at A3 HS
      obtain ⟨rfl, t3⟩ := A3
      have HS' : Hid (R = .error f) := HS.out
      clear HS hv
      go_wp2_with fail
      exact ⟨rfl, by rw [HS'.out]; exact ⟨rfl, T0.out.trans t3⟩⟩
    | ok x =>
      obtain ⟨⟨n, nul, hp⟩, q⟩ := x
      rw [hv] at A3 HS
      obtain ⟨rfl, t3, r3⟩ := A3
      have HS' : Hid (R = .ok ((⟨⟨n, nul, hp⟩, false⟩ : FT), q)) := HS.out
      have T3 : Hid (Turn [b] w w3) := T0.out.trans t3
      have R3 : Hid (RD w3 b s q) := r3
      have hN6 := t3.other N0.out (by simp; omega)
      have c0 := cell_of hN6 0
      have c1 := cell_of hN6 1
      have c2 := cell_of hN6 2
      have c3 := cell_of hN6 3
      have z0 := free_of hN6 0
      have z1 := free_of hN6 1
      have z2 := free_of hN6 2
      have z3 := free_of hN6 3
      simp at c0 c1 c2 c3
      clear HS hv t3 r3 T0 N0 hN6
      unfold VT.v vt
      go_wp2_with fail
      refine bodyPost_ret (v := FT.v ⟨⟨n, nul, hp⟩, false⟩) (by simp [results, Tryd.results82, go_sem, FT.v, c0, c1, c2, c3]) rfl ?_
      rw [HS'.out]
      exact ⟨rfl, T3.out.set4 _ (Nat.le_refl _) _ _ _ _, R3.out.set4 _ (by omega) _ _ _ _⟩
end Go.Proofs.YtmcljnohdknpoaaDoor
