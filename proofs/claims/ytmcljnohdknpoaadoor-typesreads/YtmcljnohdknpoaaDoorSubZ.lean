/-
  The walk of the reader's sub at a final type with numbers above it; no statement is proved here.
-/
import Derived.Test.YtmcljnohdknpoaaDoorSubX
namespace Go.Proofs.YtmcljnohdknpoaaDoor
open Go.RowKit
set_option linter.unusedVariables false
set_option linter.unusedSimpArgs false
set_option linter.constructorNameAsVariable false

set_option maxRecDepth 100000 in
set_option maxHeartbeats 8000000 in
theorem sub_final {w : World} {b : Nat} {s : ByteArray} {p : Nat} (h : RD w b s p) (hs : s.size ≤ 65536) (he : Env w) (hb8 : 8 ≤ b) (h1 : tk s p = WSUB) (h2 : tk s (nx s p) = WFINAL) :
    Calls Tryd.prog 48 #[.pointer (some ⟨b, 0, none⟩)] w (AnsB b s w (tailS s true (finS s (nx s (nx s p))))) := by
  have hb : b < w.heap.size := lt_of_obj h.1
  have HE : Hid (Env w) := he
  have R0 : Hid (RD (w.alloc (.cells #[.bool false, .slice none 0 0, .int .i64 0, .slice none 0 0, .slice none 0 0, .slice none 0 0] 62)) b s p) := h.grew ((Grew.refl w).alloc _)
  have T0 : Hid (Turn [b] w (w.alloc (.cells #[.bool false, .slice none 0 0, .int .i64 0, .slice none 0 0, .slice none 0 0, .slice none 0 0] 62))) := (Turn.refl [b] w).alloc _
  have N0 : Hid ((w.alloc (.cells #[.bool false, .slice none 0 0, .int .i64 0, .slice none 0 0, .slice none 0 0, .slice none 0 0] 62)).heap[w.heap.size]? = some (sobj false NILS 0 NILS NILS NILS)) := heap_alloc_last _ _
  have C := skip_yes R0.out hs WSUB h1
  have e1 := nx_of h.2.1 h1 (by decide)
  have e2 := nx_of e1.2 h2 (by decide)
  obtain ⟨R, hR⟩ : ∃ R, R = tailS s true (finS s (nx s (nx s p))) := ⟨_, rfl⟩
  rw [← hR]
  have HR : Hid (R = tailS s true (finS s (nx s (nx s p)))) := hR
  clear h he h1 hR R0
  go_enter Tryd.func48, Tryd.ntmps48
  go_wp2_with fail
  refine C.mono ?_
  rintro en w1 ⟨rfl, t1, r1⟩
  have T1 : Hid (Turn [b] w w1) := T0.out.trans t1
  have N1 : Hid (w1.heap[w.heap.size]? = some (sobj false NILS 0 NILS NILS NILS)) := t1.other N0.out (by simp; omega)
  have D := skip_yes r1 hs WFINAL h2
  clear C t1 r1 T0 N0 h2
  go_wp2_with fail
  refine D.mono ?_
  rintro en w2 ⟨rfl, t2, r2⟩
  have T2 : Hid (Turn [b] w w2) := T1.out.trans t2
  have N2 : Hid (w2.heap[w.heap.size]? = some (sobj false NILS 0 NILS NILS NILS)) := t2.other N1.out (by simp; omega)
  have R2 : Hid (RD w2 b s (nx s (nx s p))) := r2
  have hz1 := T2.out.size
  have hlt1 : w.heap.size < w2.heap.size := lt_of_obj N2.out
  clear D t2 r2 T1 N1
  obtain ⟨q0, hq0⟩ : ∃ q0, q0 = nx s (nx s p) := ⟨_, rfl⟩
  rw [← hq0] at HR R2 e2
  clear hq0 e1
  go_wp2_with fail
  generalize hW : w2.alloc (.cells #[.bool true, .slice none 0 0, .int .i64 0, .slice none 0 0, .slice none 0 0, .slice none 0 0] 62) = w0
  have hWs : w0.heap.size = w2.heap.size + 1 := by rw [← hW]; simp
  have g0 : Grew w2 w0 := by rw [← hW]; exact (Grew.refl w2).alloc _
  have T0 : Hid (Turn [b] w w0) := T2.out.trans (g0.turn _)
  have N0 : Hid (w0.heap[w.heap.size]? = some (sobj false NILS 0 NILS NILS NILS)) := (g0.turn []).other N2.out (by simp)
  have M0 : Hid (w0.heap[w2.heap.size]? = some (sobj true NILS 0 NILS NILS NILS)) := by rw [← hW]; exact heap_alloc_last _ _
  have R0 : Hid (RD w0 b s q0) := R2.out.grew g0
  have P0 : Hid (RowI (w2.heap.size + 1) w0 (.slice none 0 0) []) := RowI.nil _ _
  clear hW g0 T2 N2 R2
  obtain ⟨M, hM⟩ : ∃ M, M = w2.heap.size := ⟨_, rfl⟩
  rw [← hM] at hz1 hlt1 hWs M0 P0 ⊢
  clear hM
  unfold finS at HR
  cases hnum : numberS s q0 with
  | error f =>
    rw [hnum] at HR
    have HE3 : Hid (R = .error f) := HR.out
    have mq0 := cell_of M0.out 0
    simp at mq0
    clear HR
    go_wp2_with fail
    have NC : Hid (∀ w', Grew w0 w' → Calls Tryd.prog 67 #[.pointer (some ⟨b, 0, none⟩)] w' fun en w'' => en = .panicked (flt f) ∧ Turn [b] w0 w'') := by
      intro w' g
      refine (number_any (R0.out.grew g) hs ((HE.out.of_turn T0.out hb8).grew g)).mono ?_
      rw [hnum]
      rintro en w'' ⟨rfl, t⟩
      exact ⟨rfl, (g.turn _).trans t⟩
    have mq := cell_of M0.out 1
    simp [NILS] at mq
    have mz := free_of M0.out 1
    have q0a := cell_of (heap_alloc M0.out (.cells #[.int .i64 0] 3)) 1
    simp [NILS] at q0a
    go_region_law (first
      | (refine step_numBad (.tmp 17) rfl rfl rfl (NC.out _ (by first | exact Grew.refl _ | exact (Grew.refl _).drew | exact (Grew.refl _).drewN _)) (by rintro en w6 ⟨rfl, t6⟩; exact ⟨_, rfl, ⟨rfl, by rw [HE3.out]; exact ⟨rfl, T0.out.trans t6⟩⟩⟩) ?_
         intro hF)
      | (refine step_false w0 hF ?_))
    all_goals exact hF.out.elim
  | ok x =>
    obtain ⟨n, q2⟩ := x
    rw [hnum] at HR
    have hq2 := number_adv s q0 n q2 e2.2 hnum
    have HR2 : Hid (R = tailS s true (supS s [n] q2)) := HR.out
    have mq0 := cell_of M0.out 0
    simp at mq0
    clear HR
    go_wp2_with fail
    have NC : Hid (∀ w', Grew w0 w' → Calls Tryd.prog 67 #[.pointer (some ⟨b, 0, none⟩)] w' fun en w'' => en = .returned (.int .i64 n) ∧ Turn [b] w0 w'' ∧ RD w'' b s q2) := by
      intro w' g
      refine (number_any (R0.out.grew g) hs ((HE.out.of_turn T0.out hb8).grew g)).mono ?_
      rw [hnum]
      rintro en w'' ⟨rfl, t, r⟩
      exact ⟨rfl, (g.turn _).trans t, r⟩
    have mq := cell_of M0.out 1
    have mz := free_of M0.out 1
    simp [NILS] at mq
    go_region_law (first
      | (refine step_num (.tmp 17) rfl rfl rfl (NC.out _ (by first | exact Grew.refl _ | exact (Grew.refl _).drew | exact (Grew.refl _).drewN _)) ?_
         rintro en w6 ⟨rfl, t6, r6⟩
         refine Or.inl ⟨_, rfl, ?_⟩
         have T6 : Hid (Turn [b] w0 w6) := t6
         have R6 : Hid (RD w6 b s q2) := r6
         have I6 : Hid (RowI (M + 1) w6 (.slice none 0 0) ([] : List Int)) := P0.out.turn t6 R0.out.noI
         have m6 := t6.other M0.out (by simp; omega)
         have M6 : Hid (w6.heap[M]? = some (sobj true (.slice none 0 0) 0 NILS NILS NILS)) := m6
         have q6 := cell_of m6 1
         have z6 := free_of m6 1
         have hz6 := t6.size
         simp [NILS] at q6
         have q6a := cell_of (heap_alloc m6 (.cells #[.int .i64 n] 3)) 1
         simp [NILS] at q6a
         clear t6 r6 m6)
      | (refine step_appI (w0 := w6) (b := M + 1) (B := M + 1) (v := (.slice none 0 0)) (l := ([] : List Int)) (c := n) (ad := ⟨w6.heap.size, 0, none⟩) rfl (.tmp 16) (.tmp 19) rfl rfl rfl (by first | exact ((Grew.refl _).alloc _) | exact ((Grew.refl _).alloc _).drew | exact ((Grew.refl _).alloc _).drewN _ | exact ((Grew.refl _).drew.alloc _) | exact ((Grew.refl _).drewN _).alloc _ | exact (((Grew.refl _).drew).alloc _).drew) I6.out (by omega) (by simp) (by first | omega | simp) ?_
         intro v7 w7 I7' t7
         have I7 : Hid (RowI (M + 1) w7 v7 (([] : List Int) ++ [n])) := I7'
         obtain ⟨a7, c7, hv7⟩ := row_one I7'
         subst hv7
         have T7 : Hid (TB (M + 1) (M + 1) w6 w7) := t7
         have m7 := t7.other M6.out (by omega) (by omega)
         have M7 : Hid (w7.heap[M]? = some (sobj true (.slice none 0 0) 0 NILS NILS NILS)) := m7
         have q7 := cell_of m7 1
         have z7 := free_of m7 1
         have hz7 := t7.size
         simp [NILS] at q7
         clear t7 m7 I7'))
    all_goals
      clear hnum NC mq mz mq0
      have N7 : w7.heap[w.heap.size]? = some (sobj false NILS 0 NILS NILS NILS) := T7.out.other (T6.out.other N0.out (by simp; omega)) (by omega) (by omega)
      have R7 : RD w7 b s q2 := ⟨T7.out.other R6.out.1 (by omega) (by omega), R6.out.2⟩
      have T7b : Turn [b] w w7 := (T7.out.any (Nat.le_refl _)).turn (T0.out.trans T6.out) (by omega)
      have I7b : RowI (M + 1) w7 (.slice a7 1 c7) [n] := I7.out
      have hzz : M + 1 ≤ w7.heap.size := by omega
      clear T6 R6 I6 M6 q6 z6 q6a P0 R0 T0 N0 M0
      have R0 : Hid (RD (w7.setCell ⟨M, 1, none⟩ (.slice a7 1 c7)) b s q2) := R7.set (q := ⟨M, 1, none⟩) (by simp; omega) _
      have M0 : Hid ((w7.setCell ⟨M, 1, none⟩ (.slice a7 1 c7)).heap[M]? = some (sobj true (.slice a7 1 c7) 0 NILS NILS NILS)) := sobj_set1 M7.out _
      have N0 : Hid ((w7.setCell ⟨M, 1, none⟩ (.slice a7 1 c7)).heap[w.heap.size]? = some (sobj false NILS 0 NILS NILS NILS)) := heap_other N7 (by simp; omega) _
      have T0 : Hid (Turn [b] w (w7.setCell ⟨M, 1, none⟩ (.slice a7 1 c7))) := T7b.set (p := ⟨M, 1, none⟩) (Or.inr (by simp; omega)) _
      have P0 : Hid (RowI (M + 1) (w7.setCell ⟨M, 1, none⟩ (.slice a7 1 c7)) (.slice a7 1 c7) [n]) := I7b.setS (q := ⟨M, 1, none⟩) M7.out _
      have hzw : M + 1 ≤ (w7.setCell ⟨M, 1, none⟩ (.slice a7 1 c7)).heap.size := by simp; omega
      clear T7 I7 M7 q7 z7 hz7 N7 R7 T7b I7b hzz
      have HR : Hid (R = tailS s true (supS s [n] q2)) := HR2
      clear HR2
      generalize (w7.setCell ⟨M, 1, none⟩ (.slice a7 1 c7)) = W at *
      go_wp2_with fail
      have D0 := trivial
      clear D0
      go_loopw [] (fun w' => ∃ (q : Nat) (l : List Int) (sv : Value), Hid (RD w' b s q) ∧ Hid (w'.heap[M]? = some (sobj true sv 0 NILS NILS NILS)) ∧ Hid (w'.heap[w.heap.size]? = some (sobj false NILS 0 NILS NILS NILS)) ∧ Hid (RowI (M + 1) w' sv l) ∧ M + 1 ≤ w'.heap.size ∧ l.length ≤ q ∧ Hid (Turn [b] w w') ∧ Hid (R = tailS s true (supS s l q))) (fun w' => s.size - atOf w' b)
      case atStart => exact ⟨q2, [n], .slice a7 1 c7, R0, M0, N0, P0, hzw, by simp; omega, T0, HR⟩
      case round =>
        obtain ⟨q, l, sv, R0, M0, N0, P0, hBr, hll, T0, HE1⟩ := hrel
        obtain ⟨w0, hw0⟩ : ∃ w0, w0 = wr := ⟨_, rfl⟩
        rw [← hw0] at R0 M0 N0 P0 hBr T0 ⊢
        clear hw0
        have hqs : q ≤ s.size := R0.out.2.1
        have HE2 := HE1.out
        unfold supS at HE2
        rw [loopS_eq (sup_adv s) _ q hqs] at HE2
        obtain ⟨sa, sc, hsv⟩ := row_one P0.out
        subst hsv
        have MEA : Hid (atOf w0 b = q) := atOf_rdr R0.out.1
        by_cases h1 : tk s q = LP
        · have hst : supStep s l q = .ok (.inr (l, nx s q)) := by unfold supStep; rw [if_pos h1]
          rw [hst] at HE2
          have HE3 : Hid (R = closeS s (fun c => (⟨true, l, c⟩ : SB)) (compS s (nx s q))) := HE2
          have C := skip_yes R0.out hs LP h1
          clear HE1 HE2 hst
          go_wp2_with fail
          refine C.mono ?_
          rintro en w1 ⟨rfl, t1, r1⟩
          have T1 : Hid (Turn [b] w w1) := T0.out.trans t1
          have R1 : Hid (RD w1 b s (nx s q)) := r1
          have M1 : Hid (w1.heap[M]? = some (sobj true (.slice sa l.length sc) 0 NILS NILS NILS)) := t1.other M0.out (by simp; omega)
          have N1 : Hid (w1.heap[w.heap.size]? = some (sobj false NILS 0 NILS NILS NILS)) := t1.other N0.out (by simp; omega)
          have P1 : Hid (RowI (M + 1) w1 (.slice sa l.length sc) l) := P0.out.turn t1 R0.out.noI
          have hz1 := t1.size
          clear t1 r1 T0 M0 N0 P0
          clear C
          have V := comp_any R1.out hs (HE.out.of_turn T1.out hb8) hb8
          obtain ⟨r, hr⟩ : ∃ r, r = compS s (nx s q) := ⟨_, rfl⟩
          rw [← hr] at V HE3
          clear hr
          go_wp2_with fail
          refine V.mono ?_
          intro en w2 A2
          clear V
          cases r with
          | error f =>
            obtain ⟨rfl, t2⟩ := A2
            go_wp2_with fail
            exact ⟨rfl, by rw [HE3.out]; exact ⟨rfl, T1.out.trans t2⟩⟩
          | ok x =>
            obtain ⟨c, q2⟩ := x
            obtain ⟨v, rfl, ⟨pv, rv, fv, rfl, WP, WR, WF⟩, t2, r2⟩ := A2
            have HE4 : Hid (R = if tk s q2 = RP then .ok ((⟨true, l, c⟩ : SB), nx s q2) else .error q2) := HE3.out
            clear HE3
            have T2 : Hid (Turn [b] w w2) := T1.out.trans t2
            have R2 : Hid (RD w2 b s q2) := r2
            have M2 : Hid (w2.heap[M]? = some (sobj true (.slice sa l.length sc) 0 NILS NILS NILS)) := t2.other M1.out (by simp; omega)
            have N2 : Hid (w2.heap[w.heap.size]? = some (sobj false NILS 0 NILS NILS NILS)) := t2.other N1.out (by simp; omega)
            have P2 : Hid (RowI (M + 1) w2 (.slice sa l.length sc) l) := P1.out.turn t2 R1.out.noI
            have hz2 := t2.size
            clear t2 r2 T1 M1 N1 P1
            obtain ⟨pa, pc, hpv⟩ := row_one WP
            obtain ⟨ra, rc, hrv⟩ := row_one WR
            obtain ⟨fa, fc, hfv⟩ := row_one WF
            subst hpv
            subst hrv
            subst hfv
            have A2' : Hid (RowV w.heap.size w2 (.slice pa c.params.length pc) c.params) := WP.low (by omega)
            have B2 : Hid (RowV w.heap.size w2 (.slice ra c.results.length rc) c.results) := WR.low (by omega)
            have F2 : Hid (RowF w.heap.size w2 (.slice fa c.fields.length fc) c.fields) := WF.low (by omega)
            have mo := M2.out
            have c0 := cell_of mo 0
            have c1 := cell_of mo 1
            have c2 := cell_of mo 2
            have c3 := cell_of mo 3
            have c4 := cell_of mo 4
            have c5 := cell_of mo 5
            have z0 := free_of mo 0
            have z1 := free_of mo 1
            have z2 := free_of mo 2
            have z3 := free_of mo 3
            have z4 := free_of mo 4
            have z5 := free_of mo 5
            simp [NILS] at c0 c1 c2 c3 c4 c5
            clear WP WR WF mo
            go_wp2_with fail
            generalize hw3 : (((w2.setCell ⟨M, 2, none⟩ (.int .i64 c.kind)).setCell ⟨M, 3, none⟩ (.slice pa c.params.length pc)).setCell ⟨M, 4, none⟩ (.slice ra c.results.length rc)).setCell ⟨M, 5, none⟩ (.slice fa c.fields.length fc) = w3
            have hM2 : w2.heap[M]? = some (.cells #[.bool true, .slice sa l.length sc, .int .i64 0, NILS, NILS, NILS] 62 (0, 0)) := M2.out
            obtain ⟨d1, k1⟩ := heap_sub hM2 2 (.int .i64 c.kind)
            obtain ⟨d2, k2⟩ := heap_sub k1 3 (.slice pa c.params.length pc)
            obtain ⟨d3, k3⟩ := heap_sub k2 4 (.slice ra c.results.length rc)
            have M3 : Hid (w3.heap[M]? = some (sobj true (.slice sa l.length sc) c.kind (.slice pa c.params.length pc) (.slice ra c.results.length rc) (.slice fa c.fields.length fc))) := by
              rw [← hw3]
              have e1 := heap_set hM2 2 (.int .i64 c.kind)
              have e2 := heap_set e1 3 (.slice pa c.params.length pc)
              have e3 := heap_set e2 4 (.slice ra c.results.length rc)
              have e4 := heap_set e3 5 (.slice fa c.fields.length fc)
              exact e4
            have T3 : Hid (Turn [b] w w3) := by
              rw [← hw3]
              exact (((T2.out.set (p := ⟨M, 2, none⟩) (Or.inr (by simp; omega)) _).set (p := ⟨M, 3, none⟩) (Or.inr (by simp; omega)) _).set (p := ⟨M, 4, none⟩) (Or.inr (by simp; omega)) _).set (p := ⟨M, 5, none⟩) (Or.inr (by simp; omega)) _
            have R3 : Hid (RD w3 b s q2) := by
              rw [← hw3]
              exact (((R2.out.set (q := ⟨M, 2, none⟩) (by simp; omega) _).set (q := ⟨M, 3, none⟩) (by simp; omega) _).set (q := ⟨M, 4, none⟩) (by simp; omega) _).set (q := ⟨M, 5, none⟩) (by simp; omega) _
            have N3 : Hid (w3.heap[w.heap.size]? = some (sobj false NILS 0 NILS NILS NILS)) := by
              rw [← hw3]
              exact heap_other (heap_other (heap_other (heap_other N2.out (by simp; omega) _) (by simp; omega) _) (by simp; omega) _) (by simp; omega) _
            have I3 : Hid (RowI w.heap.size w3 (.slice sa l.length sc) l) := by
              rw [← hw3]
              exact row_low (row_setS (row_setS (row_setS (row_setS P2.out (q := ⟨M, 2, none⟩) hM2 (by decide) _) (q := ⟨M, 3, none⟩) k1 (by decide) _) (q := ⟨M, 4, none⟩) k2 (by decide) _) (q := ⟨M, 5, none⟩) k3 (by decide) _) (by omega)
            have A3 : Hid (RowV w.heap.size w3 (.slice pa c.params.length pc) c.params) := by
              rw [← hw3]
              exact row_setS (row_setS (row_setS (row_setS A2'.out (q := ⟨M, 2, none⟩) hM2 (by decide) _) (q := ⟨M, 3, none⟩) k1 (by decide) _) (q := ⟨M, 4, none⟩) k2 (by decide) _) (q := ⟨M, 5, none⟩) k3 (by decide) _
            have B3 : Hid (RowV w.heap.size w3 (.slice ra c.results.length rc) c.results) := by
              rw [← hw3]
              exact row_setS (row_setS (row_setS (row_setS B2.out (q := ⟨M, 2, none⟩) hM2 (by decide) _) (q := ⟨M, 3, none⟩) k1 (by decide) _) (q := ⟨M, 4, none⟩) k2 (by decide) _) (q := ⟨M, 5, none⟩) k3 (by decide) _
            have F3 : Hid (RowF w.heap.size w3 (.slice fa c.fields.length fc) c.fields) := by
              rw [← hw3]
              exact row_setS (row_setS (row_setS (row_setS F2.out (q := ⟨M, 2, none⟩) hM2 (by decide) _) (q := ⟨M, 3, none⟩) k1 (by decide) _) (q := ⟨M, 4, none⟩) k2 (by decide) _) (q := ⟨M, 5, none⟩) k3 (by decide) _
            clear hw3 c0 c1 c2 c3 c4 c5 z0 z1 z2 z3 z4 z5 T2 R2 N2 M2 P2 A2' B2 F2 hM2 d1 k1 d2 k2 d3 k3
            by_cases hq : tk s q2 = RP
            · rw [if_pos hq] at HE4
              refine (take_yes R3.out hs RP hq).mono ?_
              rintro en w4 ⟨rfl, t4, r4⟩
              have T4 : Hid (Turn [b] w w4) := T3.out.trans t4
              have R4 : Hid (RD w4 b s (nx s q2)) := r4
              have m4 := t4.other M3.out (by simp; omega)
              have n4 := t4.other N3.out (by simp; omega)
              have N4 : Hid (w4.heap[w.heap.size]? = some (sobj false NILS 0 NILS NILS NILS)) := n4
              have I4 : Hid (RowI w.heap.size w4 (.slice sa l.length sc) l) := I3.out.turn t4 R3.out.noI
              have A4 : Hid (RowV w.heap.size w4 (.slice pa c.params.length pc) c.params) := A3.out.turn t4 R3.out.noV
              have B4 : Hid (RowV w.heap.size w4 (.slice ra c.results.length rc) c.results) := B3.out.turn t4 R3.out.noV
              have F4 : Hid (RowF w.heap.size w4 (.slice fa c.fields.length fc) c.fields) := F3.out.turn t4 R3.out.noF
              have m0 := cell_of m4 0
              have m1 := cell_of m4 1
              have m2 := cell_of m4 2
              have m3 := cell_of m4 3
              have m4x := cell_of m4 4
              have m5 := cell_of m4 5
              have c0 := cell_of n4 0
              have c1 := cell_of n4 1
              have c2 := cell_of n4 2
              have c3 := cell_of n4 3
              have c4 := cell_of n4 4
              have c5 := cell_of n4 5
              have z0 := free_of n4 0
              have z1 := free_of n4 1
              have z2 := free_of n4 2
              have z3 := free_of n4 3
              have z4 := free_of n4 4
              have z5 := free_of n4 5
              simp [NILS] at m0 m1 m2 m3 m4x m5 c0 c1 c2 c3 c4 c5
              clear t4 r4 m4 n4
              go_wp2_with fail
              refine bodyPost_ret (v := .agg #[.bool true, .slice sa l.length sc, .int .i64 c.kind, .slice pa c.params.length pc, .slice ra c.results.length rc, .slice fa c.fields.length fc]) (by simp [results, Tryd.results48, go_sem, c0, c1, c2, c3, c4, c5]) rfl ?_
              rw [HE4.out]
              exact ⟨[.bool true, .slice sa l.length sc, .int .i64 c.kind, .slice pa c.params.length pc, .slice ra c.results.length rc, .slice fa c.fields.length fc], rfl, sub_end (x := ⟨true, l, c⟩) N4.out (Nat.le_refl _) (B := w.heap.size) (Nat.le_refl _) I4.out A4.out B4.out F4.out T4.out R4.out (by omega)⟩
            · rw [if_neg hq] at HE4
              refine (take_no R3.out RP hq).mono ?_
              rintro en w4 ⟨rfl, h4⟩
              obtain rfl := h4.symm
              go_wp2_with fail
              exact ⟨rfl, by rw [HE4.out]; exact ⟨rfl, T3.out⟩⟩
        · have C := skip_no R0.out LP h1
          cases hnum : numberS s q with
          | error f =>
            have hst : supStep s l q = .error f := by unfold supStep; rw [if_neg h1, hnum]
            rw [hst] at HE2
            have HE3 : Hid (R = .error f) := HE2
            clear HE1 HE2 hst
            go_wp2_with fail
            refine C.mono ?_
            rintro en w1 ⟨rfl, h1'⟩
            obtain rfl := h1'.symm
            clear C
            go_wp2_with fail
            have NC : Hid (∀ w', Grew w0 w' → Calls Tryd.prog 67 #[.pointer (some ⟨b, 0, none⟩)] w' fun en w'' => en = .panicked (flt f) ∧ Turn [b] w0 w'') := by
              intro w' g
              refine (number_any (R0.out.grew g) hs ((HE.out.of_turn T0.out hb8).grew g)).mono ?_
              rw [hnum]
              rintro en w'' ⟨rfl, t⟩
              exact ⟨rfl, (g.turn _).trans t⟩
            have mq := cell_of M0.out 1
            simp [NILS] at mq
            have mz := free_of M0.out 1
            have q0a := cell_of (heap_alloc M0.out (.cells #[.int .i64 0] 3)) 1
            simp [NILS] at q0a
            go_region_law (first
              | (refine step_numBad (.tmp 27) rfl rfl rfl (NC.out _ (by first | exact Grew.refl _ | exact (Grew.refl _).drew | exact (Grew.refl _).drewN _)) (by rintro en w6 ⟨rfl, t6⟩; exact ⟨_, rfl, ⟨rfl, by rw [HE3.out]; exact ⟨rfl, T0.out.trans t6⟩⟩⟩) ?_
                 intro hF)
              | (refine step_false w0 hF ?_))
            all_goals exact hF.out.elim
          | ok x =>
            obtain ⟨n, q2⟩ := x
            have hq2 := number_adv s q n q2 hqs hnum
            have hst : supStep s l q = .ok (.inl (l ++ [n], q2)) := by unfold supStep; rw [if_neg h1, hnum]
            rw [hst] at HE2
            have HE3 : Hid (R = tailS s true (supS s (l ++ [n]) q2)) := HE2
            clear HE1 HE2 hst
            go_wp2_with fail
            refine C.mono ?_
            rintro en w1 ⟨rfl, h1'⟩
            obtain rfl := h1'.symm
            clear C
            go_wp2_with fail
            have NC : Hid (∀ w', Grew w0 w' → Calls Tryd.prog 67 #[.pointer (some ⟨b, 0, none⟩)] w' fun en w'' => en = .returned (.int .i64 n) ∧ Turn [b] w0 w'' ∧ RD w'' b s q2) := by
              intro w' g
              refine (number_any (R0.out.grew g) hs ((HE.out.of_turn T0.out hb8).grew g)).mono ?_
              rw [hnum]
              rintro en w'' ⟨rfl, t, r⟩
              exact ⟨rfl, (g.turn _).trans t, r⟩
            have mq := cell_of M0.out 1
            have mz := free_of M0.out 1
            simp [NILS] at mq
            go_region_law (first
              | (refine step_num (.tmp 27) rfl rfl rfl (NC.out _ (by first | exact Grew.refl _ | exact (Grew.refl _).drew | exact (Grew.refl _).drewN _)) ?_
                 rintro en w6 ⟨rfl, t6, r6⟩
                 refine Or.inl ⟨_, rfl, ?_⟩
                 have T6 : Hid (Turn [b] w0 w6) := t6
                 have R6 : Hid (RD w6 b s q2) := r6
                 have I6 : Hid (RowI (M + 1) w6 (.slice sa l.length sc) l) := P0.out.turn t6 R0.out.noI
                 have m6 := t6.other M0.out (by simp; omega)
                 have M6 : Hid (w6.heap[M]? = some (sobj true (.slice sa l.length sc) 0 NILS NILS NILS)) := m6
                 have q6 := cell_of m6 1
                 have z6 := free_of m6 1
                 have hz6 := t6.size
                 simp [NILS] at q6
                 have q6a := cell_of (heap_alloc m6 (.cells #[.int .i64 n] 3)) 1
                 simp [NILS] at q6a
                 clear t6 r6 m6)
              | (refine step_appI (w0 := w6) (b := M + 1) (B := M + 1) (v := (.slice sa l.length sc)) (l := l) (c := n) (ad := ⟨w6.heap.size, 0, none⟩) rfl (.tmp 26) (.tmp 29) rfl rfl rfl (by first | exact ((Grew.refl _).alloc _) | exact ((Grew.refl _).alloc _).drew | exact ((Grew.refl _).alloc _).drewN _ | exact ((Grew.refl _).drew.alloc _) | exact ((Grew.refl _).drewN _).alloc _ | exact (((Grew.refl _).drew).alloc _).drew) I6.out (by omega) (by simp) (by first | omega | simp) ?_
                 intro v7 w7 I7' t7
                 have I7 : Hid (RowI (M + 1) w7 v7 (l ++ [n])) := I7'
                 obtain ⟨a7, c7, hv7⟩ := row_one I7'
                 subst hv7
                 have T7 : Hid (TB (M + 1) (M + 1) w6 w7) := t7
                 have m7 := t7.other M6.out (by omega) (by omega)
                 have M7 : Hid (w7.heap[M]? = some (sobj true (.slice sa l.length sc) 0 NILS NILS NILS)) := m7
                 have q7 := cell_of m7 1
                 have z7 := free_of m7 1
                 have hz7 := t7.size
                 simp [NILS] at q7
                 clear t7 m7 I7'))
            all_goals
              go_wp2_with fail
              go_roundw
              case rel =>
                have N7 : w7.heap[w.heap.size]? = some (sobj false NILS 0 NILS NILS NILS) := T7.out.other (T6.out.other N0.out (by simp; omega)) (by omega) (by omega)
                have R7 : RD w7 b s q2 := ⟨T7.out.other R6.out.1 (by omega) (by omega), R6.out.2⟩
                have T7b : Turn [b] w w7 := (T7.out.any (Nat.le_refl _)).turn (T0.out.trans T6.out) (by omega)
                have I7b : RowI (M + 1) w7 (.slice a7 (l.length + 1) c7) (l ++ [n]) := by have := I7.out; simpa using this
                exact ⟨q2, l ++ [n], .slice a7 (l.length + 1) c7, R7.set (q := ⟨M, 1, none⟩) (by simp; omega) _, sobj_set1 M7.out _, heap_other N7 (by simp; omega) _, I7b.setS (q := ⟨M, 1, none⟩) M7.out _, by simp; omega, by simp; omega, T7b.set (p := ⟨M, 1, none⟩) (Or.inr (by simp; omega)) _, HE3⟩
              case measure =>
                have R7 : RD w7 b s q2 := ⟨T7.out.other R6.out.1 (by omega) (by omega), R6.out.2⟩
                rw [MEA.out, atOf_rdr (R7.set (q := ⟨M, 1, none⟩) (by simp; omega) _).1]
                omega
end Go.Proofs.YtmcljnohdknpoaaDoor
