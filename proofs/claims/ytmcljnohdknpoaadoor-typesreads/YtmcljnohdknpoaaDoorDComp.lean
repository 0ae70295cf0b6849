/-
  The document's reading: the walk of comp; no statement is proved here.
-/
import Derived.Test.YtmcljnohdknpoaaDoorDCompW
namespace Go.Proofs.YtmcljnohdknpoaaDoor
open Go.RowKit
set_option linter.unusedVariables false
set_option linter.unusedSimpArgs false
set_option linter.constructorNameAsVariable false

def AnsD (b : Nat) (s : ByteArray) (w : World) (st : Except Nat Nat) (en : Ending) (w' : World) : Prop := ∃ v x st', en = .returned v ∧ CompQ w.heap.size w' v x ∧ Turn [b] w w' ∧ ST w' b s st' ∧ Tied (compS s) st x st'
set_option maxRecDepth 100000 in
set_option maxHeartbeats 4000000 in
theorem dcomp_fun {w : World} {b : Nat} {s : ByteArray} {p : Nat} (h : ST w b s (.ok p)) (hs : s.size ≤ 65536) (h1 : tk s p = WFUNC) :
    Calls Tryd.prog 51 #[.pointer (some ⟨b, 0, none⟩)] w (AnsD b s w (.ok p)) := by
  have hb : b < w.heap.size := h.lt
  obtain ⟨M, hM⟩ : ∃ M, M = w.heap.size + 1 := ⟨_, rfl⟩
  have H0 : Hid (ST w b s (.ok p)) := h
  clear h
  go_enter Tryd.func51, Tryd.ntmps51
  go_wp2_with fail
  rw [← hM]
  generalize hW : ((w.alloc (.cells #[.int .i64 0, .slice none 0 0, .slice none 0 0, .slice none 0 0] 60)).alloc (.cells #[.int .i64 0, .slice none 0 0, .slice none 0 0, .slice none 0 0] 60)) = W
  have g0 : Grew w W := by rw [← hW]; exact ((Grew.refl w).alloc _).alloc _
  have X0 : Hid (CX w b M s (cobj 0 NILS NILS NILS) (.ok p) W) := by
    have e : (w.alloc (.cells #[.int .i64 0, .slice none 0 0, .slice none 0 0, .slice none 0 0] 60)).heap.size = M := by simp [hM]
    refine ⟨?_, ?_, ?_, g0.turn _, H0.out.grew g0⟩
    · rw [← hW, ← e]
      exact heap_alloc_last _ _
    · rw [← hW]
      exact heap_alloc (heap_alloc_last _ _) _
    · rw [← hW, hM]
      simp
  have hNM : w.heap.size < M := by omega
  have HM : Hid (M = w.heap.size + 1) := hM
  clear hM hW g0 H0
  refine (is_yes X0.out.2.2.2.2 hs WFUNC h1 (by decide)).mono ?_
  rintro en w1 ⟨rfl, t1, s1⟩
  have Y1 := X0.out.next t1 (st' := .ok (nx s p)) s1 hb hNM
  have X1 : Hid (CX w b M s (cobj 0 NILS NILS NILS) (.ok (nx s p)) w1) := Y1
  have c0 := cell_of Y1.1 0
  have z0 := free_of Y1.1 0
  simp [NILS] at c0
  clear t1 s1 Y1 X0
  go_wp2_with fail
  have X2 : Hid (CX w b M s (cobj 1 NILS NILS NILS) (.ok (nx s p)) (w1.setCell ⟨M, 0, none⟩ (.int .i64 1))) := X1.out.set hb hNM 0 (.int .i64 1) (cobj_set0 X1.out.1 1)
  generalize w1.setCell ⟨M, 0, none⟩ (.int .i64 1) = w2 at *
  clear X1 c0 z0
  go_loopw [] (fun w' => ∃ (stq : Except Nat Nat) (ps : List VT) (pv : Value), Hid (CX w b M s (cobj 1 pv NILS NILS) stq w') ∧ Hid (RowV (M + 1) w' pv ps) ∧ Hid (∀ q, stq = .ok q → ps.length ≤ q) ∧ Hid (∀ x st', Tied (loopS s (funStep s) ⟨false, ps, []⟩) stq x st' → Tied (compS s) (.ok p) x st')) (fun w' => mOf s w' b)
  case atStart => exact ⟨_, [], NILS, X2, RowV.nil _ _, fun q h => Nat.zero_le _, fun x st' h => comp_fun h1 h⟩
  case round =>
    obtain ⟨stq, ps, pv, XR, PR, LR, TR⟩ := hrel
    obtain ⟨w0, hw0⟩ : ∃ w0, w0 = wr := ⟨_, rfl⟩
    rw [← hw0] at XR PR ⊢
    clear hw0 X2
    have C := ahead_any XR.out.2.2.2.2 hs WPARAM
    obtain ⟨pa, pc, hpv⟩ := row_one PR.out
    subst hpv
    by_cases hA : aheadB s WPARAM stq = true
    · obtain ⟨q, rfl, a1, a2⟩ := ahead_of hA (by decide)
      rw [hA] at C
      have hq := XR.out.2.2.2.2.at_.1
      have e1 := nx_of hq a1 (by decide)
      have e2 := nx_of e1.2 a2 (by decide)
      have hl0 := LR.out q rfl
      have MEA : Hid (ST w0 b s (.ok q)) := XR.out.2.2.2.2
      have UT : Hid (∀ l st1, Tied (uptoS s (valS s) []) (.ok (nx s (nx s q))) l st1 → ∀ x st', Tied (loopS s (funStep s) ⟨false, ps ++ l, []⟩) st1 x st' → Tied (compS s) (.ok p) x st') := fun l st1 h x st' ht => TR.out x st' (fun_par hq a1 a2 h x st' ht)
      have HM1 : Hid (mustS s LP (.ok q) = .ok (nx s q)) := must_ok a1 (by decide)
      have HM2 : Hid (mustS s WPARAM (.ok (nx s q)) = .ok (nx s (nx s q))) := must_ok a2 (by decide)
      clear TR LR hA a1 a2
      go_wp2_with fail
      refine C.mono ?_
      rintro en w1 ⟨rfl, g1⟩
      have X1 : Hid (CX w b M s (cobj 1 (.slice pa ps.length pc) NILS NILS) (.ok q) w1) := XR.out.grow g1 hb hNM
      have P1 : Hid (RowV (M + 1) w1 (.slice pa ps.length pc) ps) := PR.out.grow g1
      clear C g1 XR PR
      have D := must_any X1.out.2.2.2.2 hs LP
      rw [HM1.out] at D
      go_wp2_with fail
      refine D.mono ?_
      rintro en w2 ⟨rfl, t2, s2⟩
      have X2 : Hid (CX w b M s (cobj 1 (.slice pa ps.length pc) NILS NILS) (.ok (nx s q)) w2) := X1.out.next t2 s2 hb hNM
      have P2 : Hid (RowV (M + 1) w2 (.slice pa ps.length pc) ps) := P1.out.next t2 X1.out.2.2.2.2
      clear D t2 s2 X1 P1
      have D := must_any X2.out.2.2.2.2 hs WPARAM
      rw [HM2.out] at D
      go_wp2_with fail
      refine D.mono ?_
      rintro en w3 ⟨rfl, t3, s3⟩
      have X3 : Hid (CX w b M s (cobj 1 (.slice pa ps.length pc) NILS NILS) (.ok (nx s (nx s q))) w3) := X2.out.next t3 s3 hb hNM
      have P3 : Hid (RowV (M + 1) w3 (.slice pa ps.length pc) ps) := P2.out.next t3 X2.out.2.2.2.2
      clear D t3 s3 X2 P2
      go_wp2_with fail
      have NC : Hid (∀ w', Grew w3 w' → Calls Tryd.prog 69 #[.pointer (some ⟨b, 0, none⟩)] w' fun en w'' => ∃ v x st', en = .returned v ∧ RowV (M + 1) w'' v x ∧ Turn [b] w3 w'' ∧ ST w'' b s st' ∧ Tied (uptoS s (valS s) []) (.ok (nx s (nx s q))) x st' ∧ Few (.ok (nx s (nx s q))) st' x) := by
        intro w' g
        refine (dvals_any (X3.out.2.2.2.2.grew g) hs).mono ?_
        rintro en w'' ⟨v, x, st', rfl, r, t, s', td, fw⟩
        refine ⟨v, x, st', rfl, r.low ?_, (g.turn _).trans t, s', td, fw⟩
        have := X3.out.2.2.1
        have := g.2
        omega
      have mq := cell_of X3.out.1 1
      have mz := free_of X3.out.1 1
      simp [NILS] at mq
      go_region_law (first
        | (refine step_vals (.tmp 19) rfl rfl rfl (NC.out _ (by first | exact Grew.refl _ | exact (Grew.refl _).drew | exact (Grew.refl _).drewN _ | exact ((Grew.refl _).drew).drew | exact ((Grew.refl _).drewN _).drew)) ?_
           rintro en w6 ⟨v6, l6, st6, rfl, r6, t6, s6, td6, fw6⟩
           obtain ⟨a6, k6, hv6⟩ := row_one r6
           subst hv6
           refine ⟨_, rfl, ?_⟩
           have y6 := X3.out.next t6 s6 hb hNM
           have X6 : Hid (CX w b M s (cobj 1 (.slice pa ps.length pc) NILS NILS) st6 w6) := y6
           have P6 : Hid (RowV (M + 1) w6 (.slice pa ps.length pc) ps) := P3.out.next t6 X3.out.2.2.2.2
           have R6 : Hid (RowV (M + 1) w6 (.slice a6 l6.length k6) l6) := r6
           have UT6 : Hid _ := UT.out l6 st6 td6
           have FW6 : Hid (Few (.ok (nx s (nx s q))) st6 l6) := fw6
           have fl6 := fw6.2
           simp only at fl6
           have q6 := cell_of y6.1 1
           have z6 := free_of y6.1 1
           simp [NILS] at q6
           clear t6 s6 r6 td6 fw6 y6)
        | (refine step_appV (w0 := w6) (B := M + 1) (B' := M + 1) (v := .slice pa ps.length pc) (u := .slice a6 l6.length k6) (l := ps) (l2 := l6) rfl (.tmp 18) (.tmp 20) rfl rfl rfl (by first | exact Grew.refl _ | exact (Grew.refl _).drew | exact (Grew.refl _).drewN _ | exact ((Grew.refl _).drew).drew | exact ((Grew.refl _).drewN _).drew) P6.out R6.out X6.out.2.2.1 (by omega) ?_
           intro v7 w7 I7' t7
           obtain ⟨a7, c7, hv7⟩ := row_one I7'
           subst hv7
           have P7 : Hid (RowV (M + 1) w7 (.slice a7 (ps ++ l6).length c7) (ps ++ l6)) := I7'
           have y7 := X6.out.app (t7 _) hb hNM
           have X7 : Hid (CX w b M s (cobj 1 (.slice pa ps.length pc) NILS NILS) st6 w7) := y7
           have q7 := cell_of y7.1 1
           have z7 := free_of y7.1 1
           simp [NILS] at q7
           clear t7 y7 I7'))
      all_goals
        go_wp2_with fail
        have X8 := X7.out.set hb hNM 1 (.slice a7 (ps ++ l6).length c7) (cobj_set1 X7.out.1 _)
        have P8 := P7.out.set (q := ⟨M, 1, none⟩) X7.out.1 (.slice a7 (ps ++ l6).length c7)
        simp only [List.length_append] at X8 P8
        go_roundw
        case rel =>
          refine ⟨st6, ps ++ l6, _, X8, P8, ?_, UT6.out⟩
          intro r hr
          obtain ⟨p', hp', hle⟩ := FW6.out.1 r hr
          cases hp'
          simp
          omega
        case measure =>
          refine mOf_lt MEA.out X8.2.2.2.2 (fun r hr => ?_)
          obtain ⟨p', hp', hle⟩ := FW6.out.1 r hr
          cases hp'
          omega
    · have hA' : aheadB s WPARAM stq = false := by simpa using hA
      rw [hA'] at C
      have HA : Hid (aheadB s WPARAM stq = false) := hA'
      clear hA hA' LR
      go_wp2_with fail
      refine C.mono ?_
      rintro en w1 ⟨rfl, g1⟩
      have X1 : Hid (CX w b M s (cobj 1 (.slice pa ps.length pc) NILS NILS) stq w1) := XR.out.grow g1 hb hNM
      have P1 : Hid (RowV (M + 1) w1 (.slice pa ps.length pc) ps) := PR.out.grow g1
      have HL : Hid (∀ g, (Value.slice pa ps.length pc).ownBlock = some g → g < w1.heap.size) := row_lt P1.out
      have hMB := X1.out.2.2.1
      obtain ⟨B2, hB2⟩ : ∃ B, B = w1.heap.size := ⟨_, rfl⟩
      rw [← hB2] at HL hMB
      have HB2 : Hid (B2 = w1.heap.size) := hB2
      clear C g1 XR PR hB2
      go_wp2_with fail
      go_loopw [] (fun w' => ∃ (st2 : Except Nat Nat) (rs : List VT) (rv : Value) (res : Bool), Hid (CX w b M s (cobj 1 (.slice pa ps.length pc) rv NILS) st2 w') ∧ Hid (RowV (M + 1) w' (.slice pa ps.length pc) ps) ∧ Hid (RowV B2 w' rv rs) ∧ B2 ≤ w'.heap.size ∧ Hid (∀ q, st2 = .ok q → rs.length ≤ q) ∧ Hid (res = true ∨ aheadB s WPARAM st2 = false) ∧ Hid (∀ x st', Tied (loopS s (funStep s) ⟨res, ps, rs⟩) st2 x st' → Tied (compS s) (.ok p) x st')) (fun w' => mOf s w' b)
      case atStart => exact ⟨stq, [], NILS, false, X1, P1, RowV.nil _ _, Nat.le_of_eq HB2.out, fun q h => Nat.zero_le _, Or.inr HA.out, TR⟩
      case round =>
        obtain ⟨st2, rs, rv, res, XR, PR, QR, hBr, LR, AR, TR2⟩ := hrel
        obtain ⟨w0, hw0⟩ : ∃ w0, w0 = wr := ⟨_, rfl⟩
        rw [← hw0] at XR PR QR hBr ⊢
        clear hw0 TR HA
        have C := ahead_any XR.out.2.2.2.2 hs WRESULT
        obtain ⟨ra, rc, hrv⟩ := row_one QR.out
        subst hrv
        by_cases hA : aheadB s WRESULT st2 = true
        · obtain ⟨q, rfl, a1, a2⟩ := ahead_of hA (by decide)
          rw [hA] at C
          have hq := XR.out.2.2.2.2.at_.1
          have e1 := nx_of hq a1 (by decide)
          have e2 := nx_of e1.2 a2 (by decide)
          have hl0 := LR.out q rfl
          have MEA : Hid (ST w0 b s (.ok q)) := XR.out.2.2.2.2
          have UT : Hid (∀ l st1, Tied (uptoS s (valS s) []) (.ok (nx s (nx s q))) l st1 → ∀ x st', Tied (loopS s (funStep s) ⟨true, ps, rs ++ l⟩) st1 x st' → Tied (compS s) (.ok p) x st') := fun l st1 h x st' ht => TR2.out x st' (fun_res hq a1 a2 h x st' ht)
          have HM1 : Hid (mustS s LP (.ok q) = .ok (nx s q)) := must_ok a1 (by decide)
          have HM2 : Hid (mustS s WRESULT (.ok (nx s q)) = .ok (nx s (nx s q))) := must_ok a2 (by decide)
          clear TR2 LR hA a1 a2 AR X1 P1
          go_wp2_with fail
          refine C.mono ?_
          rintro en w1 ⟨rfl, g1⟩
          have X1 : Hid (CX w b M s (cobj 1 (.slice pa ps.length pc) (.slice ra rs.length rc) NILS) (.ok q) w1) := XR.out.grow g1 hb hNM
          have P1 : Hid (RowV (M + 1) w1 (.slice pa ps.length pc) ps) := PR.out.grow g1
          have Q1 : Hid (RowV B2 w1 (.slice ra rs.length rc) rs) := QR.out.grow g1
          have hB1 : B2 ≤ w1.heap.size := Nat.le_trans hBr g1.2
          clear C g1 XR PR QR
          have D := must_any X1.out.2.2.2.2 hs LP
          rw [HM1.out] at D
          go_wp2_with fail
          refine D.mono ?_
          rintro en w2 ⟨rfl, t2, s2⟩
          have X2 : Hid (CX w b M s (cobj 1 (.slice pa ps.length pc) (.slice ra rs.length rc) NILS) (.ok (nx s q)) w2) := X1.out.next t2 s2 hb hNM
          have P2 : Hid (RowV (M + 1) w2 (.slice pa ps.length pc) ps) := P1.out.next t2 X1.out.2.2.2.2
          have Q2 : Hid (RowV B2 w2 (.slice ra rs.length rc) rs) := Q1.out.next t2 X1.out.2.2.2.2
          have hB2' : B2 ≤ w2.heap.size := Nat.le_trans hB1 t2.size
          clear D t2 s2 X1 P1 Q1
          have D := must_any X2.out.2.2.2.2 hs WRESULT
          rw [HM2.out] at D
          go_wp2_with fail
          refine D.mono ?_
          rintro en w3 ⟨rfl, t3, s3⟩
          have X3 : Hid (CX w b M s (cobj 1 (.slice pa ps.length pc) (.slice ra rs.length rc) NILS) (.ok (nx s (nx s q))) w3) := X2.out.next t3 s3 hb hNM
          have P3 : Hid (RowV (M + 1) w3 (.slice pa ps.length pc) ps) := P2.out.next t3 X2.out.2.2.2.2
          have Q3 : Hid (RowV B2 w3 (.slice ra rs.length rc) rs) := Q2.out.next t3 X2.out.2.2.2.2
          have hB3 : B2 ≤ w3.heap.size := Nat.le_trans hB2' t3.size
          clear D t3 s3 X2 P2 Q2
          go_wp2_with fail
          have NC : Hid (∀ w', Grew w3 w' → Calls Tryd.prog 69 #[.pointer (some ⟨b, 0, none⟩)] w' fun en w'' => ∃ v x st', en = .returned v ∧ RowV (M + 1) w'' v x ∧ Turn [b] w3 w'' ∧ ST w'' b s st' ∧ Tied (uptoS s (valS s) []) (.ok (nx s (nx s q))) x st' ∧ Few (.ok (nx s (nx s q))) st' x) := by
            intro w' g
            refine (dvals_any (X3.out.2.2.2.2.grew g) hs).mono ?_
            rintro en w'' ⟨v, x, st', rfl, r, t, s', td, fw⟩
            refine ⟨v, x, st', rfl, r.low ?_, (g.turn _).trans t, s', td, fw⟩
            have := X3.out.2.2.1
            have := g.2
            omega
          have mq := cell_of X3.out.1 2
          have mz := free_of X3.out.1 2
          simp [NILS] at mq
          go_region_law (first
            | (refine step_vals (.tmp 31) rfl rfl rfl (NC.out _ (by first | exact Grew.refl _ | exact (Grew.refl _).drew | exact (Grew.refl _).drewN _ | exact ((Grew.refl _).drew).drew | exact ((Grew.refl _).drewN _).drew)) ?_
               rintro en w6 ⟨v6, l6, st6, rfl, r6, t6, s6, td6, fw6⟩
               obtain ⟨a6, k6, hv6⟩ := row_one r6
               subst hv6
               refine ⟨_, rfl, ?_⟩
               have y6 := X3.out.next t6 s6 hb hNM
               have X6 : Hid (CX w b M s (cobj 1 (.slice pa ps.length pc) (.slice ra rs.length rc) NILS) st6 w6) := y6
               have P6 : Hid (RowV (M + 1) w6 (.slice pa ps.length pc) ps) := P3.out.next t6 X3.out.2.2.2.2
               have Q6 : Hid (RowV B2 w6 (.slice ra rs.length rc) rs) := Q3.out.next t6 X3.out.2.2.2.2
               have R6 : Hid (RowV (M + 1) w6 (.slice a6 l6.length k6) l6) := r6
               have hB6 : B2 ≤ w6.heap.size := Nat.le_trans hB3 t6.size
               have UT6 : Hid _ := UT.out l6 st6 td6
               have FW6 : Hid (Few (.ok (nx s (nx s q))) st6 l6) := fw6
               have fl6 := fw6.2
               simp only at fl6
               have q6 := cell_of y6.1 2
               have z6 := free_of y6.1 2
               simp [NILS] at q6
               clear t6 s6 r6 td6 fw6 y6)
            | (refine step_appV (w0 := w6) (B := B2) (B' := M + 1) (v := .slice ra rs.length rc) (u := .slice a6 l6.length k6) (l := rs) (l2 := l6) rfl (.tmp 30) (.tmp 32) rfl rfl rfl (by first | exact Grew.refl _ | exact (Grew.refl _).drew | exact (Grew.refl _).drewN _ | exact ((Grew.refl _).drew).drew | exact ((Grew.refl _).drewN _).drew) Q6.out R6.out hB6 (by omega) ?_
               intro v7 w7 I7' t7
               obtain ⟨a7, c7, hv7⟩ := row_one I7'
               subst hv7
               have Q7 : Hid (RowV B2 w7 (.slice a7 (rs ++ l6).length c7) (rs ++ l6)) := I7'
               have P7 : Hid (RowV (M + 1) w7 (.slice pa ps.length pc) ps) := row_tb P6.out (t7 b) (X6.out.2.2.2.2.no (by decide) b (by simp)) HL.out
               have y7 := X6.out.app ((t7 _).low hMB) hb hNM
               have X7 : Hid (CX w b M s (cobj 1 (.slice pa ps.length pc) (.slice ra rs.length rc) NILS) st6 w7) := y7
               have hB7 : B2 ≤ w7.heap.size := Nat.le_trans hB6 (t7 b).size
               have q7 := cell_of y7.1 2
               have z7 := free_of y7.1 2
               simp [NILS] at q7
               clear t7 y7 I7'))
          all_goals
            go_wp2_with fail
            have X8 := X7.out.set hb hNM 2 (.slice a7 (rs ++ l6).length c7) (cobj_set2 X7.out.1 _)
            have P8 := P7.out.set (q := ⟨M, 2, none⟩) X7.out.1 (.slice a7 (rs ++ l6).length c7)
            have Q8 := Q7.out.set (q := ⟨M, 2, none⟩) X7.out.1 (.slice a7 (rs ++ l6).length c7)
            simp only [List.length_append] at X8 P8 Q8
            go_roundw
            case rel =>
              refine ⟨st6, rs ++ l6, _, true, X8, P8, Q8, by simpa using hB7, ?_, Or.inl rfl, UT6.out⟩
              intro r hr
              obtain ⟨p', hp', hle⟩ := FW6.out.1 r hr
              cases hp'
              simp
              omega
            case measure =>
              refine mOf_lt MEA.out X8.2.2.2.2 (fun r hr => ?_)
              obtain ⟨p', hp', hle⟩ := FW6.out.1 r hr
              cases hp'
              omega
        · have hA' : aheadB s WRESULT st2 = false := by simpa using hA
          rw [hA'] at C
          have HA2 : Hid (aheadB s WRESULT st2 = false) := hA'
          clear hA hA' LR X1 P1
          go_wp2_with fail
          refine C.mono ?_
          rintro en w1 ⟨rfl, g1⟩
          have X1 : Hid (CX w b M s (cobj 1 (.slice pa ps.length pc) (.slice ra rs.length rc) NILS) st2 w1) := XR.out.grow g1 hb hNM
          have P1 : Hid (RowV (M + 1) w1 (.slice pa ps.length pc) ps) := PR.out.grow g1
          have Q1 : Hid (RowV B2 w1 (.slice ra rs.length rc) rs) := QR.out.grow g1
          clear C g1 XR PR QR
          have D := is_any X1.out.2.2.2.2 hs LP
          by_cases hL : ∃ q, st2 = .ok q ∧ tk s q = LP
          · obtain ⟨q, rfl, a1⟩ := hL
            have hi : isB s LP (.ok q) = true := by rw [isB_of q (by decide), decide_eq_true a1]
            have hi2 : isS s LP (.ok q) = .ok (nx s q) := by
              show (if tk s q = LP ∧ LP ≠ E0 then Except.ok (nx s q) else Except.ok q) = _
              rw [if_pos ⟨a1, by decide⟩]
            rw [hi, hi2] at D
            have hq := X1.out.2.2.2.2.at_.1
            have TE : Hid (∀ x, Tied (compS s) (.ok p) x (.error (nx s q))) := by
              intro x
              refine TR2.out x _ (fun_no hq a1 ?_ (ahead_not HA2.out (by decide) a1) x)
              rcases AR.out with h | h
              · exact Or.inl h
              · exact Or.inr (ahead_not h (by decide) a1)
            clear hi hi2 TR2 AR HA2
            go_wp2_with fail
            refine D.mono ?_
            rintro en w2 ⟨rfl, t2, s2⟩
            have X2 : Hid (CX w b M s (cobj 1 (.slice pa ps.length pc) (.slice ra rs.length rc) NILS) (.ok (nx s q)) w2) := X1.out.next t2 s2 hb hNM
            have P2 : Hid (RowV (M + 1) w2 (.slice pa ps.length pc) ps) := P1.out.next t2 X1.out.2.2.2.2
            have Q2 : Hid (RowV B2 w2 (.slice ra rs.length rc) rs) := Q1.out.next t2 X1.out.2.2.2.2
            clear D t2 s2 X1 P1 Q1
            have D := token_ex X2.out.2.2.2.2 hs
            go_wp2_with fail
            refine D.mono ?_
            rintro en w3 ⟨rfl, t3, s3⟩
            have X3 : Hid (CX w b M s (cobj 1 (.slice pa ps.length pc) (.slice ra rs.length rc) NILS) (.ok (nx s q)) w3) := X2.out.next t3 s3.st hb hNM
            have P3 : Hid (RowV (M + 1) w3 (.slice pa ps.length pc) ps) := P2.out.next t3 X2.out.2.2.2.2
            have Q3 : Hid (RowV B2 w3 (.slice ra rs.length rc) rs) := Q2.out.next t3 X2.out.2.2.2.2
            have O3 : Hid (w3.heap[b]? = some (rdg s (nx s q) false)) := s3.1
            have c2 := cell2_of s3.1
            have z2 := free_of s3.1 2
            clear D t3 s3 X2 P2 Q2
            go_wp2_with fail
            have X4 : Hid (CX w b M s (cobj 1 (.slice pa ps.length pc) (.slice ra rs.length rc) NILS) (.error (nx s q)) (w3.setCell ⟨b, 2, none⟩ (.bool true))) := X3.out.bad O3.out hb hNM
            have P4 : Hid (RowV (M + 1) (w3.setCell ⟨b, 2, none⟩ (.bool true)) (.slice pa ps.length pc) ps) := P3.out.bad X3.out.2.2.2.2 _
            have Q4 : Hid (RowV B2 (w3.setCell ⟨b, 2, none⟩ (.bool true)) (.slice ra rs.length rc) rs) := Q3.out.bad X3.out.2.2.2.2 _
            clear X3 P3 Q3 c2 z2 O3
            generalize w3.setCell ⟨b, 2, none⟩ (.bool true) = w4 at *
            have C8 := must_any X4.out.2.2.2.2 hs RP
            skip
            refine C8.mono ?_
            rintro en w8 ⟨rfl, t8, s8⟩
            have Y8 := X4.out.next t8 s8 hb hNM
            have X8 : Hid (CX w b M s (cobj 1 (.slice pa ps.length pc) (.slice ra rs.length rc) (.slice none 0 0)) (mustS s RP (.error (nx s q))) w8) := Y8
            have P8 : Hid (RowV w.heap.size w8 (.slice pa ps.length pc) (⟨1, ps, rs, []⟩ : CT).params) := RowV.low (P4.out.next t8 X4.out.2.2.2.2) (by omega)
            have Q8 : Hid (RowV w.heap.size w8 (.slice ra rs.length rc) (⟨1, ps, rs, []⟩ : CT).results) := RowV.low (Q4.out.next t8 X4.out.2.2.2.2) (by omega)
            have F8 : Hid (RowF w.heap.size w8 (.slice none 0 0) (⟨1, ps, rs, []⟩ : CT).fields) := RowF.low ((RowF.nil w.heap.size w4).next t8 X4.out.2.2.2.2) (by omega)
            have u0 := cell_of Y8.1 0
            have u1 := cell_of Y8.1 1
            have u2 := cell_of Y8.1 2
            have u3 := cell_of Y8.1 3
            have v0 := cell_of Y8.2.1 0
            have v1 := cell_of Y8.2.1 1
            have v2 := cell_of Y8.2.1 2
            have v3 := cell_of Y8.2.1 3
            have f0 := free_of Y8.2.1 0
            have f1 := free_of Y8.2.1 1
            have f2 := free_of Y8.2.1 2
            have f3 := free_of Y8.2.1 3
            simp [NILS] at u0 u1 u2 u3 v0 v1 v2 v3
            clear C8 t8 s8 Y8
            go_wp2_with fail
            refine bodyPost_ret (v := .agg #[.int .i64 1, (.slice pa ps.length pc), (.slice ra rs.length rc), (.slice none 0 0)]) (by simp [results, Tryd.results51, go_sem, NILS, v0, v1, v2, v3]) rfl ?_
            obtain ⟨q1, q2, q3⟩ := dcomp_end (c := (⟨1, ps, rs, []⟩ : CT)) X8.out.2.1 (Nat.le_refl _) (Nat.le_refl _) P8.out Q8.out F8.out X8.out.2.2.2.1 X8.out.2.2.2.2 (by omega)
            exact ⟨_, (⟨1, ps, rs, []⟩ : CT), mustS s RP (.error (nx s q)), rfl, q1, q2, q3, TE.out _⟩
          · have hi : isB s LP st2 = false := by
              cases st2 with
              | error e => rfl
              | ok q => rw [isB_of q (by decide), decide_eq_false (fun h => hL ⟨q, rfl, h⟩)]
            have hi2 : isS s LP st2 = st2 := by
              cases st2 with
              | error e => rfl
              | ok q =>
                show (if tk s q = LP ∧ LP ≠ E0 then Except.ok (nx s q) else Except.ok q) = _
                rw [if_neg (fun h => hL ⟨q, rfl, h.1⟩)]
            have TE : Hid (Tied (compS s) (.ok p) ⟨1, ps, rs, []⟩ (mustS s RP st2)) := by
              refine TR2.out _ _ ?_
              cases st2 with
              | error e => rfl
              | ok q => exact fun_end X1.out.2.2.2.2.at_.1 (fun h => hL ⟨q, rfl, h⟩)
            rw [hi, hi2] at D
            clear hi hi2 TR2 AR HA2 hL
            go_wp2_with fail
            refine D.mono ?_
            rintro en w2 ⟨rfl, t2, s2⟩
            have X2 : Hid (CX w b M s (cobj 1 (.slice pa ps.length pc) (.slice ra rs.length rc) NILS) st2 w2) := X1.out.next t2 s2 hb hNM
            have P2 : Hid (RowV (M + 1) w2 (.slice pa ps.length pc) ps) := P1.out.next t2 X1.out.2.2.2.2
            have Q2 : Hid (RowV B2 w2 (.slice ra rs.length rc) rs) := Q1.out.next t2 X1.out.2.2.2.2
            clear D t2 s2 X1 P1 Q1
            have C8 := must_any X2.out.2.2.2.2 hs RP
            go_wp2_with fail
            refine C8.mono ?_
            rintro en w8 ⟨rfl, t8, s8⟩
            have Y8 := X2.out.next t8 s8 hb hNM
            have X8 : Hid (CX w b M s (cobj 1 (.slice pa ps.length pc) (.slice ra rs.length rc) (.slice none 0 0)) (mustS s RP st2) w8) := Y8
            have P8 : Hid (RowV w.heap.size w8 (.slice pa ps.length pc) (⟨1, ps, rs, []⟩ : CT).params) := RowV.low (P2.out.next t8 X2.out.2.2.2.2) (by omega)
            have Q8 : Hid (RowV w.heap.size w8 (.slice ra rs.length rc) (⟨1, ps, rs, []⟩ : CT).results) := RowV.low (Q2.out.next t8 X2.out.2.2.2.2) (by omega)
            have F8 : Hid (RowF w.heap.size w8 (.slice none 0 0) (⟨1, ps, rs, []⟩ : CT).fields) := RowF.low ((RowF.nil w.heap.size w2).next t8 X2.out.2.2.2.2) (by omega)
            have u0 := cell_of Y8.1 0
            have u1 := cell_of Y8.1 1
            have u2 := cell_of Y8.1 2
            have u3 := cell_of Y8.1 3
            have v0 := cell_of Y8.2.1 0
            have v1 := cell_of Y8.2.1 1
            have v2 := cell_of Y8.2.1 2
            have v3 := cell_of Y8.2.1 3
            have f0 := free_of Y8.2.1 0
            have f1 := free_of Y8.2.1 1
            have f2 := free_of Y8.2.1 2
            have f3 := free_of Y8.2.1 3
            simp [NILS] at u0 u1 u2 u3 v0 v1 v2 v3
            clear C8 t8 s8 Y8
            go_wp2_with fail
            refine bodyPost_ret (v := .agg #[.int .i64 1, (.slice pa ps.length pc), (.slice ra rs.length rc), (.slice none 0 0)]) (by simp [results, Tryd.results51, go_sem, NILS, v0, v1, v2, v3]) rfl ?_
            obtain ⟨q1, q2, q3⟩ := dcomp_end (c := (⟨1, ps, rs, []⟩ : CT)) X8.out.2.1 (Nat.le_refl _) (Nat.le_refl _) P8.out Q8.out F8.out X8.out.2.2.2.1 X8.out.2.2.2.2 (by omega)
            exact ⟨_, (⟨1, ps, rs, []⟩ : CT), mustS s RP st2, rfl, q1, q2, q3, TE.out⟩
end Go.Proofs.YtmcljnohdknpoaaDoor
