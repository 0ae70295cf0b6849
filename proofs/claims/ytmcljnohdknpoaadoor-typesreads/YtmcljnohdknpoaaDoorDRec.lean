/-
  The document's reading: the walk of ParseRec; no statement is proved here.
-/
import Derived.Test.YtmcljnohdknpoaaDoorDRecW
namespace Go.Proofs.YtmcljnohdknpoaaDoor
open Go.RowKit
set_option linter.unusedVariables false
set_option linter.unusedSimpArgs false
set_option linter.constructorNameAsVariable false

set_option maxRecDepth 100000 in
theorem dparseRec_long (s : ByteArray) (w : World) (hl : 65536 < s.size) (hm : s.size ≤ 140737488355328) :
    Calls Tryd.prog 10 #[.string s] w (AnsP w (zr, 0, 2)) := by
  have hd : decide ((65536 : Int) < (s.size : Int)) = true := by simp; omega
  go_enter Tryd.func10, Tryd.ntmps10
  go_wp2_with fail
  refine bodyPost_ret (v := .tuple #[.agg #[.slice none 0 0, .bool false], .int .i64 0, .int .i64 2]) (by simp [results, Tryd.results10, go_sem]) rfl ?_
  exact ⟨_, rfl, RecQ.nil _ _, by first | exact (Grew.refl w).alloc _ | exact (((Grew.refl w).alloc _).set (p := ⟨w.heap.size, 0, none⟩) (by simp) _).set (p := ⟨w.heap.size, 1, none⟩) (by simp) _⟩
set_option maxRecDepth 100000 in
set_option maxHeartbeats 4000000 in
theorem dparseRec_short (s : ByteArray) (w : World) (hs : s.size ≤ 65536) :
    Calls Tryd.prog 10 #[.string s] w (AnsP w (parseR s)) := by
  have hd : decide ((65536 : Int) < (s.size : Int)) = false := by simp; omega
  obtain ⟨b, hbv⟩ : ∃ b, b = w.heap.size + 1 := ⟨_, rfl⟩
  obtain ⟨R, hR⟩ : ∃ R, R = parseR s := ⟨_, rfl⟩
  rw [← hR]
  have HR : Hid (R = parseR s) := hR
  clear hR
  go_enter Tryd.func10, Tryd.ntmps10
  go_wp2_with fail
  obtain ⟨M, hMv⟩ : ∃ M, M = b + 1 := ⟨_, rfl⟩
  rw [← hbv, ← hMv]
  generalize hW : (((w.alloc (.cells #[.slice none 0 0, .bool false] 33)).alloc (.cells #[.string s, .int .i64 0, .bool false] 50)).alloc (.cells #[.slice none 0 0, .bool false] 33)) = W
  have X0 : Hid (CR w b M s (robj NILS false) (.ok (skp s 0)) W) := by
    have e1 : (w.alloc (.cells #[.slice none 0 0, .bool false] 33)).heap.size = b := by simp [hbv]
    have e2 : ((w.alloc (.cells #[.slice none 0 0, .bool false] 33)).alloc (.cells #[.string s, .int .i64 0, .bool false] 50)).heap.size = M := by simp [hbv, hMv]
    refine ⟨?_, ?_, ?_, ?_, 0, ?_, Nat.zero_le _, rfl⟩
    · rw [← hW, ← e2]
      exact heap_alloc_last _ _
    · rw [← hW]
      exact heap_alloc (heap_alloc (heap_alloc_last _ _) _) _
    · rw [← hW, hMv, hbv]
      simp
    · rw [← hW]
      exact (((Grew.refl w).alloc _).alloc _).alloc _
    · rw [← hW, ← e1]
      exact heap_alloc (heap_alloc_last _ _) _
  have hNb : w.heap.size < b := by omega
  have hbM : b < M := by omega
  clear hW hbv hMv
  refine (must_any X0.out.2.2.2.2 hs LP).mono ?_
  rintro en w1 ⟨rfl, t1, s1⟩
  have X1 : Hid (CR w b M s (robj NILS false) (mustS s LP (.ok (skp s 0))) w1) := X0.out.next t1 s1 hNb hbM
  clear t1 s1 X0
  have D := is_any X1.out.2.2.2.2 hs WREC
  by_cases hW : isB s WREC (mustS s LP (.ok (skp s 0))) = true
  · obtain ⟨a1, a2⟩ : tk s (skp s 0) = LP ∧ tk s (nx s (skp s 0)) = WREC := by
      by_cases hL : tk s (skp s 0) = LP
      · rw [must_ok hL (by decide), isB_of _ (by decide)] at hW
        exact ⟨hL, of_decide_eq_true hW⟩
      · rw [must_er hL] at hW
        cases hW
    have hi2 : isS s WREC (mustS s LP (.ok (skp s 0))) = .ok (nx s (nx s (skp s 0))) := by
      rw [must_ok a1 (by decide)]
      show (if tk s (nx s (skp s 0)) = WREC ∧ WREC ≠ E0 then Except.ok (nx s (nx s (skp s 0))) else Except.ok (nx s (skp s 0))) = _
      rw [if_pos ⟨a2, by decide⟩]
    rw [hW, hi2] at D
    have RT1 : Hid (∀ l st2, Tied (uptoS s (memS s) []) (.ok (nx s (nx s (skp s 0)))) l st2 → Tied (recS s) (.ok (skp s 0)) (⟨l, true⟩ : RT) st2) := fun l st2 h => rec_then a1 a2 h
    clear hW hi2 a1 a2
    go_wp2_with fail
    refine D.mono ?_
    rintro en w2 ⟨rfl, t2, s2⟩
    have y2 := X1.out.next t2 s2 hNb hbM
    have X2 : Hid (CR w b M s (robj NILS false) (.ok (nx s (nx s (skp s 0)))) w2) := y2
    have c1 := cell_of y2.1 1
    have z1 := free_of y2.1 1
    simp [NILS] at c1
    clear D t2 s2 X1 y2
    go_wp2_with fail
    have X3 : Hid (CR w b M s (robj NILS true) (.ok (nx s (nx s (skp s 0)))) (w2.setCell ⟨M, 1, none⟩ (.bool true))) := X2.out.set hNb hbM 1 (.bool true) (robj_set1 X2.out.1 true)
    generalize w2.setCell ⟨M, 1, none⟩ (.bool true) = w3 at *
    clear X2 c1 z1
    go_loopw [] (fun w' => ∃ (stq : Except Nat Nat) (l : List SB) (tv : Value), Hid (CR w b M s (robj tv true) stq w') ∧ Hid (SubsQ (M + 1) w' tv l) ∧ Hid (∀ q, stq = .ok q → l.length ≤ q) ∧ Hid (∀ x st', Tied (uptoS s (memS s) l) stq x st' → Tied (recS s) (.ok (skp s 0)) (⟨x, true⟩ : RT) st')) (fun w' => mOf s w' b)
    case atStart => exact ⟨_, [], NILS, X3, SubsQ.nil _ _, fun q h => Nat.zero_le _, fun x st' h => RT1.out x st' h⟩
    case round =>
      obtain ⟨stq, l, tv, XR, QR, LR, TR⟩ := hrel
      obtain ⟨w0, hw0⟩ : ∃ w0, w0 = wr := ⟨_, rfl⟩
      rw [← hw0] at XR QR ⊢
      clear hw0 X3 RT1
      have D := is_any XR.out.2.2.2.2 hs LP
      obtain ⟨ta, tc, htv⟩ := QR.out.one
      subst htv
      by_cases hL : ∃ q, stq = .ok q ∧ tk s q = LP
      · obtain ⟨q, rfl, a1⟩ := hL
        have hi : isB s LP (.ok q) = true := by rw [isB_of q (by decide), decide_eq_true a1]
        have hi2 : isS s LP (.ok q) = .ok (nx s q) := by
          show (if tk s q = LP ∧ LP ≠ E0 then Except.ok (nx s q) else Except.ok q) = _
          rw [if_pos ⟨a1, by decide⟩]
        rw [hi, hi2] at D
        have hq := XR.out.2.2.2.2.at_.1
        have e1 := nx_of hq a1 (by decide)
        have hl0 := LR.out q rfl
        have MEA : Hid (ST w0 b s (.ok q)) := XR.out.2.2.2.2
        have UT : Hid (∀ y st2, Tied (subS s) (.ok (nx s q)) y st2 → ∀ x st', Tied (uptoS s (memS s) (l ++ [y])) st2 x st' → Tied (recS s) (.ok (skp s 0)) (⟨x, true⟩ : RT) st') := fun y st2 h x st' ht => TR.out x st' (up_tied (mem_adv s) hq (by rw [a1]; decide) (mem_tied a1 h) x st' ht)
        clear hi hi2 TR LR a1
        go_wp2_with fail
        refine D.mono ?_
        rintro en w1 ⟨rfl, t1, s1⟩
        have X1 : Hid (CR w b M s (robj (.slice ta l.length tc) true) (.ok (nx s q)) w1) := XR.out.next t1 s1 hNb hbM
        have Q1 : Hid (SubsQ (M + 1) w1 (.slice ta l.length tc) l) := QR.out.next t1 XR.out.2.2.2.2
        clear D t1 s1 XR QR
        go_wp2_with fail
        have NC : Hid (∀ w', Grew w1 w' → Calls Tryd.prog 30 #[.pointer (some ⟨b, 0, none⟩)] w' fun en w'' => ∃ cs x st', en = .returned (.agg cs.toArray) ∧ SubC (M + 1) w'' cs x ∧ Turn [b] w1 w'' ∧ ST w'' b s st' ∧ Tied (subS s) (.ok (nx s q)) x st') := by
          intro w' g
          refine (dsub_any (X1.out.2.2.2.2.grew g) hs).mono ?_
          rintro en w'' ⟨cs, x, st', rfl, r, t, s', td⟩
          refine ⟨cs, x, st', rfl, r.low ?_, (g.turn _).trans t, s', td⟩
          have := X1.out.2.2.1
          have := g.2
          omega
        have mq := cell_of X1.out.1 0
        have mz := free_of X1.out.1 0
        simp [NILS] at mq
        go_region_law (first
          | (refine step_sub (.tmp 23) rfl rfl rfl (NC.out _ (by first | exact Grew.refl _ | exact (Grew.refl _).drew | exact (Grew.refl _).drewN _ | exact ((Grew.refl _).drew).drew | exact ((Grew.refl _).drewN _).drew)) ?_
             rintro en w6 ⟨cs6, y6, st6, rfl, r6, t6, s6, td6⟩
             refine ⟨_, rfl, ?_⟩
             have R6 : Hid (SubC (M + 1) w6 cs6 y6) := r6
             obtain ⟨sv, pv, rv, fv, hcs, z1, z2, z3, z4⟩ := r6
             obtain ⟨sa, sc, hsv⟩ := row_one z1
             obtain ⟨pa, pc, hpv⟩ := row_one z2
             obtain ⟨ra, rc, hrv⟩ := row_one z3
             obtain ⟨fa, fc, hfv⟩ := row_one z4
             subst hsv
             subst hpv
             subst hrv
             subst hfv
             subst hcs
             have y7 := X1.out.next t6 s6 hNb hbM
             have X6 : Hid (CR w b M s (robj (.slice ta l.length tc) true) st6 w6) := y7
             have Q6 : Hid (SubsQ (M + 1) w6 (.slice ta l.length tc) l) := Q1.out.next t6 X1.out.2.2.2.2
             have TD6 : Hid (Tied (subS s) (.ok (nx s q)) y6 st6) := td6
             have q6 := cell_of y7.1 0
             have zz6 := free_of y7.1 0
             simp [NILS] at q6
             have q6a := cell_of (heap_alloc y7.1 (.cells #[.bool y6.final_, .slice sa y6.supers.length sc, .int .i64 y6.comp.kind, .slice pa y6.comp.params.length pc, .slice ra y6.comp.results.length rc, .slice fa y6.comp.fields.length fc] 62)) 0
             simp [NILS] at q6a
             clear t6 s6 td6 y7 z1 z2 z3 z4)
          | (refine step_appS (w0 := w6) (B := M + 1) (v := (.slice ta l.length tc)) (l := l) (y := y6) (new := (#[.bool y6.final_, .slice sa y6.supers.length sc, .int .i64 y6.comp.kind, .slice pa y6.comp.params.length pc, .slice ra y6.comp.results.length rc, .slice fa y6.comp.fields.length fc] : Array Value).toList) (gg := w6.heap.size) rfl (.tmp 22) (.tmp 25) rfl rfl rfl (by first | exact ((Grew.refl _).alloc _) | exact ((Grew.refl _).alloc _).drew | exact ((Grew.refl _).alloc _).drewN _ | exact ((Grew.refl _).drew.alloc _) | exact ((Grew.refl _).drewN _).alloc _ | exact (((Grew.refl _).drew).alloc _).drew | exact (((Grew.refl _).drewN _).alloc _).drew) Q6.out X6.out.2.2.1 R6.out (by intro j u hj; rw [Array.getElem?_toList] at hj; exact (cell_of (heap_alloc_last w6 _) j).trans hj) (by first | omega | simp) ?_
             intro v7 w7 I7' t7
             obtain ⟨a7, c7, hv7⟩ := I7'.one
             subst hv7
             have Q7 : Hid (SubsQ (M + 1) w7 (.slice a7 (l ++ [y6]).length c7) (l ++ [y6])) := I7'
             have y7 := X6.out.app (t7 _) hNb hbM
             have X7 : Hid (CR w b M s (robj (.slice ta l.length tc) true) st6 w7) := y7
             have q7 := cell_of y7.1 0
             have z7 := free_of y7.1 0
             simp [NILS] at q7
             clear t7 y7 I7'))
        all_goals
          go_wp2_with fail
          have X8 := X7.out.set hNb hbM 0 (.slice a7 (l ++ [y6]).length c7) (robj_set0 X7.out.1 _)
          have Q8 := Q7.out.setR (q := ⟨M, 0, none⟩) X7.out.1 (.slice a7 (l ++ [y6]).length c7)
          simp only [List.length_append, List.length_cons, List.length_nil, Nat.zero_add] at X8 Q8
          have hadv : ∀ r', st6 = .ok r' → nx s q < r' := by
            intro r' hr'
            have td := TD6.out
            rw [hr'] at td
            obtain ⟨p', hp', hf⟩ := td.from
            cases hp'
            exact (sub_adv s (nx s q) _ r' e1.2 hf).1
          go_roundw
          case rel =>
            refine ⟨st6, l ++ [y6], _, X8, Q8, ?_, UT.out _ _ TD6.out⟩
            intro r' hr'
            have := hadv r' hr'
            simp
            omega
          case measure => exact mOf_lt MEA.out X8.2.2.2.2 (fun r' hr' => by have := hadv r' hr'; omega)
      · have hi : isB s LP stq = false := by
          cases stq with
          | error e => rfl
          | ok q => rw [isB_of q (by decide), decide_eq_false (fun h => hL ⟨q, rfl, h⟩)]
        have hi2 : isS s LP stq = stq := by
          cases stq with
          | error e => rfl
          | ok q =>
            show (if tk s q = LP ∧ LP ≠ E0 then Except.ok (nx s q) else Except.ok q) = _
            rw [if_neg (fun h => hL ⟨q, rfl, h.1⟩)]
        have TE : Hid (Tied (recS s) (.ok (skp s 0)) (⟨l, true⟩ : RT) (mustS s RP stq)) := by
          refine TR.out _ _ ?_
          cases stq with
          | error e => rfl
          | ok q => exact mem_end XR.out.2.2.2.2.at_.1 (fun h => hL ⟨q, rfl, h⟩)
        rw [hi, hi2] at D
        clear hi hi2 TR LR hL
        go_wp2_with fail
        refine D.mono ?_
        rintro en w2 ⟨rfl, t2, s2⟩
        have X2 : Hid (CR w b M s (robj (.slice ta l.length tc) true) stq w2) := XR.out.next t2 s2 hNb hbM
        have Q2 : Hid (SubsQ (M + 1) w2 (.slice ta l.length tc) l) := QR.out.next t2 XR.out.2.2.2.2
        clear D t2 s2 XR QR
        have D := must_any X2.out.2.2.2.2 hs RP
        go_wp2_with fail
        refine D.mono ?_
        rintro en w4 ⟨rfl, t4, s4⟩
        have X4 : Hid (CR w b M s (robj (.slice ta l.length tc) true) (mustS s RP stq) w4) := X2.out.next t4 s4 hNb hbM
        have Q4 : Hid (SubsQ (M + 1) w4 (.slice ta l.length tc) l) := Q2.out.next t4 X2.out.2.2.2.2
        clear D t4 s4 X2 Q2
        have HR2 : Hid (R = fin2 (⟨l, true⟩ : RT) (doneT s (mustS s RP stq))) := by
          rw [HR.out]
          exact parseR_tied (fun q hq => by have h := X4.out.2.2.2.2; rw [hq] at h; exact GD.at_ h) TE.out
        have D := ddone_any X4.out.2.2.2.2 hs
        clear HR TE
        go_wp2_with fail
        refine D.mono ?_
        rintro en w8 ⟨rfl, t8, e8⟩
        have y8 := X4.out.next t8 e8.st hNb hbM
        have X8 : Hid (CR w b M s (robj (.slice ta l.length tc) true) (doneT s (mustS s RP stq)) w8) := y8
        have Q8 : Hid (SubsQ w.heap.size w8 (.slice ta l.length tc) (⟨l, true⟩ : RT).types) := (Q4.out.next t8 X4.out.2.2.2.2).low (by omega)
        have o8 := e8.obj
        have e1 : w8.cell? ⟨b, 1, none⟩ = some (.int .i64 (plc (doneT s (mustS s RP stq)) : Int)) := by rw [cell_of o8]; rfl
        have e2 := cell2_of o8
        have m0 := cell_of y8.1 0
        have m1 := cell_of y8.1 1
        have c0 := cell_of y8.2.1 0
        have c1 := cell_of y8.2.1 1
        have z0 := free_of y8.2.1 0
        have z1 := free_of y8.2.1 1
        simp [NILS] at m0 m1 c0 c1
        clear D t8 e8 y8 o8 X4 Q4
        cases hst : doneT s (mustS s RP stq) with
        | ok p =>
          rw [hst] at e1 e2 HR2 X8
          have HR3 : Hid (R = ((⟨l, true⟩ : RT), 0, 0)) := HR2.out
          simp only [plc, isbad] at e1 e2
          clear hst HR2
          go_wp2_with fail
          refine bodyPost_ret (v := .tuple #[.agg #[(.slice ta l.length tc), .bool true], .int .i64 0, .int .i64 0]) (by simp [results, Tryd.results10, go_sem, c0, c1]) rfl ?_
          rw [HR3.out]
          refine ⟨_, rfl, ⟨_, rfl, ?_⟩, (X8.out.2.2.2.1.set (p := ⟨w.heap.size, 0, none⟩) (by simp) _).set (p := ⟨w.heap.size, 1, none⟩) (by simp) _⟩
          have n1 := robj_set0 X8.out.2.1 (.slice ta l.length tc)
          exact (Q8.out.setR (q := ⟨w.heap.size, 0, none⟩) X8.out.2.1 _).setR (q := ⟨w.heap.size, 1, none⟩) n1 _
        | error f =>
          rw [hst] at e1 e2 HR2 X8
          have HR3 : Hid (R = (zr, f, 4)) := HR2.out
          simp only [plc, isbad] at e1 e2
          clear hst HR2
          go_wp2_with fail
          go_region
          all_goals
            go_wp2_with fail
            refine bodyPost_ret (v := .tuple #[.agg #[.slice none 0 0, .bool false], .int .i64 f, .int .i64 4]) (by simp [results, Tryd.results10, go_sem, c0, c1]) rfl ?_
            rw [HR3.out]
            refine ⟨_, rfl, RecQ.nil _ _, ?_⟩
            first
              | exact ((X8.out.2.2.2.1.set (p := ⟨w.heap.size, 0, none⟩) (by simp) _).set (p := ⟨w.heap.size, 1, none⟩) (by simp) _).drewN _
              | exact (((X8.out.2.2.2.1.drewN _).set (p := ⟨w.heap.size, 0, none⟩) (by simp) _).set (p := ⟨w.heap.size, 1, none⟩) (by simp) _)
              | exact ((X8.out.2.2.2.1.set (p := ⟨w.heap.size, 0, none⟩) (by simp) _).set (p := ⟨w.heap.size, 1, none⟩) (by simp) _).drew
  · have hW' : isB s WREC (mustS s LP (.ok (skp s 0))) = false := by simpa using hW
    have E := is_ex X1.out.2.2.2.2 hs WREC hW'
    have RT1 : Hid (∀ y st2, Tied (subS s) (mustS s LP (.ok (skp s 0))) y st2 → Tied (recS s) (.ok (skp s 0)) (⟨[y], false⟩ : RT) st2) := fun y st2 h => rec_else hW' h
    clear D hW hW'
    generalize mustS s LP (.ok (skp s 0)) = st1 at *
    go_wp2_with fail
    refine E.mono ?_
    rintro en w2 ⟨rfl, t2, s2⟩
    have X2 : Hid (CR w b M s (robj (.slice none 0 0) false) st1 w2) := X1.out.next t2 s2.st hNb hbM
    have Q2 : Hid (SubsQ (M + 1) w2 (.slice none 0 0) []) := SubsQ.nil _ _
    clear E t2 s2 X1
    go_wp2_with fail
    have NC : Hid (∀ w', Grew w2 w' → Calls Tryd.prog 30 #[.pointer (some ⟨b, 0, none⟩)] w' fun en w'' => ∃ cs x st', en = .returned (.agg cs.toArray) ∧ SubC (M + 1) w'' cs x ∧ Turn [b] w2 w'' ∧ ST w'' b s st' ∧ Tied (subS s) st1 x st') := by
      intro w' g
      refine (dsub_any (X2.out.2.2.2.2.grew g) hs).mono ?_
      rintro en w'' ⟨cs, x, st', rfl, r, t, s', td⟩
      refine ⟨cs, x, st', rfl, r.low ?_, (g.turn _).trans t, s', td⟩
      have := X2.out.2.2.1
      have := g.2
      omega
    have mq := cell_of X2.out.1 0
    have mz := free_of X2.out.1 0
    simp [NILS] at mq
    go_region_law (first
      | (refine step_sub (.tmp 32) rfl rfl rfl (NC.out _ (by first | exact Grew.refl _ | exact (Grew.refl _).drew | exact (Grew.refl _).drewN _ | exact ((Grew.refl _).drew).drew | exact ((Grew.refl _).drewN _).drew)) ?_
         rintro en w6 ⟨cs6, y6, st6, rfl, r6, t6, s6, td6⟩
         refine ⟨_, rfl, ?_⟩
         have R6 : Hid (SubC (M + 1) w6 cs6 y6) := r6
         obtain ⟨sv, pv, rv, fv, hcs, z1, z2, z3, z4⟩ := r6
         obtain ⟨sa, sc, hsv⟩ := row_one z1
         obtain ⟨pa, pc, hpv⟩ := row_one z2
         obtain ⟨ra, rc, hrv⟩ := row_one z3
         obtain ⟨fa, fc, hfv⟩ := row_one z4
         subst hsv
         subst hpv
         subst hrv
         subst hfv
         subst hcs
         have y7 := X2.out.next t6 s6 hNb hbM
         have X6 : Hid (CR w b M s (robj (.slice none 0 0) false) st6 w6) := y7
         have Q6 : Hid (SubsQ (M + 1) w6 (.slice none 0 0) ([] : List SB)) := Q2.out.next t6 X2.out.2.2.2.2
         have TD6 : Hid (Tied (subS s) st1 y6 st6) := td6
         have q6 := cell_of y7.1 0
         have zz6 := free_of y7.1 0
         simp [NILS] at q6
         have q6a := cell_of (heap_alloc y7.1 (.cells #[.bool y6.final_, .slice sa y6.supers.length sc, .int .i64 y6.comp.kind, .slice pa y6.comp.params.length pc, .slice ra y6.comp.results.length rc, .slice fa y6.comp.fields.length fc] 62)) 0
         simp [NILS] at q6a
         clear t6 s6 td6 y7 z1 z2 z3 z4)
      | (refine step_appS (w0 := w6) (B := M + 1) (v := (.slice none 0 0)) (l := ([] : List SB)) (y := y6) (new := (#[.bool y6.final_, .slice sa y6.supers.length sc, .int .i64 y6.comp.kind, .slice pa y6.comp.params.length pc, .slice ra y6.comp.results.length rc, .slice fa y6.comp.fields.length fc] : Array Value).toList) (gg := w6.heap.size) rfl (.tmp 31) (.tmp 34) rfl rfl rfl (by first | exact ((Grew.refl _).alloc _) | exact ((Grew.refl _).alloc _).drew | exact ((Grew.refl _).alloc _).drewN _ | exact ((Grew.refl _).drew.alloc _) | exact ((Grew.refl _).drewN _).alloc _ | exact (((Grew.refl _).drew).alloc _).drew | exact (((Grew.refl _).drewN _).alloc _).drew) Q6.out X6.out.2.2.1 R6.out (by intro j u hj; rw [Array.getElem?_toList] at hj; exact (cell_of (heap_alloc_last w6 _) j).trans hj) (by first | omega | simp) ?_
         intro v7 w7 I7' t7
         obtain ⟨a7, c7, hv7⟩ := I7'.one
         subst hv7
         have Q7 : Hid (SubsQ (M + 1) w7 (.slice a7 (([] : List SB) ++ [y6]).length c7) (([] : List SB) ++ [y6])) := I7'
         have y7 := X6.out.app (t7 _) hNb hbM
         have X7 : Hid (CR w b M s (robj (.slice none 0 0) false) st6 w7) := y7
         have q7 := cell_of y7.1 0
         have z7 := free_of y7.1 0
         simp [NILS] at q7
         clear t7 y7 I7'))
    all_goals
      go_wp2_with fail
      have X8' := X7.out.set hNb hbM 0 (.slice a7 1 c7) (robj_set0 X7.out.1 _)
      have Q8' := Q7.out.setR (q := ⟨M, 0, none⟩) X7.out.1 (.slice a7 1 c7)
      have X9 : Hid (CR w b M s (robj (.slice a7 1 c7) false) st6 (w7.setCell ⟨M, 0, none⟩ (.slice a7 1 c7))) := X8'
      have Q9 : Hid (SubsQ (M + 1) (w7.setCell ⟨M, 0, none⟩ (.slice a7 1 c7)) (.slice a7 1 c7) [y6]) := Q8'
      have TE : Hid (Tied (recS s) (.ok (skp s 0)) (⟨[y6], false⟩ : RT) st6) := RT1.out _ _ TD6.out
      clear X8' Q8' X7 Q7 X6 Q6 TD6 q7 z7 q6 zz6 q6a NC mq mz R6 RT1
      generalize w7.setCell ⟨M, 0, none⟩ (.slice a7 1 c7) = w9 at *
      have HR2 : Hid (R = fin2 (⟨[y6], false⟩ : RT) (doneT s st6)) := by
        rw [HR.out]
        exact parseR_tied (fun q hq => by have h := X9.out.2.2.2.2; rw [hq] at h; exact GD.at_ h) TE.out
      have D := ddone_any X9.out.2.2.2.2 hs
      clear HR TE
      skip
      refine D.mono ?_
      rintro en w8 ⟨rfl, t8, e8⟩
      have y8 := X9.out.next t8 e8.st hNb hbM
      have X8 : Hid (CR w b M s (robj (.slice a7 1 c7) false) (doneT s st6) w8) := y8
      have Q8 : Hid (SubsQ w.heap.size w8 (.slice a7 1 c7) (⟨[y6], false⟩ : RT).types) := (Q9.out.next t8 X9.out.2.2.2.2).low (by omega)
      have o8 := e8.obj
      have e1 : w8.cell? ⟨b, 1, none⟩ = some (.int .i64 (plc (doneT s st6) : Int)) := by rw [cell_of o8]; rfl
      have e2 := cell2_of o8
      have m0 := cell_of y8.1 0
      have m1 := cell_of y8.1 1
      have c0 := cell_of y8.2.1 0
      have c1 := cell_of y8.2.1 1
      have z0 := free_of y8.2.1 0
      have z1 := free_of y8.2.1 1
      simp [NILS] at m0 m1 c0 c1
      clear D t8 e8 y8 o8 X9 Q9
      cases hst : doneT s st6 with
      | ok p =>
        rw [hst] at e1 e2 HR2 X8
        have HR3 : Hid (R = ((⟨[y6], false⟩ : RT), 0, 0)) := HR2.out
        simp only [plc, isbad] at e1 e2
        clear hst HR2
        go_wp2_with fail
        refine bodyPost_ret (v := .tuple #[.agg #[(.slice a7 1 c7), .bool false], .int .i64 0, .int .i64 0]) (by simp [results, Tryd.results10, go_sem, c0, c1]) rfl ?_
        rw [HR3.out]
        refine ⟨_, rfl, ⟨_, rfl, ?_⟩, (X8.out.2.2.2.1.set (p := ⟨w.heap.size, 0, none⟩) (by simp) _).set (p := ⟨w.heap.size, 1, none⟩) (by simp) _⟩
        have n1 := robj_set0 X8.out.2.1 (.slice a7 1 c7)
        exact (Q8.out.setR (q := ⟨w.heap.size, 0, none⟩) X8.out.2.1 _).setR (q := ⟨w.heap.size, 1, none⟩) n1 _
      | error f =>
        rw [hst] at e1 e2 HR2 X8
        have HR3 : Hid (R = (zr, f, 4)) := HR2.out
        simp only [plc, isbad] at e1 e2
        clear hst HR2
        go_wp2_with fail
        go_region
        all_goals
          go_wp2_with fail
          refine bodyPost_ret (v := .tuple #[.agg #[.slice none 0 0, .bool false], .int .i64 f, .int .i64 4]) (by simp [results, Tryd.results10, go_sem, c0, c1]) rfl ?_
          rw [HR3.out]
          refine ⟨_, rfl, RecQ.nil _ _, ?_⟩
          first
            | exact ((X8.out.2.2.2.1.set (p := ⟨w.heap.size, 0, none⟩) (by simp) _).set (p := ⟨w.heap.size, 1, none⟩) (by simp) _).drewN _
            | exact (((X8.out.2.2.2.1.drewN _).set (p := ⟨w.heap.size, 0, none⟩) (by simp) _).set (p := ⟨w.heap.size, 1, none⟩) (by simp) _)
            | exact ((X8.out.2.2.2.1.set (p := ⟨w.heap.size, 0, none⟩) (by simp) _).set (p := ⟨w.heap.size, 1, none⟩) (by simp) _).drew
theorem dparseRec_any (s : ByteArray) (w : World) (hm : s.size ≤ 140737488355328) :
    Calls Tryd.prog 10 #[.string s] w (AnsP w (parseB s)) := by
  unfold parseB
  split
  · rename_i h
    exact dparseRec_long s w h hm
  · rename_i h
    exact dparseRec_short s w (by omega)
end Go.Proofs.YtmcljnohdknpoaaDoor
