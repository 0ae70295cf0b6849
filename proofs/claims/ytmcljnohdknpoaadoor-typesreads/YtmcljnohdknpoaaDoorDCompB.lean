/-
  The document's reading: the walk of comp at structures, arrays and what is none; no statement is proved here.
-/
import Derived.Test.YtmcljnohdknpoaaDoorDComp
namespace Go.Proofs.YtmcljnohdknpoaaDoor
open Go.RowKit
set_option linter.unusedVariables false
set_option linter.unusedSimpArgs false
set_option linter.constructorNameAsVariable false

theorem is_ex {w : World} {b : Nat} {s : ByteArray} {st : Except Nat Nat} (h : ST w b s st) (hs : s.size ≤ 65536) (x : ByteArray) (hi : isB s x st = false) :
    Calls Tryd.prog 29 #[.pointer (some ⟨b, 0, none⟩), .string x] w fun en w' => en = .returned (.bool false) ∧ Turn [b] w w' ∧ EX w' b s st := by
  cases st with
  | ok p =>
    have hat := GD.at_ h
    obtain ⟨q, h1, h2, h3⟩ := h
    refine (is_no_at h1 h2 h3 hs x (of_decide_eq_false hi)).mono ?_
    rintro en w' ⟨rfl, t, h'⟩
    exact ⟨rfl, t, h', hat⟩
  | error f => exact is_bad h x
theorem isB_no {s x : ByteArray} {p : Nat} (h : tk s p ≠ x) : isB s x (.ok p) = false := decide_eq_false (fun hh => h hh.1)
def WX (s : ByteArray) (st : Except Nat Nat) : Prop := isB s WFUNC st = false ∧ isB s WSTRUCT st = false
set_option maxRecDepth 100000 in
set_option maxHeartbeats 4000000 in
theorem dcomp_no {w : World} {b : Nat} {s : ByteArray} {st : Except Nat Nat} (h : ST w b s st) (hs : s.size ≤ 65536) (hF : isB s WFUNC st = false) (hS : isB s WSTRUCT st = false) (hA : isB s WARRAY st = false) (TE : Hid (∀ x, Tied (compS s) st x (.error (plc st)))) :
    Calls Tryd.prog 51 #[.pointer (some ⟨b, 0, none⟩)] w (AnsD b s w st) := by
  have hb : b < w.heap.size := h.lt
  obtain ⟨M, hM⟩ : ∃ M, M = w.heap.size + 1 := ⟨_, rfl⟩
  have H0 : Hid (ST w b s st) := h
  clear h
  go_enter Tryd.func51, Tryd.ntmps51
  go_wp2_with fail
  rw [← hM]
  generalize hW : ((w.alloc (.cells #[.int .i64 0, .slice none 0 0, .slice none 0 0, .slice none 0 0] 60)).alloc (.cells #[.int .i64 0, .slice none 0 0, .slice none 0 0, .slice none 0 0] 60)) = W
  have g0 : Grew w W := by rw [← hW]; exact ((Grew.refl w).alloc _).alloc _
  have X0 : Hid (CX w b M s (cobj 0 NILS NILS NILS) st W) := by
    have e : (w.alloc (.cells #[.int .i64 0, .slice none 0 0, .slice none 0 0, .slice none 0 0] 60)).heap.size = M := by simp [hM]
    refine ⟨?_, ?_, ?_, g0.turn _, H0.out.grew g0⟩
    · rw [← hW, ← e]
      exact heap_alloc_last _ _
    · rw [← hW]
      exact heap_alloc (heap_alloc_last _ _) _
    · rw [← hW, hM]
      simp
  have hNM : w.heap.size < M := by omega
  have HM : Hid (M = w.heap.size + 1) := hM
  clear hM hW g0 H0
  refine (is_ex X0.out.2.2.2.2 hs WFUNC hF).mono ?_
  rintro en w1 ⟨rfl, t1, s1⟩
  have X1 : Hid (CX w b M s (cobj 0 NILS NILS NILS) st w1) := X0.out.next t1 s1.st hb hNM
  clear t1 s1 X0 hF
  have D := is_ex X1.out.2.2.2.2 hs WSTRUCT hS
  go_wp2_with fail
  refine D.mono ?_
  rintro en w2 ⟨rfl, t2, s2⟩
  have X2 : Hid (CX w b M s (cobj 0 NILS NILS NILS) st w2) := X1.out.next t2 s2.st hb hNM
  clear D t2 s2 X1 hS
  have D := is_ex X2.out.2.2.2.2 hs WARRAY hA
  go_wp2_with fail
  refine D.mono ?_
  rintro en w3 ⟨rfl, t3, s3⟩
  have X3 : Hid (CX w b M s (cobj 0 NILS NILS NILS) st w3) := X2.out.next t3 s3.st hb hNM
  have O3 : Hid (w3.heap[b]? = some (rdg s (plc st) (isbad st))) := s3.obj
  have c2 := cell2_of s3.obj
  have z2 := free_of s3.obj 2
  clear D t3 s3 X2 hA
  go_wp2_with fail
  have X4 : Hid (CX w b M s (cobj 0 NILS NILS NILS) (.error (plc st)) (w3.setCell ⟨b, 2, none⟩ (.bool true))) := X3.out.bad O3.out hb hNM
  clear X3 c2 z2 O3
  generalize w3.setCell ⟨b, 2, none⟩ (.bool true) = w4 at *
  have C8 := must_any X4.out.2.2.2.2 hs RP
  skip
  refine C8.mono ?_
  rintro en w8 ⟨rfl, t8, s8⟩
  have Y8 := X4.out.next t8 s8 hb hNM
  have X8 : Hid (CX w b M s (cobj 0 (.slice none 0 0) (.slice none 0 0) (.slice none 0 0)) (mustS s RP (.error (plc st))) w8) := Y8
  have P8 : Hid (RowV w.heap.size w8 (.slice none 0 0) (⟨0, [], [], []⟩ : CT).params) := RowV.low ((RowV.nil w.heap.size w4).next t8 X4.out.2.2.2.2) (by omega)
  have Q8 : Hid (RowV w.heap.size w8 (.slice none 0 0) (⟨0, [], [], []⟩ : CT).results) := RowV.low ((RowV.nil w.heap.size w4).next t8 X4.out.2.2.2.2) (by omega)
  have F8 : Hid (RowF w.heap.size w8 (.slice none 0 0) (⟨0, [], [], []⟩ : CT).fields) := RowF.low ((RowF.nil w.heap.size w4).next t8 X4.out.2.2.2.2) (by omega)
  have u0 := cell_of Y8.1 0
  have u1 := cell_of Y8.1 1
  have u2 := cell_of Y8.1 2
  have u3 := cell_of Y8.1 3
  have v0 := cell_of Y8.2.1 0
  have v1 := cell_of Y8.2.1 1
  have v2 := cell_of Y8.2.1 2
  have v3 := cell_of Y8.2.1 3
  have f0 := free_of Y8.2.1 0
  have f1 := free_of Y8.2.1 1
  have f2 := free_of Y8.2.1 2
  have f3 := free_of Y8.2.1 3
  simp [NILS] at u0 u1 u2 u3 v0 v1 v2 v3
  clear C8 t8 s8 Y8
  go_wp2_with fail
  refine bodyPost_ret (v := .agg #[.int .i64 0, (.slice none 0 0), (.slice none 0 0), (.slice none 0 0)]) (by simp [results, Tryd.results51, go_sem, NILS, v0, v1, v2, v3]) rfl ?_
  obtain ⟨q1, q2, q3⟩ := dcomp_end (c := (⟨0, [], [], []⟩ : CT)) X8.out.2.1 (Nat.le_refl _) (Nat.le_refl _) P8.out Q8.out F8.out X8.out.2.2.2.1 X8.out.2.2.2.2 (by omega)
  exact ⟨_, (⟨0, [], [], []⟩ : CT), mustS s RP (.error (plc st)), rfl, q1, q2, q3, TE.out _⟩
set_option maxRecDepth 100000 in
set_option maxHeartbeats 4000000 in
theorem dcomp_arr {w : World} {b : Nat} {s : ByteArray} {p : Nat} (h : ST w b s (.ok p)) (hs : s.size ≤ 65536) (hA : tk s p = WARRAY) :
    Calls Tryd.prog 51 #[.pointer (some ⟨b, 0, none⟩)] w (AnsD b s w (.ok p)) := by
  have hF : isB s WFUNC (.ok p) = false := isB_no (by rw [hA]; decide)
  have hS : isB s WSTRUCT (.ok p) = false := isB_no (by rw [hA]; decide)
  have hb : b < w.heap.size := h.lt
  obtain ⟨M, hM⟩ : ∃ M, M = w.heap.size + 1 := ⟨_, rfl⟩
  have H0 : Hid (ST w b s (.ok p)) := h
  clear h
  go_enter Tryd.func51, Tryd.ntmps51
  go_wp2_with fail
  rw [← hM]
  generalize hW : ((w.alloc (.cells #[.int .i64 0, .slice none 0 0, .slice none 0 0, .slice none 0 0] 60)).alloc (.cells #[.int .i64 0, .slice none 0 0, .slice none 0 0, .slice none 0 0] 60)) = W
  have g0 : Grew w W := by rw [← hW]; exact ((Grew.refl w).alloc _).alloc _
  have X0 : Hid (CX w b M s (cobj 0 NILS NILS NILS) (.ok p) W) := by
    have e : (w.alloc (.cells #[.int .i64 0, .slice none 0 0, .slice none 0 0, .slice none 0 0] 60)).heap.size = M := by simp [hM]
    refine ⟨?_, ?_, ?_, g0.turn _, H0.out.grew g0⟩
    · rw [← hW, ← e]
      exact heap_alloc_last _ _
    · rw [← hW]
      exact heap_alloc (heap_alloc_last _ _) _
    · rw [← hW, hM]
      simp
  have hNM : w.heap.size < M := by omega
  have HM : Hid (M = w.heap.size + 1) := hM
  clear hM hW g0 H0
  refine (is_ex X0.out.2.2.2.2 hs WFUNC hF).mono ?_
  rintro en w1 ⟨rfl, t1, s1⟩
  have X1 : Hid (CX w b M s (cobj 0 NILS NILS NILS) (.ok p) w1) := X0.out.next t1 s1.st hb hNM
  clear t1 s1 X0 hF
  have D := is_ex X1.out.2.2.2.2 hs WSTRUCT hS
  go_wp2_with fail
  refine D.mono ?_
  rintro en w2 ⟨rfl, t2, s2⟩
  have X2 : Hid (CX w b M s (cobj 0 NILS NILS NILS) (.ok p) w2) := X1.out.next t2 s2.st hb hNM
  clear D t2 s2 X1 hS
  have D := is_yes X2.out.2.2.2.2 hs WARRAY hA (by decide)
  have CT1 : Hid (∀ f st1, Tied (fieldS s) (.ok (nx s p)) f st1 → Tied (compS s) (.ok p) (⟨3, [], [], [f]⟩ : CT) (mustS s RP st1)) := fun f st1 ht => comp_arr hA ht
  go_wp2_with fail
  refine D.mono ?_
  rintro en w3 ⟨rfl, t3, s3⟩
  have y3 := X2.out.next t3 (st' := .ok (nx s p)) s3 hb hNM
  have X3 : Hid (CX w b M s (cobj 0 NILS NILS NILS) (.ok (nx s p)) w3) := y3
  have c0 := cell_of y3.1 0
  have z0 := free_of y3.1 0
  simp [NILS] at c0
  clear D t3 s3 X2 hA y3
  go_wp2_with fail
  have X4 : Hid (CX w b M s (cobj 3 NILS NILS NILS) (.ok (nx s p)) (w3.setCell ⟨M, 0, none⟩ (.int .i64 3))) := X3.out.set hb hNM 0 (.int .i64 3) (cobj_set0 X3.out.1 3)
  generalize w3.setCell ⟨M, 0, none⟩ (.int .i64 3) = w4 at *
  clear X3 c0 z0
  have F4 : Hid (RowF (M + 1) w4 (.slice none 0 0) []) := RowF.nil _ _
  have NC : Hid (∀ w', Grew w4 w' → Calls Tryd.prog 70 #[.pointer (some ⟨b, 0, none⟩)] w' fun en w'' => ∃ x st', en = .returned (FT.v x) ∧ Turn [b] w4 w'' ∧ ST w'' b s st' ∧ Tied (fieldS s) (.ok (nx s p)) x st') := by
    intro w' g
    refine (dfield_any (X4.out.2.2.2.2.grew g) hs).mono ?_
    rintro en w'' ⟨x, st', rfl, t, s', td⟩
    exact ⟨x, st', rfl, (g.turn _).trans t, s', td⟩
  have mq := cell_of X4.out.1 3
  have mz := free_of X4.out.1 3
  simp [NILS] at mq
  go_region_law (first
    | (refine step_field (.tmp 73) rfl rfl rfl (NC.out _ (by first | exact Grew.refl _ | exact (Grew.refl _).drew | exact (Grew.refl _).drewN _ | exact ((Grew.refl _).drew).drew | exact ((Grew.refl _).drewN _).drew)) ?_
       rintro en w6 ⟨⟨⟨n6, nul6, h6⟩, m6⟩, st6, rfl, t6, s6, td6⟩
       refine ⟨_, rfl, ?_⟩
       unfold FT.v
       have y6 := X4.out.next t6 s6 hb hNM
       have X6 : Hid (CX w b M s (cobj 3 NILS NILS (.slice none 0 0)) st6 w6) := y6
       have F6 : Hid (RowF (M + 1) w6 (.slice none 0 0) ([] : List FT)) := F4.out.next t6 X4.out.2.2.2.2
       have TD6 : Hid (Tied (fieldS s) (.ok (nx s p)) (⟨⟨n6, nul6, h6⟩, m6⟩ : FT) st6) := td6
       have q6 := cell_of y6.1 3
       have z6 := free_of y6.1 3
       simp [NILS] at q6
       have q6a := cell_of (heap_alloc y6.1 (.cells #[.int .i64 n6, .bool nul6, .int .i64 h6, .bool m6] 94)) 3
       simp [NILS] at q6a
       clear t6 s6 td6 y6)
    | (refine step_appF (w0 := w6) (B := M + 1) (v := (.slice none 0 0)) (l := ([] : List FT)) (c := (⟨⟨n6, nul6, h6⟩, m6⟩ : FT)) (gg := w6.heap.size) rfl (.tmp 72) (.tmp 75) rfl rfl rfl (by first | exact ((Grew.refl _).alloc _) | exact ((Grew.refl _).alloc _).drew | exact ((Grew.refl _).alloc _).drewN _ | exact ((Grew.refl _).drew.alloc _) | exact ((Grew.refl _).drewN _).alloc _ | exact (((Grew.refl _).drew).alloc _).drew | exact (((Grew.refl _).drewN _).alloc _).drew) F6.out X6.out.2.2.1 (by simp) (by simp) (by simp) (by simp) (by first | omega | simp) ?_
       intro v7 w7 I7' t7
       obtain ⟨a7, c7, hv7⟩ := row_one I7'
       subst hv7
       have F7 : Hid (RowF (M + 1) w7 (.slice a7 (([] : List FT) ++ [(⟨⟨n6, nul6, h6⟩, m6⟩ : FT)]).length c7) (([] : List FT) ++ [(⟨⟨n6, nul6, h6⟩, m6⟩ : FT)])) := I7'
       have y7 := X6.out.app (t7 _) hb hNM
       have X7 : Hid (CX w b M s (cobj 3 NILS NILS (.slice none 0 0)) st6 w7) := y7
       have q7 := cell_of y7.1 3
       have z7 := free_of y7.1 3
       simp [NILS] at q7
       clear t7 y7 I7'))
  all_goals
    go_wp2_with fail
    have X9' := X7.out.set hb hNM 3 (.slice a7 1 c7) (cobj_set3 X7.out.1 _)
    have X9 : Hid (CX w b M s (cobj 3 (.slice none 0 0) (.slice none 0 0) (.slice a7 1 c7)) st6 (w7.setCell ⟨M, 3, none⟩ (.slice a7 1 c7))) := X9'
    have F9' := F7.out.set (q := ⟨M, 3, none⟩) X7.out.1 (.slice a7 1 c7)
    have F9 : Hid (RowF (M + 1) (w7.setCell ⟨M, 3, none⟩ (.slice a7 1 c7)) (.slice a7 1 c7) [(⟨⟨n6, nul6, h6⟩, m6⟩ : FT)]) := F9'
    have TE : Hid (Tied (compS s) (.ok p) (⟨3, [], [], [(⟨⟨n6, nul6, h6⟩, m6⟩ : FT)]⟩ : CT) (mustS s RP st6)) := CT1.out _ _ TD6.out
    clear X9' F9' X7 F7 X6 F6 TD6 q7 z7 q6 z6 q6a NC mq mz
    generalize w7.setCell ⟨M, 3, none⟩ (.slice a7 1 c7) = w9 at *
    have C8 := must_any X9.out.2.2.2.2 hs RP
    skip
    refine C8.mono ?_
    rintro en w8 ⟨rfl, t8, s8⟩
    have Y8 := X9.out.next t8 s8 hb hNM
    have X8 : Hid (CX w b M s (cobj 3 (.slice none 0 0) (.slice none 0 0) (.slice a7 1 c7)) (mustS s RP st6) w8) := Y8
    have P8 : Hid (RowV w.heap.size w8 (.slice none 0 0) (⟨3, [], [], [(⟨⟨n6, nul6, h6⟩, m6⟩ : FT)]⟩ : CT).params) := RowV.low ((RowV.nil w.heap.size w9).next t8 X9.out.2.2.2.2) (by omega)
    have Q8 : Hid (RowV w.heap.size w8 (.slice none 0 0) (⟨3, [], [], [(⟨⟨n6, nul6, h6⟩, m6⟩ : FT)]⟩ : CT).results) := RowV.low ((RowV.nil w.heap.size w9).next t8 X9.out.2.2.2.2) (by omega)
    have F8 : Hid (RowF w.heap.size w8 (.slice a7 1 c7) (⟨3, [], [], [(⟨⟨n6, nul6, h6⟩, m6⟩ : FT)]⟩ : CT).fields) := RowF.low (F9.out.next t8 X9.out.2.2.2.2) (by omega)
    have u0 := cell_of Y8.1 0
    have u1 := cell_of Y8.1 1
    have u2 := cell_of Y8.1 2
    have u3 := cell_of Y8.1 3
    have v0 := cell_of Y8.2.1 0
    have v1 := cell_of Y8.2.1 1
    have v2 := cell_of Y8.2.1 2
    have v3 := cell_of Y8.2.1 3
    have f0 := free_of Y8.2.1 0
    have f1 := free_of Y8.2.1 1
    have f2 := free_of Y8.2.1 2
    have f3 := free_of Y8.2.1 3
    simp [NILS] at u0 u1 u2 u3 v0 v1 v2 v3
    clear C8 t8 s8 Y8
    go_wp2_with fail
    refine bodyPost_ret (v := .agg #[.int .i64 3, (.slice none 0 0), (.slice none 0 0), (.slice a7 1 c7)]) (by simp [results, Tryd.results51, go_sem, NILS, v0, v1, v2, v3]) rfl ?_
    obtain ⟨q1, q2, q3⟩ := dcomp_end (c := (⟨3, [], [], [(⟨⟨n6, nul6, h6⟩, m6⟩ : FT)]⟩ : CT)) X8.out.2.1 (Nat.le_refl _) (Nat.le_refl _) P8.out Q8.out F8.out X8.out.2.2.2.1 X8.out.2.2.2.2 (by omega)
    exact ⟨_, (⟨3, [], [], [(⟨⟨n6, nul6, h6⟩, m6⟩ : FT)]⟩ : CT), mustS s RP st6, rfl, q1, q2, q3, TE.out⟩
set_option maxRecDepth 100000 in
set_option maxHeartbeats 4000000 in
theorem dcomp_str {w : World} {b : Nat} {s : ByteArray} {p : Nat} (h : ST w b s (.ok p)) (hs : s.size ≤ 65536) (h1 : tk s p = WSTRUCT) :
    Calls Tryd.prog 51 #[.pointer (some ⟨b, 0, none⟩)] w (AnsD b s w (.ok p)) := by
  have hF : isB s WFUNC (.ok p) = false := isB_no (by rw [h1]; decide)
  have hb : b < w.heap.size := h.lt
  obtain ⟨M, hM⟩ : ∃ M, M = w.heap.size + 1 := ⟨_, rfl⟩
  have H0 : Hid (ST w b s (.ok p)) := h
  clear h
  go_enter Tryd.func51, Tryd.ntmps51
  go_wp2_with fail
  rw [← hM]
  generalize hW : ((w.alloc (.cells #[.int .i64 0, .slice none 0 0, .slice none 0 0, .slice none 0 0] 60)).alloc (.cells #[.int .i64 0, .slice none 0 0, .slice none 0 0, .slice none 0 0] 60)) = W
  have g0 : Grew w W := by rw [← hW]; exact ((Grew.refl w).alloc _).alloc _
  have X0 : Hid (CX w b M s (cobj 0 NILS NILS NILS) (.ok p) W) := by
    have e : (w.alloc (.cells #[.int .i64 0, .slice none 0 0, .slice none 0 0, .slice none 0 0] 60)).heap.size = M := by simp [hM]
    refine ⟨?_, ?_, ?_, g0.turn _, H0.out.grew g0⟩
    · rw [← hW, ← e]
      exact heap_alloc_last _ _
    · rw [← hW]
      exact heap_alloc (heap_alloc_last _ _) _
    · rw [← hW, hM]
      simp
  have hNM : w.heap.size < M := by omega
  have HM : Hid (M = w.heap.size + 1) := hM
  clear hM hW g0 H0
  refine (is_ex X0.out.2.2.2.2 hs WFUNC hF).mono ?_
  rintro en w1 ⟨rfl, t1, s1⟩
  have X1 : Hid (CX w b M s (cobj 0 NILS NILS NILS) (.ok p) w1) := X0.out.next t1 s1.st hb hNM
  clear t1 s1 X0 hF
  have D := is_yes X1.out.2.2.2.2 hs WSTRUCT h1 (by decide)
  go_wp2_with fail
  refine D.mono ?_
  rintro en w3 ⟨rfl, t3, s3⟩
  have y3 := X1.out.next t3 (st' := .ok (nx s p)) s3 hb hNM
  have X3 : Hid (CX w b M s (cobj 0 NILS NILS NILS) (.ok (nx s p)) w3) := y3
  have c0 := cell_of y3.1 0
  have z0 := free_of y3.1 0
  simp [NILS] at c0
  clear D t3 s3 X1 y3
  go_wp2_with fail
  have X4 : Hid (CX w b M s (cobj 2 NILS NILS NILS) (.ok (nx s p)) (w3.setCell ⟨M, 0, none⟩ (.int .i64 2))) := X3.out.set hb hNM 0 (.int .i64 2) (cobj_set0 X3.out.1 2)
  generalize w3.setCell ⟨M, 0, none⟩ (.int .i64 2) = w4 at *
  clear X3 c0 z0
  go_loopw [] (fun w' => ∃ (stq : Except Nat Nat) (fs : List FT) (fv : Value), Hid (CX w b M s (cobj 2 NILS NILS fv) stq w') ∧ Hid (RowF (M + 1) w' fv fs) ∧ Hid (∀ q, stq = .ok q → fs.length ≤ q) ∧ Hid (∀ x st', Tied (loopS s (strStep s) fs) stq x st' → Tied (compS s) (.ok p) x st')) (fun w' => mOf s w' b)
  case atStart => exact ⟨_, [], NILS, X4, RowF.nil _ _, fun q h => Nat.zero_le _, fun x st' h => comp_str h1 h⟩
  case round =>
    obtain ⟨stq, fs, fv, XR, FR, LR, TR⟩ := hrel
    obtain ⟨w0, hw0⟩ : ∃ w0, w0 = wr := ⟨_, rfl⟩
    rw [← hw0] at XR FR ⊢
    clear hw0 X4
    have D := is_any XR.out.2.2.2.2 hs LP
    obtain ⟨fa, fc, hfv⟩ := row_one FR.out
    subst hfv
    by_cases hL : ∃ q, stq = .ok q ∧ tk s q = LP
    · obtain ⟨q, rfl, a1⟩ := hL
      have hi : isB s LP (.ok q) = true := by rw [isB_of q (by decide), decide_eq_true a1]
      have hi2 : isS s LP (.ok q) = .ok (nx s q) := by
        show (if tk s q = LP ∧ LP ≠ E0 then Except.ok (nx s q) else Except.ok q) = _
        rw [if_pos ⟨a1, by decide⟩]
      rw [hi, hi2] at D
      have hq := XR.out.2.2.2.2.at_.1
      have e1 := nx_of hq a1 (by decide)
      have hl0 := LR.out q rfl
      have MEA : Hid (ST w0 b s (.ok q)) := XR.out.2.2.2.2
      obtain ⟨st1, hst1⟩ : ∃ st1, st1 = mustS s WFIELD (.ok (nx s q)) := ⟨_, rfl⟩
      have UT : Hid (∀ l st2, Tied (uptoS s (fieldS s) fs) st1 l st2 → ∀ x st', Tied (loopS s (strStep s) l) st2 x st' → Tied (compS s) (.ok p) x st') := by
        intro l st2 h x st' ht
        refine TR.out x st' ?_
        by_cases a2 : tk s (nx s q) = WFIELD
        · rw [must_ok a2 (by decide)] at hst1
          subst hst1
          exact str_in hq a1 a2 h x st' ht
        · rw [must_er a2] at hst1
          subst hst1
          have h' : st2 = .error (nx s q) := h
          subst h'
          have ht' : st' = .error (nx s q) := ht
          subst ht'
          exact str_no hq a1 a2 x
      have HP : Hid (∀ r, st1 = .ok r → fs.length ≤ r ∧ q < r) := by
        intro r hr
        rw [hst1] at hr
        by_cases a2 : tk s (nx s q) = WFIELD
        · have e2 := nx_of e1.2 a2 (by decide)
          rw [must_ok a2 (by decide)] at hr
          cases hr
          omega
        · rw [must_er a2] at hr
          cases hr
      clear hi hi2 TR LR a1
      go_wp2_with fail
      refine D.mono ?_
      rintro en w1 ⟨rfl, t1, s1⟩
      have X1 : Hid (CX w b M s (cobj 2 NILS NILS (.slice fa fs.length fc)) (.ok (nx s q)) w1) := XR.out.next t1 s1 hb hNM
      have F1 : Hid (RowF (M + 1) w1 (.slice fa fs.length fc) fs) := FR.out.next t1 XR.out.2.2.2.2
      clear D t1 s1 XR FR
      have D := must_any X1.out.2.2.2.2 hs WFIELD
      rw [← hst1] at D
      clear hst1
      go_wp2_with fail
      refine D.mono ?_
      rintro en w2 ⟨rfl, t2, s2⟩
      have X2 : Hid (CX w b M s (cobj 2 NILS NILS (.slice fa fs.length fc)) st1 w2) := X1.out.next t2 s2 hb hNM
      have F2 : Hid (RowF (M + 1) w2 (.slice fa fs.length fc) fs) := F1.out.next t2 X1.out.2.2.2.2
      clear D t2 s2 X1 F1
      go_wp2_with fail
      go_loopw [] (fun w' => ∃ (st2 : Except Nat Nat) (m : List FT) (mv : Value), Hid (CX w b M s (cobj 2 NILS NILS mv) st2 w') ∧ Hid (RowF (M + 1) w' mv m) ∧ Hid (∀ r, st2 = .ok r → m.length ≤ r ∧ q < r) ∧ Hid (∀ l st', Tied (uptoS s (fieldS s) m) st2 l st' → Tied (uptoS s (fieldS s) fs) st1 l st')) (fun w' => mOf s w' b)
      case atStart => exact ⟨st1, fs, _, X2, F2, HP.out, fun l st' h => h⟩
      case round =>
        obtain ⟨st2, m, mv, XI, FI, LI, TI⟩ := hrel
        obtain ⟨w9, hw9⟩ : ∃ w9, w9 = wr := ⟨_, rfl⟩
        rw [← hw9] at XI FI ⊢
        clear hw9 X2 F2
        obtain ⟨ma, mc, hmv⟩ := row_one FI.out
        subst hmv
        cases st2 with
        | error f =>
          have c2 := cell2_of (show w9.heap[b]? = some (rdg s f true) from XI.out.2.2.2.2)
          have UT2 : Hid _ := UT.out m (.error f) (TI.out m _ rfl)
          clear UT TI
          go_wp2_with fail
          go_roundw
          case rel => exact ⟨.error f, m, _, XI, FI, fun q h => by (cases h), UT2.out⟩
          case measure => exact mOf_lt MEA.out XI.out.2.2.2.2 (fun r hr => by (cases hr))
        | ok r =>
          have hr := XI.out.2.2.2.2.at_.1
          have hl1 := LI.out r rfl
          obtain ⟨q0, o0⟩ := XI.out.2.2.2.2.obj
          have c2 := cell2_of o0
          clear o0
          by_cases hx : tk s r = RP
          · have C := is_yes XI.out.2.2.2.2 hs RP hx (by decide)
            have hnx := nx_of hr hx (by decide)
            have UT2 : Hid _ := UT.out m (.ok (nx s r)) (TI.out _ _ (up_end (field_adv s) m hr hx))
            clear UT TI LI
            go_wp2_with fail
            refine C.mono ?_
            rintro en w1 ⟨rfl, t1, s1⟩
            have X1 : Hid (CX w b M s (cobj 2 NILS NILS (.slice ma m.length mc)) (.ok (nx s r)) w1) := XI.out.next t1 s1 hb hNM
            have F1 : Hid (RowF (M + 1) w1 (.slice ma m.length mc) m) := FI.out.next t1 XI.out.2.2.2.2
            clear C t1 s1 XI FI
            go_wp2_with fail
            go_roundw
            case rel => exact ⟨.ok (nx s r), m, _, X1, F1, fun q h => by cases h; omega, UT2.out⟩
            case measure => exact mOf_lt MEA.out X1.out.2.2.2.2 (fun r hr => by cases hr; omega)
          · have C := is_no XI.out.2.2.2.2 hs RP (fun h => hx h.1)
            have ME2 : Hid (ST w9 b s (.ok r)) := XI.out.2.2.2.2
            have UT2 : Hid (∀ a st3, Tied (fieldS s) (.ok r) a st3 → ∀ l st', Tied (uptoS s (fieldS s) (m ++ [a])) st3 l st' → Tied (uptoS s (fieldS s) fs) st1 l st') := fun a st3 h l st' ht => TI.out l st' (up_tied (field_adv s) hr hx h l st' ht)
            clear TI LI
            go_wp2_with fail
            refine C.mono ?_
            rintro en w5 ⟨rfl, t5, s5⟩
            have X5 : Hid (CX w b M s (cobj 2 NILS NILS (.slice ma m.length mc)) (.ok r) w5) := XI.out.next t5 s5 hb hNM
            have F5 : Hid (RowF (M + 1) w5 (.slice ma m.length mc) m) := FI.out.next t5 XI.out.2.2.2.2
            clear C t5 s5 XI FI
            go_wp2_with fail
            have NC : Hid (∀ w', Grew w5 w' → Calls Tryd.prog 70 #[.pointer (some ⟨b, 0, none⟩)] w' fun en w'' => ∃ x st', en = .returned (FT.v x) ∧ Turn [b] w5 w'' ∧ ST w'' b s st' ∧ Tied (fieldS s) (.ok r) x st') := by
              intro w' g
              refine (dfield_any (X5.out.2.2.2.2.grew g) hs).mono ?_
              rintro en w'' ⟨x, st', rfl, t, s', td⟩
              exact ⟨x, st', rfl, (g.turn _).trans t, s', td⟩
            have mq := cell_of X5.out.1 3
            have mz := free_of X5.out.1 3
            simp [NILS] at mq
            go_region_law (first
              | (refine step_field (.tmp 62) rfl rfl rfl (NC.out _ (by first | exact Grew.refl _ | exact (Grew.refl _).drew | exact (Grew.refl _).drewN _ | exact ((Grew.refl _).drew).drew | exact ((Grew.refl _).drewN _).drew)) ?_
                 rintro en w6 ⟨⟨⟨n6, nul6, h6⟩, m6⟩, st6, rfl, t6, s6, td6⟩
                 refine ⟨_, rfl, ?_⟩
                 unfold FT.v
                 have y6 := X5.out.next t6 s6 hb hNM
                 have X6 : Hid (CX w b M s (cobj 2 NILS NILS (.slice ma m.length mc)) st6 w6) := y6
                 have F6 : Hid (RowF (M + 1) w6 (.slice ma m.length mc) m) := F5.out.next t6 X5.out.2.2.2.2
                 have TD6 : Hid (Tied (fieldS s) (.ok r) (⟨⟨n6, nul6, h6⟩, m6⟩ : FT) st6) := td6
                 have q6 := cell_of y6.1 3
                 have z6 := free_of y6.1 3
                 simp [NILS] at q6
                 have q6a := cell_of (heap_alloc y6.1 (.cells #[.int .i64 n6, .bool nul6, .int .i64 h6, .bool m6] 94)) 3
                 simp [NILS] at q6a
                 clear t6 s6 td6 y6)
              | (refine step_appF (w0 := w6) (B := M + 1) (v := (.slice ma m.length mc)) (l := m) (c := (⟨⟨n6, nul6, h6⟩, m6⟩ : FT)) (gg := w6.heap.size) rfl (.tmp 61) (.tmp 64) rfl rfl rfl (by first | exact ((Grew.refl _).alloc _) | exact ((Grew.refl _).alloc _).drew | exact ((Grew.refl _).alloc _).drewN _ | exact ((Grew.refl _).drew.alloc _) | exact ((Grew.refl _).drewN _).alloc _ | exact (((Grew.refl _).drew).alloc _).drew | exact (((Grew.refl _).drewN _).alloc _).drew) F6.out X6.out.2.2.1 (by simp) (by simp) (by simp) (by simp) (by first | omega | simp) ?_
                 intro v7 w7 I7' t7
                 obtain ⟨a7, c7, hv7⟩ := row_one I7'
                 subst hv7
                 have F7 : Hid (RowF (M + 1) w7 (.slice a7 (m ++ [(⟨⟨n6, nul6, h6⟩, m6⟩ : FT)]).length c7) (m ++ [(⟨⟨n6, nul6, h6⟩, m6⟩ : FT)])) := I7'
                 have y7 := X6.out.app (t7 _) hb hNM
                 have X7 : Hid (CX w b M s (cobj 2 NILS NILS (.slice ma m.length mc)) st6 w7) := y7
                 have q7 := cell_of y7.1 3
                 have z7 := free_of y7.1 3
                 simp [NILS] at q7
                 clear t7 y7 I7'))
            all_goals
              go_wp2_with fail
              have X8 := X7.out.set hb hNM 3 (.slice a7 (m ++ [(⟨⟨n6, nul6, h6⟩, m6⟩ : FT)]).length c7) (cobj_set3 X7.out.1 _)
              have F8 := F7.out.set (q := ⟨M, 3, none⟩) X7.out.1 (.slice a7 (m ++ [(⟨⟨n6, nul6, h6⟩, m6⟩ : FT)]).length c7)
              simp only [List.length_append, List.length_cons, List.length_nil, Nat.zero_add] at X8 F8
              have hadv : ∀ r', st6 = .ok r' → r < r' := by
                intro r' hr'
                have td := TD6.out
                rw [hr'] at td
                obtain ⟨p', hp', hf⟩ := td.from
                cases hp'
                exact (field_adv s r _ r' hr hf).1
              go_roundw
              case rel =>
                refine ⟨st6, m ++ [(⟨⟨n6, nul6, h6⟩, m6⟩ : FT)], _, X8, F8, ?_, UT2.out _ _ TD6.out⟩
                intro r' hr'
                have := hadv r' hr'
                simp
                omega
              case measure => exact mOf_lt ME2.out X8.2.2.2.2 hadv
    · have hi : isB s LP stq = false := by
        cases stq with
        | error e => rfl
        | ok q => rw [isB_of q (by decide), decide_eq_false (fun h => hL ⟨q, rfl, h⟩)]
      have hi2 : isS s LP stq = stq := by
        cases stq with
        | error e => rfl
        | ok q =>
          show (if tk s q = LP ∧ LP ≠ E0 then Except.ok (nx s q) else Except.ok q) = _
          rw [if_neg (fun h => hL ⟨q, rfl, h.1⟩)]
      have TE : Hid (Tied (compS s) (.ok p) (⟨2, [], [], fs⟩ : CT) (mustS s RP stq)) := by
        refine TR.out _ _ ?_
        cases stq with
        | error e => rfl
        | ok q => exact str_end XR.out.2.2.2.2.at_.1 (fun h => hL ⟨q, rfl, h⟩)
      rw [hi, hi2] at D
      clear hi hi2 TR LR hL
      go_wp2_with fail
      refine D.mono ?_
      rintro en w2 ⟨rfl, t2, s2⟩
      have X2 : Hid (CX w b M s (cobj 2 (.slice none 0 0) (.slice none 0 0) (.slice fa fs.length fc)) stq w2) := XR.out.next t2 s2 hb hNM
      have F2 : Hid (RowF (M + 1) w2 (.slice fa fs.length fc) fs) := FR.out.next t2 XR.out.2.2.2.2
      clear D t2 s2 XR FR
      have C8 := must_any X2.out.2.2.2.2 hs RP
      go_wp2_with fail
      refine C8.mono ?_
      rintro en w8 ⟨rfl, t8, s8⟩
      have Y8 := X2.out.next t8 s8 hb hNM
      have X8 : Hid (CX w b M s (cobj 2 (.slice none 0 0) (.slice none 0 0) (.slice fa fs.length fc)) (mustS s RP stq) w8) := Y8
      have P8 : Hid (RowV w.heap.size w8 (.slice none 0 0) (⟨2, [], [], fs⟩ : CT).params) := RowV.low ((RowV.nil w.heap.size w2).next t8 X2.out.2.2.2.2) (by omega)
      have Q8 : Hid (RowV w.heap.size w8 (.slice none 0 0) (⟨2, [], [], fs⟩ : CT).results) := RowV.low ((RowV.nil w.heap.size w2).next t8 X2.out.2.2.2.2) (by omega)
      have F8 : Hid (RowF w.heap.size w8 (.slice fa fs.length fc) (⟨2, [], [], fs⟩ : CT).fields) := RowF.low (F2.out.next t8 X2.out.2.2.2.2) (by omega)
      have u0 := cell_of Y8.1 0
      have u1 := cell_of Y8.1 1
      have u2 := cell_of Y8.1 2
      have u3 := cell_of Y8.1 3
      have v0 := cell_of Y8.2.1 0
      have v1 := cell_of Y8.2.1 1
      have v2 := cell_of Y8.2.1 2
      have v3 := cell_of Y8.2.1 3
      have f0 := free_of Y8.2.1 0
      have f1 := free_of Y8.2.1 1
      have f2 := free_of Y8.2.1 2
      have f3 := free_of Y8.2.1 3
      simp [NILS] at u0 u1 u2 u3 v0 v1 v2 v3
      clear C8 t8 s8 Y8
      go_wp2_with fail
      refine bodyPost_ret (v := .agg #[.int .i64 2, (.slice none 0 0), (.slice none 0 0), (.slice fa fs.length fc)]) (by simp [results, Tryd.results51, go_sem, NILS, v0, v1, v2, v3]) rfl ?_
      obtain ⟨q1, q2, q3⟩ := dcomp_end (c := (⟨2, [], [], fs⟩ : CT)) X8.out.2.1 (Nat.le_refl _) (Nat.le_refl _) P8.out Q8.out F8.out X8.out.2.2.2.1 X8.out.2.2.2.2 (by omega)
      exact ⟨_, (⟨2, [], [], fs⟩ : CT), mustS s RP stq, rfl, q1, q2, q3, TE.out⟩
/- The document's comp, from any state. -/
theorem dcomp_any {w : World} {b : Nat} {s : ByteArray} {st : Except Nat Nat} (h : ST w b s st) (hs : s.size ≤ 65536) :
    Calls Tryd.prog 51 #[.pointer (some ⟨b, 0, none⟩)] w (AnsD b s w st) := by
  cases st with
  | error e => exact dcomp_no h hs rfl rfl rfl (fun x => rfl)
  | ok p =>
    by_cases h1 : tk s p = WFUNC
    · exact dcomp_fun h hs h1
    · by_cases h2 : tk s p = WSTRUCT
      · exact dcomp_str h hs h2
      · by_cases h3 : tk s p = WARRAY
        · exact dcomp_arr h hs h3
        · exact dcomp_no h hs (isB_no h1) (isB_no h2) (isB_no h3) (fun x => comp_no h1 h2 h3 x)
end Go.Proofs.YtmcljnohdknpoaaDoor
