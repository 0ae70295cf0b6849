/-
  The document's calls at a place: exports; no statement is proved here.
-/
import Derived.Test.YtemaeigfhmnapaaGreatDoorDTpI
import Derived.Test.YtemaeigfhmnapaaGreatDoorTpE
import Derived.Test.YtemaeigfhmnapaaGreatDoorCurL
import Derived.Test.YtemaeigfhmnapaaGreatDoorTpA
namespace Go.Proofs.YtemaeigfhmnapaaGreatDoor
open Go.RowKit
set_option linter.unusedVariables false
set_option linter.unusedSimpArgs false
set_option linter.constructorNameAsVariable false

theorem dn32_any {w : World} {b : Nat} {v : Value} {l : List Int} {st : Except (Nat × Nat) Nat} (h : DR w b v l st) :
    Calls Tryz.prog 38 #[.pointer (some ⟨b, 0, none⟩), .int .i64 32, .bool false] w (DAns (fun n => .int .u64 n) b v l w (runR (numR 32 false l) st)) := dnumU_any h
set_option maxRecDepth 100000 in
set_option maxHeartbeats 4000000 in
theorem dtopEp_any (v : Value) (l : List Int) (x : Int) (w : World) (hR : Reads w v l) (hB : Byt l) (hl : l.length ≤ 140737488351232) :
    Calls Tryz.prog 15 #[v, .int .i64 x] w fun en w' => en = .returned (ansEp (topR (expR l) E0_ l x)) ∧ Grew w w' := by
  have BG := begin_any v l x (w.alloc (.cells #[.string ⟨#[]⟩, .int .i64 0, .int .u32 0] 59)) (((Grew.refl w).alloc _).reads hR)
  rw [alloc_size] at BG
  have HR : Hid (Reads w v l) := hR
  have HB : Hid (Byt l) := hB
  obtain ⟨X, hX⟩ : ∃ X, X = topR (expR l) E0_ l x := ⟨_, rfl⟩
  rw [← hX]
  clear hR hB
  by_cases hin : 0 ≤ x ∧ x ≤ l.length
  · obtain ⟨p, rfl⟩ : ∃ p : Nat, x = p := ⟨x.toNat, by omega⟩
    have hp : p ≤ l.length := by omega
    rw [topR_in hp] at hX
    rw [decide_eq_true hin] at BG
    clear hin
    cases hx : nameR l p with
    | error y =>
      obtain ⟨f, e⟩ := y
      rw [show expR l p = .error (f, e) by unfold expR; rw [hx]; rfl] at hX
      have HX : Hid (X = (E0_, (f : Int), (e : Int))) := hX
      clear hX
      go_enter Tryz.func15, Tryz.ntmps15
      go_wp2_with fail
      refine BG.mono ?_
      rintro en W ⟨rfl, hW⟩
      have G0 : Hid (Grew w W) := by rw [hW]; exact ((Grew.refl w).alloc _).alloc _
      have N0 : Hid (W.heap[w.heap.size]? = some (.cells E0_.c 59 (0, 0))) := by rw [hW]; exact heap_alloc (heap_alloc_last _ _) _
      have o0 : W.heap[w.heap.size + 1]? = some (rdg v p 0 0) := by
        rw [hW]
        have h1 : (w.alloc (.cells #[.string ⟨#[]⟩, .int .i64 0, .int .u32 0] 59)).heap.size = w.heap.size + 1 := alloc_size _ _
        rw [← h1]; exact heap_alloc_last _ _
      have S0 : Hid (DR W (w.heap.size + 1) v l (.ok p)) := ⟨⟨o0, hp⟩, G0.out.reads HR.out, HB.out, hl⟩
      have H : Hid (DR W (w.heap.size + 1) v l (.ok p)) := S0.out
      have T0 : Hid (Turn [w.heap.size + 1] W W) := Turn.refl _ W
      have hWs : w.heap.size + 1 < W.heap.size := lt_of_obj o0
      clear BG hW o0
      go_wp2_with fail
      refine (Calls.der (dname_any S0.out) hx).mono ?_
      rintro en w1 ⟨⟨y, rfl⟩, t1, s1⟩
      have T1 : Hid (Turn [(w.heap.size + 1)] W w1) := T0.out.trans t1
      have S1 : Hid (DR w1 (w.heap.size + 1) v l (.error (f, e))) := s1
      have N1 : Hid (w1.heap[w.heap.size]? = some (.cells E0_.c 59 (0, 0))) := t1.other N0.out (by simp; try omega)
      clear t1 s1 T0 S0 N0
      clear hx
      obtain ⟨a1, o1, ha1, he1⟩ := S1.out.st
      have c3_1 := cell_of o1 3
      simp at c3_1
      have dn1 : ((e : Int) != 0) = true := by first | (simp; done) | (simp; omega)
      have de1 : ((e : Int) == 0) = false := by first | (simp; done) | (simp; omega)
      clear o1
      have hs1 : w.heap.size + 1 < w1.heap.size := S1.out.lt
      have hs2 : ¬ w.heap.size + 1 = w1.heap.size := by omega
      go_wp2_with fail
      generalize hw2 : w1.alloc (.cells #[.string (strOfNums y), .int .i64 0, .int .u32 0] 59) = w2
      have g2 : Grew w1 w2 := by rw [← hw2]; exact (Grew.refl _).alloc _
      have T2 : Hid (Turn [(w.heap.size + 1)] W w2) := T1.out.trans (g2.turn _)
      have S2 : Hid (DR w2 (w.heap.size + 1) v l (.error (f, e))) := S1.out.grew g2
      have N2 : Hid (w2.heap[w.heap.size]? = some (.cells E0_.c 59 (0, 0))) := (g2.turn []).other N1.out (by simp)
      have M2 : Hid (w2.heap[w1.heap.size]? = some (.cells #[.string (strOfNums y), .int .i64 0, .int .u32 0] 59 (0, 0))) := by rw [← hw2]; exact heap_alloc_last _ _
      have hMs : (w.heap.size + 1) < w1.heap.size := S1.out.lt
      have hM1 : ¬ (w.heap.size + 1) = w1.heap.size := by omega
      have hMb : W.heap.size ≤ w1.heap.size := T1.out.size
      have hMN : w.heap.size < w1.heap.size := lt_of_obj N1.out
      have h01 : ¬ w.heap.size = w1.heap.size := by omega
      have h10 : ¬ w1.heap.size = w.heap.size := by omega
      clear hw2 g2 T1 S1 N1
      generalize hMM : w1.heap.size = MM at *
      clear hMM
      refine (end_any S2.out).mono ?_
      rintro en w9 ⟨rfl, g9⟩
      have G9 : Hid (Grew w w9) := (T2.out.grew G0.out (by intro y hy; simp at hy; omega)).trans g9
      have N9 : Hid (w9.heap[w.heap.size]? = some (.cells E0_.c 59 (0, 0))) := (g9.turn []).other N2.out (by simp)
      have he : e ≠ 0 := by obtain ⟨a, _, _, he⟩ := S2.out.st; exact he
      have d : ((e : Int) != 0) = true := by simp; exact he
      clear g9
      unfold endV
      go_wp2_with (first
        | with_reducible refine stop_store 59 rfl ?_
        | fail)
      unfold Stop
      refine wpList_store_row rfl 59 _ _ rfl w.heap.size E0_.c rfl rfl 59 E0_.c N9.out (EP.sz _) rfl (EP.one _) ?_
      go_wp2_with fail
      have l1 : (loadVar 59 ⟨w.heap.size, 0, none⟩).run Tryz.prog (w9.setRow w.heap.size E0_.c) = .ok (.agg E0_.c) (w9.setRow w.heap.size E0_.c) := run_loadVar_row _ _ 59 59 _ (0, 0) _ (heap_setRow N9.out) Tryz.underlying59 rfl (EP.sz _)
      refine bodyPost_ret (v := .tuple #[.agg E0_.c, .int .i64 f, .int .i64 e]) ?_ ?_ ?_
      · simp [results, Tryz.results15, asAddr, l1]
      · rfl
      rw [HX.out]
      exact ⟨rfl, G9.out.setRow (Nat.le_refl _) _⟩
    | ok y =>
      obtain ⟨m, r⟩ := y
      cases hy : belowR ((4 : Nat) + 1 : Int) l r with
      | error y =>
        obtain ⟨f, e⟩ := y
        have hk : kindR l r = .error (f, e) := hy
        rw [show expR l p = .error (f, e) by unfold expR; rw [hx]; simp only [thenR, hk]] at hX
        have HX : Hid (X = (E0_, (f : Int), (e : Int))) := hX
        clear hX
        go_enter Tryz.func15, Tryz.ntmps15
        go_wp2_with fail
        refine BG.mono ?_
        rintro en W ⟨rfl, hW⟩
        have G0 : Hid (Grew w W) := by rw [hW]; exact ((Grew.refl w).alloc _).alloc _
        have N0 : Hid (W.heap[w.heap.size]? = some (.cells E0_.c 59 (0, 0))) := by rw [hW]; exact heap_alloc (heap_alloc_last _ _) _
        have o0 : W.heap[w.heap.size + 1]? = some (rdg v p 0 0) := by
          rw [hW]
          have h1 : (w.alloc (.cells #[.string ⟨#[]⟩, .int .i64 0, .int .u32 0] 59)).heap.size = w.heap.size + 1 := alloc_size _ _
          rw [← h1]; exact heap_alloc_last _ _
        have S0 : Hid (DR W (w.heap.size + 1) v l (.ok p)) := ⟨⟨o0, hp⟩, G0.out.reads HR.out, HB.out, hl⟩
        have H : Hid (DR W (w.heap.size + 1) v l (.ok p)) := S0.out
        have T0 : Hid (Turn [w.heap.size + 1] W W) := Turn.refl _ W
        have hWs : w.heap.size + 1 < W.heap.size := lt_of_obj o0
        clear BG hW o0
        go_wp2_with fail
        refine (Calls.dok (dname_any S0.out) hx).mono ?_
        rintro en w1 ⟨rfl, t1, s1⟩
        have T1 : Hid (Turn [(w.heap.size + 1)] W w1) := T0.out.trans t1
        have S1 : Hid (DR w1 (w.heap.size + 1) v l (.ok r)) := s1
        have N1 : Hid (w1.heap[w.heap.size]? = some (.cells E0_.c 59 (0, 0))) := t1.other N0.out (by simp; try omega)
        clear t1 s1 T0 S0 N0
        clear hx
        have c3_1 := cell_of S1.out.st.1 3
        simp at c3_1
        have hs1 : w.heap.size + 1 < w1.heap.size := S1.out.lt
        have hs2 : ¬ w.heap.size + 1 = w1.heap.size := by omega
        go_wp2_with fail
        generalize hw2 : w1.alloc (.cells #[.string (strOfNums m), .int .i64 0, .int .u32 0] 59) = w2
        have g2 : Grew w1 w2 := by rw [← hw2]; exact (Grew.refl _).alloc _
        have T2 : Hid (Turn [(w.heap.size + 1)] W w2) := T1.out.trans (g2.turn _)
        have S2 : Hid (DR w2 (w.heap.size + 1) v l (.ok r)) := S1.out.grew g2
        have N2 : Hid (w2.heap[w.heap.size]? = some (.cells E0_.c 59 (0, 0))) := (g2.turn []).other N1.out (by simp)
        have M2 : Hid (w2.heap[w1.heap.size]? = some (.cells #[.string (strOfNums m), .int .i64 0, .int .u32 0] 59 (0, 0))) := by rw [← hw2]; exact heap_alloc_last _ _
        have hMs : (w.heap.size + 1) < w1.heap.size := S1.out.lt
        have hM1 : ¬ (w.heap.size + 1) = w1.heap.size := by omega
        have hMb : W.heap.size ≤ w1.heap.size := T1.out.size
        have hMN : w.heap.size < w1.heap.size := lt_of_obj N1.out
        have h01 : ¬ w.heap.size = w1.heap.size := by omega
        have h10 : ¬ w1.heap.size = w.heap.size := by omega
        clear hw2 g2 T1 S1 N1
        generalize hMM : w1.heap.size = MM at *
        clear hMM
        refine (Calls.der (dsmall_any S2.out 4 (by decide)) hy).mono ?_
        rintro en w3 ⟨⟨c, rfl⟩, t3, s3⟩
        have T3 : Hid (Turn [(w.heap.size + 1)] W w3) := T2.out.trans t3
        have S3 : Hid (DR w3 (w.heap.size + 1) v l (.error (f, e))) := s3
        have N3 : Hid (w3.heap[w.heap.size]? = some (.cells E0_.c 59 (0, 0))) := t3.other N2.out (by simp; try omega)
        have M3 : Hid (w3.heap[MM]? = some (.cells #[.string (strOfNums m), .int .i64 0, .int .u32 0] 59 (0, 0))) := t3.other M2.out (by simp; try omega)
        clear t3 s3 T2 S2 N2 M2
        clear hy hk
        have x1_3 := free_of M3.out 1
        have m1_3 := cell_of M3.out 1
        simp at m1_3
        go_wp2_with fail
        generalize hw4 : (w3.setCell ⟨MM, 1, none⟩ (.int .i64 (wrap64 c))) = w4
        have f4 : FinD (w.heap.size + 1) v l W w4 (.error (f, e)) := by rw [← hw4]; exact ((FinD.mk_ T3.out S3.out).set H.out hMb)
        have T4 : Hid (Turn [(w.heap.size + 1)] W w4) := f4.1
        have S4 : Hid (DR w4 (w.heap.size + 1) v l (.error (f, e))) := f4.2
        have N4 : Hid (w4.heap[w.heap.size]? = some (.cells E0_.c 59 (0, 0))) := by rw [← hw4]; exact (heap_other N3.out (by simpa using h01) _)
        have M4 : Hid (w4.heap[MM]? = some (.cells #[.string (strOfNums m), .int .i64 (wrap64 c), .int .u32 0] 59 (0, 0))) := by rw [← hw4]; exact (heap_set M3.out 1 _).trans rfl
        clear hw4 f4 x1_3 m1_3 T3 S3 M3 N3
        refine (Calls.der (dn32_any S4.out) rfl).mono ?_
        rintro en w5 ⟨⟨z, rfl⟩, t5, s5⟩
        have T5 : Hid (Turn [(w.heap.size + 1)] W w5) := T4.out.trans t5
        have S5 : Hid (DR w5 (w.heap.size + 1) v l (.error (f, e))) := s5
        have N5 : Hid (w5.heap[w.heap.size]? = some (.cells E0_.c 59 (0, 0))) := t5.other N4.out (by simp; try omega)
        have M5 : Hid (w5.heap[MM]? = some (.cells #[.string (strOfNums m), .int .i64 (wrap64 c), .int .u32 0] 59 (0, 0))) := t5.other M4.out (by simp; try omega)
        clear t5 s5 T4 S4 N4 M4
        have x2_5 := free_of M5.out 2
        have m2_5 := cell_of M5.out 2
        simp at m2_5
        go_wp2_with fail
        generalize hw6 : (w5.setCell ⟨MM, 2, none⟩ (.int .u32 (z % 4294967296))) = w6
        have f6 : FinD (w.heap.size + 1) v l W w6 (.error (f, e)) := by rw [← hw6]; exact ((FinD.mk_ T5.out S5.out).set H.out hMb)
        have T6 : Hid (Turn [(w.heap.size + 1)] W w6) := f6.1
        have S6 : Hid (DR w6 (w.heap.size + 1) v l (.error (f, e))) := f6.2
        have N6 : Hid (w6.heap[w.heap.size]? = some (.cells E0_.c 59 (0, 0))) := by rw [← hw6]; exact (heap_other N5.out (by simpa using h01) _)
        have M6 : Hid (w6.heap[MM]? = some (.cells #[.string (strOfNums m), .int .i64 (wrap64 c), .int .u32 (z % 4294967296)] 59 (0, 0))) := by rw [← hw6]; exact (heap_set M5.out 2 _).trans rfl
        clear hw6 f6 x2_5 m2_5 T5 S5 M5 N5
        refine (end_any S6.out).mono ?_
        rintro en w9 ⟨rfl, g9⟩
        have G9 : Hid (Grew w w9) := (T6.out.grew G0.out (by intro y hy; simp at hy; omega)).trans g9
        have N9 : Hid (w9.heap[w.heap.size]? = some (.cells E0_.c 59 (0, 0))) := (g9.turn []).other N6.out (by simp)
        have he : e ≠ 0 := by obtain ⟨a, _, _, he⟩ := S6.out.st; exact he
        have d : ((e : Int) != 0) = true := by simp; exact he
        clear g9
        unfold endV
        go_wp2_with (first
          | with_reducible refine stop_store 59 rfl ?_
          | fail)
        unfold Stop
        refine wpList_store_row rfl 59 _ _ rfl w.heap.size E0_.c rfl rfl 59 E0_.c N9.out (EP.sz _) rfl (EP.one _) ?_
        go_wp2_with fail
        have l1 : (loadVar 59 ⟨w.heap.size, 0, none⟩).run Tryz.prog (w9.setRow w.heap.size E0_.c) = .ok (.agg E0_.c) (w9.setRow w.heap.size E0_.c) := run_loadVar_row _ _ 59 59 _ (0, 0) _ (heap_setRow N9.out) Tryz.underlying59 rfl (EP.sz _)
        refine bodyPost_ret (v := .tuple #[.agg E0_.c, .int .i64 f, .int .i64 e]) ?_ ?_ ?_
        · simp [results, Tryz.results15, asAddr, l1]
        · rfl
        rw [HX.out]
        exact ⟨rfl, G9.out.setRow (Nat.le_refl _) _⟩
      | ok y =>
        obtain ⟨k, u⟩ := y
        have hk : kindR l r = .ok (k, u) := hy
        have hkb := belowR_lt HB.out hy
        cases hz : numR 32 false l u with
        | error y =>
          obtain ⟨f, e⟩ := y
          rw [show expR l p = .error (f, e) by unfold expR; rw [hx]; simp only [thenR, hk, hz, mapR]] at hX
          have HX : Hid (X = (E0_, (f : Int), (e : Int))) := hX
          clear hX
          go_enter Tryz.func15, Tryz.ntmps15
          go_wp2_with fail
          refine BG.mono ?_
          rintro en W ⟨rfl, hW⟩
          have G0 : Hid (Grew w W) := by rw [hW]; exact ((Grew.refl w).alloc _).alloc _
          have N0 : Hid (W.heap[w.heap.size]? = some (.cells E0_.c 59 (0, 0))) := by rw [hW]; exact heap_alloc (heap_alloc_last _ _) _
          have o0 : W.heap[w.heap.size + 1]? = some (rdg v p 0 0) := by
            rw [hW]
            have h1 : (w.alloc (.cells #[.string ⟨#[]⟩, .int .i64 0, .int .u32 0] 59)).heap.size = w.heap.size + 1 := alloc_size _ _
            rw [← h1]; exact heap_alloc_last _ _
          have S0 : Hid (DR W (w.heap.size + 1) v l (.ok p)) := ⟨⟨o0, hp⟩, G0.out.reads HR.out, HB.out, hl⟩
          have H : Hid (DR W (w.heap.size + 1) v l (.ok p)) := S0.out
          have T0 : Hid (Turn [w.heap.size + 1] W W) := Turn.refl _ W
          have hWs : w.heap.size + 1 < W.heap.size := lt_of_obj o0
          clear BG hW o0
          go_wp2_with fail
          refine (Calls.dok (dname_any S0.out) hx).mono ?_
          rintro en w1 ⟨rfl, t1, s1⟩
          have T1 : Hid (Turn [(w.heap.size + 1)] W w1) := T0.out.trans t1
          have S1 : Hid (DR w1 (w.heap.size + 1) v l (.ok r)) := s1
          have N1 : Hid (w1.heap[w.heap.size]? = some (.cells E0_.c 59 (0, 0))) := t1.other N0.out (by simp; try omega)
          clear t1 s1 T0 S0 N0
          clear hx
          have c3_1 := cell_of S1.out.st.1 3
          simp at c3_1
          have hs1 : w.heap.size + 1 < w1.heap.size := S1.out.lt
          have hs2 : ¬ w.heap.size + 1 = w1.heap.size := by omega
          go_wp2_with fail
          generalize hw2 : w1.alloc (.cells #[.string (strOfNums m), .int .i64 0, .int .u32 0] 59) = w2
          have g2 : Grew w1 w2 := by rw [← hw2]; exact (Grew.refl _).alloc _
          have T2 : Hid (Turn [(w.heap.size + 1)] W w2) := T1.out.trans (g2.turn _)
          have S2 : Hid (DR w2 (w.heap.size + 1) v l (.ok r)) := S1.out.grew g2
          have N2 : Hid (w2.heap[w.heap.size]? = some (.cells E0_.c 59 (0, 0))) := (g2.turn []).other N1.out (by simp)
          have M2 : Hid (w2.heap[w1.heap.size]? = some (.cells #[.string (strOfNums m), .int .i64 0, .int .u32 0] 59 (0, 0))) := by rw [← hw2]; exact heap_alloc_last _ _
          have hMs : (w.heap.size + 1) < w1.heap.size := S1.out.lt
          have hM1 : ¬ (w.heap.size + 1) = w1.heap.size := by omega
          have hMb : W.heap.size ≤ w1.heap.size := T1.out.size
          have hMN : w.heap.size < w1.heap.size := lt_of_obj N1.out
          have h01 : ¬ w.heap.size = w1.heap.size := by omega
          have h10 : ¬ w1.heap.size = w.heap.size := by omega
          clear hw2 g2 T1 S1 N1
          generalize hMM : w1.heap.size = MM at *
          clear hMM
          refine (Calls.dok (dsmall_any S2.out 4 (by decide)) hy).mono ?_
          rintro en w3 ⟨rfl, t3, s3⟩
          have T3 : Hid (Turn [(w.heap.size + 1)] W w3) := T2.out.trans t3
          have S3 : Hid (DR w3 (w.heap.size + 1) v l (.ok u)) := s3
          have N3 : Hid (w3.heap[w.heap.size]? = some (.cells E0_.c 59 (0, 0))) := t3.other N2.out (by simp; try omega)
          have M3 : Hid (w3.heap[MM]? = some (.cells #[.string (strOfNums m), .int .i64 0, .int .u32 0] 59 (0, 0))) := t3.other M2.out (by simp; try omega)
          clear t3 s3 T2 S2 N2 M2
          clear hy hk
          have x1_3 := free_of M3.out 1
          have m1_3 := cell_of M3.out 1
          simp at m1_3
          go_wp2_with fail
          generalize hw4 : (w3.setCell ⟨MM, 1, none⟩ (.int .i64 k)) = w4
          have f4 : FinD (w.heap.size + 1) v l W w4 (.ok u) := by rw [← hw4]; exact ((FinD.mk_ T3.out S3.out).set H.out hMb)
          have T4 : Hid (Turn [(w.heap.size + 1)] W w4) := f4.1
          have S4 : Hid (DR w4 (w.heap.size + 1) v l (.ok u)) := f4.2
          have N4 : Hid (w4.heap[w.heap.size]? = some (.cells E0_.c 59 (0, 0))) := by rw [← hw4]; exact (heap_other N3.out (by simpa using h01) _)
          have M4 : Hid (w4.heap[MM]? = some (.cells #[.string (strOfNums m), .int .i64 k, .int .u32 0] 59 (0, 0))) := by rw [← hw4]; exact (heap_set M3.out 1 _).trans rfl
          clear hw4 f4 x1_3 m1_3 T3 S3 M3 N3
          refine (Calls.der (dn32_any S4.out) hz).mono ?_
          rintro en w5 ⟨⟨z, rfl⟩, t5, s5⟩
          have T5 : Hid (Turn [(w.heap.size + 1)] W w5) := T4.out.trans t5
          have S5 : Hid (DR w5 (w.heap.size + 1) v l (.error (f, e))) := s5
          have N5 : Hid (w5.heap[w.heap.size]? = some (.cells E0_.c 59 (0, 0))) := t5.other N4.out (by simp; try omega)
          have M5 : Hid (w5.heap[MM]? = some (.cells #[.string (strOfNums m), .int .i64 k, .int .u32 0] 59 (0, 0))) := t5.other M4.out (by simp; try omega)
          clear t5 s5 T4 S4 N4 M4
          clear hz
          have x2_5 := free_of M5.out 2
          have m2_5 := cell_of M5.out 2
          simp at m2_5
          go_wp2_with fail
          generalize hw6 : (w5.setCell ⟨MM, 2, none⟩ (.int .u32 (z % 4294967296))) = w6
          have f6 : FinD (w.heap.size + 1) v l W w6 (.error (f, e)) := by rw [← hw6]; exact ((FinD.mk_ T5.out S5.out).set H.out hMb)
          have T6 : Hid (Turn [(w.heap.size + 1)] W w6) := f6.1
          have S6 : Hid (DR w6 (w.heap.size + 1) v l (.error (f, e))) := f6.2
          have N6 : Hid (w6.heap[w.heap.size]? = some (.cells E0_.c 59 (0, 0))) := by rw [← hw6]; exact (heap_other N5.out (by simpa using h01) _)
          have M6 : Hid (w6.heap[MM]? = some (.cells #[.string (strOfNums m), .int .i64 k, .int .u32 (z % 4294967296)] 59 (0, 0))) := by rw [← hw6]; exact (heap_set M5.out 2 _).trans rfl
          clear hw6 f6 x2_5 m2_5 T5 S5 M5 N5
          refine (end_any S6.out).mono ?_
          rintro en w9 ⟨rfl, g9⟩
          have G9 : Hid (Grew w w9) := (T6.out.grew G0.out (by intro y hy; simp at hy; omega)).trans g9
          have N9 : Hid (w9.heap[w.heap.size]? = some (.cells E0_.c 59 (0, 0))) := (g9.turn []).other N6.out (by simp)
          have he : e ≠ 0 := by obtain ⟨a, _, _, he⟩ := S6.out.st; exact he
          have d : ((e : Int) != 0) = true := by simp; exact he
          clear g9
          unfold endV
          go_wp2_with (first
            | with_reducible refine stop_store 59 rfl ?_
            | fail)
          unfold Stop
          refine wpList_store_row rfl 59 _ _ rfl w.heap.size E0_.c rfl rfl 59 E0_.c N9.out (EP.sz _) rfl (EP.one _) ?_
          go_wp2_with fail
          have l1 : (loadVar 59 ⟨w.heap.size, 0, none⟩).run Tryz.prog (w9.setRow w.heap.size E0_.c) = .ok (.agg E0_.c) (w9.setRow w.heap.size E0_.c) := run_loadVar_row _ _ 59 59 _ (0, 0) _ (heap_setRow N9.out) Tryz.underlying59 rfl (EP.sz _)
          refine bodyPost_ret (v := .tuple #[.agg E0_.c, .int .i64 f, .int .i64 e]) ?_ ?_ ?_
          · simp [results, Tryz.results15, asAddr, l1]
          · rfl
          rw [HX.out]
          exact ⟨rfl, G9.out.setRow (Nat.le_refl _) _⟩
        | ok y =>
          obtain ⟨a, q9⟩ := y
          have hul : u ≤ l.length := by
            have := (belowR_is hy).1
            have := (belowR_is hy).2.2
            omega
          have hab := num32_bd HB.out hul hz
          rw [show expR l p = .ok (⟨m, k, a⟩, q9) by unfold expR; rw [hx]; simp only [thenR, hk, hz, mapR]] at hX
          have HX : Hid (X = (⟨m, k, a⟩, (q9 : Int), 0)) := hX
          clear hX
          go_enter Tryz.func15, Tryz.ntmps15
          go_wp2_with fail
          refine BG.mono ?_
          rintro en W ⟨rfl, hW⟩
          have G0 : Hid (Grew w W) := by rw [hW]; exact ((Grew.refl w).alloc _).alloc _
          have N0 : Hid (W.heap[w.heap.size]? = some (.cells E0_.c 59 (0, 0))) := by rw [hW]; exact heap_alloc (heap_alloc_last _ _) _
          have o0 : W.heap[w.heap.size + 1]? = some (rdg v p 0 0) := by
            rw [hW]
            have h1 : (w.alloc (.cells #[.string ⟨#[]⟩, .int .i64 0, .int .u32 0] 59)).heap.size = w.heap.size + 1 := alloc_size _ _
            rw [← h1]; exact heap_alloc_last _ _
          have S0 : Hid (DR W (w.heap.size + 1) v l (.ok p)) := ⟨⟨o0, hp⟩, G0.out.reads HR.out, HB.out, hl⟩
          have H : Hid (DR W (w.heap.size + 1) v l (.ok p)) := S0.out
          have T0 : Hid (Turn [w.heap.size + 1] W W) := Turn.refl _ W
          have hWs : w.heap.size + 1 < W.heap.size := lt_of_obj o0
          clear BG hW o0
          go_wp2_with fail
          refine (Calls.dok (dname_any S0.out) hx).mono ?_
          rintro en w1 ⟨rfl, t1, s1⟩
          have T1 : Hid (Turn [(w.heap.size + 1)] W w1) := T0.out.trans t1
          have S1 : Hid (DR w1 (w.heap.size + 1) v l (.ok r)) := s1
          have N1 : Hid (w1.heap[w.heap.size]? = some (.cells E0_.c 59 (0, 0))) := t1.other N0.out (by simp; try omega)
          clear t1 s1 T0 S0 N0
          clear hx
          have c3_1 := cell_of S1.out.st.1 3
          simp at c3_1
          have hs1 : w.heap.size + 1 < w1.heap.size := S1.out.lt
          have hs2 : ¬ w.heap.size + 1 = w1.heap.size := by omega
          go_wp2_with fail
          generalize hw2 : w1.alloc (.cells #[.string (strOfNums m), .int .i64 0, .int .u32 0] 59) = w2
          have g2 : Grew w1 w2 := by rw [← hw2]; exact (Grew.refl _).alloc _
          have T2 : Hid (Turn [(w.heap.size + 1)] W w2) := T1.out.trans (g2.turn _)
          have S2 : Hid (DR w2 (w.heap.size + 1) v l (.ok r)) := S1.out.grew g2
          have N2 : Hid (w2.heap[w.heap.size]? = some (.cells E0_.c 59 (0, 0))) := (g2.turn []).other N1.out (by simp)
          have M2 : Hid (w2.heap[w1.heap.size]? = some (.cells #[.string (strOfNums m), .int .i64 0, .int .u32 0] 59 (0, 0))) := by rw [← hw2]; exact heap_alloc_last _ _
          have hMs : (w.heap.size + 1) < w1.heap.size := S1.out.lt
          have hM1 : ¬ (w.heap.size + 1) = w1.heap.size := by omega
          have hMb : W.heap.size ≤ w1.heap.size := T1.out.size
          have hMN : w.heap.size < w1.heap.size := lt_of_obj N1.out
          have h01 : ¬ w.heap.size = w1.heap.size := by omega
          have h10 : ¬ w1.heap.size = w.heap.size := by omega
          clear hw2 g2 T1 S1 N1
          generalize hMM : w1.heap.size = MM at *
          clear hMM
          refine (Calls.dok (dsmall_any S2.out 4 (by decide)) hy).mono ?_
          rintro en w3 ⟨rfl, t3, s3⟩
          have T3 : Hid (Turn [(w.heap.size + 1)] W w3) := T2.out.trans t3
          have S3 : Hid (DR w3 (w.heap.size + 1) v l (.ok u)) := s3
          have N3 : Hid (w3.heap[w.heap.size]? = some (.cells E0_.c 59 (0, 0))) := t3.other N2.out (by simp; try omega)
          have M3 : Hid (w3.heap[MM]? = some (.cells #[.string (strOfNums m), .int .i64 0, .int .u32 0] 59 (0, 0))) := t3.other M2.out (by simp; try omega)
          clear t3 s3 T2 S2 N2 M2
          clear hy hk
          have x1_3 := free_of M3.out 1
          have m1_3 := cell_of M3.out 1
          simp at m1_3
          go_wp2_with fail
          generalize hw4 : (w3.setCell ⟨MM, 1, none⟩ (.int .i64 k)) = w4
          have f4 : FinD (w.heap.size + 1) v l W w4 (.ok u) := by rw [← hw4]; exact ((FinD.mk_ T3.out S3.out).set H.out hMb)
          have T4 : Hid (Turn [(w.heap.size + 1)] W w4) := f4.1
          have S4 : Hid (DR w4 (w.heap.size + 1) v l (.ok u)) := f4.2
          have N4 : Hid (w4.heap[w.heap.size]? = some (.cells E0_.c 59 (0, 0))) := by rw [← hw4]; exact (heap_other N3.out (by simpa using h01) _)
          have M4 : Hid (w4.heap[MM]? = some (.cells #[.string (strOfNums m), .int .i64 k, .int .u32 0] 59 (0, 0))) := by rw [← hw4]; exact (heap_set M3.out 1 _).trans rfl
          clear hw4 f4 x1_3 m1_3 T3 S3 M3 N3
          refine (Calls.dok (dn32_any S4.out) hz).mono ?_
          rintro en w5 ⟨rfl, t5, s5⟩
          have T5 : Hid (Turn [(w.heap.size + 1)] W w5) := T4.out.trans t5
          have S5 : Hid (DR w5 (w.heap.size + 1) v l (.ok q9)) := s5
          have N5 : Hid (w5.heap[w.heap.size]? = some (.cells E0_.c 59 (0, 0))) := t5.other N4.out (by simp; try omega)
          have M5 : Hid (w5.heap[MM]? = some (.cells #[.string (strOfNums m), .int .i64 k, .int .u32 0] 59 (0, 0))) := t5.other M4.out (by simp; try omega)
          clear t5 s5 T4 S4 N4 M4
          clear hz
          have x2_5 := free_of M5.out 2
          have m2_5 := cell_of M5.out 2
          simp at m2_5
          go_wp2_with fail
          generalize hw6 : (w5.setCell ⟨MM, 2, none⟩ (.int .u32 a)) = w6
          have f6 : FinD (w.heap.size + 1) v l W w6 (.ok q9) := by rw [← hw6]; exact ((FinD.mk_ T5.out S5.out).set H.out hMb)
          have T6 : Hid (Turn [(w.heap.size + 1)] W w6) := f6.1
          have S6 : Hid (DR w6 (w.heap.size + 1) v l (.ok q9)) := f6.2
          have N6 : Hid (w6.heap[w.heap.size]? = some (.cells E0_.c 59 (0, 0))) := by rw [← hw6]; exact (heap_other N5.out (by simpa using h01) _)
          have M6 : Hid (w6.heap[MM]? = some (.cells #[.string (strOfNums m), .int .i64 k, .int .u32 a] 59 (0, 0))) := by rw [← hw6]; exact (heap_set M5.out 2 _).trans rfl
          clear hw6 f6 x2_5 m2_5 T5 S5 M5 N5
          refine (end_any S6.out).mono ?_
          rintro en w9 ⟨rfl, g9⟩
          have G9 : Hid (Grew w w9) := (T6.out.grew G0.out (by intro y hy; simp at hy; omega)).trans g9
          have N9 : Hid (w9.heap[w.heap.size]? = some (.cells E0_.c 59 (0, 0))) := (g9.turn []).other N6.out (by simp)
          have M9 : Hid (w9.heap[MM]? = some (.cells (EP.c ⟨m, k, a⟩) 59 (0, 0))) := (g9.turn []).other M6.out (by simp)
          clear g9
          unfold endV
          go_wp2_with (first
            | with_reducible refine stop_load 59 rfl ?_
            | fail)
          unfold Stop
          refine wpList_load_row rfl 59 _ rfl MM rfl 59 (EP.c ⟨m, k, a⟩) (0, 0) _ M9.out Tryz.underlying59 rfl (EP.sz _) ?_
          go_wp2_with (first
            | with_reducible refine stop_store 59 rfl ?_
            | fail)
          unfold Stop
          refine wpList_store_row rfl 59 _ _ rfl w.heap.size (EP.c ⟨m, k, a⟩) rfl rfl 59 E0_.c N9.out (EP.sz _) rfl (EP.one _) ?_
          go_wp2_with fail
          have l1 : (loadVar 59 ⟨w.heap.size, 0, none⟩).run Tryz.prog (w9.setRow w.heap.size (EP.c ⟨m, k, a⟩)) = .ok (.agg (EP.c ⟨m, k, a⟩)) (w9.setRow w.heap.size (EP.c ⟨m, k, a⟩)) := run_loadVar_row _ _ 59 59 _ (0, 0) _ (heap_setRow N9.out) Tryz.underlying59 rfl (EP.sz _)
          refine bodyPost_ret (v := .tuple #[.agg (EP.c ⟨m, k, a⟩), .int .i64 q9, .int .i64 0]) ?_ ?_ ?_
          · simp [results, Tryz.results15, asAddr, l1]
          · rfl
          rw [HX.out]
          exact ⟨rfl, G9.out.setRow (Nat.le_refl _) _⟩
  · rw [topR_out hin] at hX
    have HX : Hid (X = (E0_, 0, 1)) := hX
    rw [decide_eq_false hin] at BG
    clear hX hin
    go_enter Tryz.func15, Tryz.ntmps15
    go_wp2_with fail
    refine BG.mono ?_
    rintro en W ⟨rfl, hW⟩
    have G9 : Hid (Grew w W) := by rw [hW]; exact ((Grew.refl w).alloc _).alloc _
    have N9 : Hid (W.heap[w.heap.size]? = some (.cells E0_.c 59 (0, 0))) := by rw [hW]; exact heap_alloc (heap_alloc_last _ _) _
    clear BG hW
    go_wp2_with (first
      | with_reducible refine stop_store 59 rfl ?_
      | fail)
    unfold Stop
    refine wpList_store_row rfl 59 _ _ rfl w.heap.size E0_.c rfl rfl 59 E0_.c N9.out (EP.sz _) rfl (EP.one _) ?_
    go_wp2_with fail
    have l1 : (loadVar 59 ⟨w.heap.size, 0, none⟩).run Tryz.prog (W.setRow w.heap.size E0_.c) = .ok (.agg E0_.c) (W.setRow w.heap.size E0_.c) := run_loadVar_row _ _ 59 59 _ (0, 0) _ (heap_setRow N9.out) Tryz.underlying59 rfl (EP.sz _)
    refine bodyPost_ret (v := .tuple #[.agg E0_.c, .int .i64 0, .int .i64 1]) ?_ ?_ ?_
    · simp [results, Tryz.results15, asAddr, l1]
    · rfl
    rw [HX.out]
    exact ⟨rfl, G9.out.setRow (Nat.le_refl _) _⟩
set_option maxRecDepth 100000 in
set_option maxHeartbeats 1000000 in
theorem dtopTa_any (v : Value) (l : List Int) (x : Int) (w : World) (hR : Reads w v l) (hB : Byt l) (hl : l.length ≤ 140737488351232) :
    Calls Tryz.prog 11 #[v, .int .i64 x] w fun en w' => en = .returned (ansTa (topR (tagR l) 0 l x)) ∧ Grew w w' := by
  have BG := begin_any v l x w hR
  have HR : Hid (Reads w v l) := hR
  have HB : Hid (Byt l) := hB
  obtain ⟨X, hX⟩ : ∃ X, X = topR (tagR l) 0 l x := ⟨_, rfl⟩
  rw [← hX]
  clear hR hB
  by_cases hin : 0 ≤ x ∧ x ≤ l.length
  · obtain ⟨p, rfl⟩ : ∃ p : Nat, x = p := ⟨x.toNat, by omega⟩
    have hp : p ≤ l.length := by omega
    rw [topR_in hp] at hX
    rw [decide_eq_true hin] at BG
    clear hin
    cases hx : belowR ((0 : Nat) + 1 : Int) l p with
    | error y =>
      obtain ⟨f, e⟩ := y
      have hk : belowR 1 l p = .error (f, e) := hx
      rw [show tagR l p = .error (f, e) by unfold tagR; rw [hk]; rfl] at hX
      have HX : Hid (X = (0, (f : Int), (e : Int))) := hX
      clear hX
      go_enter Tryz.func11, Tryz.ntmps11
      go_wp2_with fail
      refine BG.mono ?_
      rintro en W ⟨rfl, hW⟩
      have G0 : Hid (Grew w W) := by rw [hW]; exact (Grew.refl w).alloc _
      have o0 : W.heap[w.heap.size]? = some (rdg v p 0 0) := by rw [hW]; exact heap_alloc_last _ _
      have S0 : Hid (DR W w.heap.size v l (.ok p)) := ⟨⟨o0, hp⟩, G0.out.reads HR.out, HB.out, hl⟩
      have T0 : Hid (Turn [w.heap.size] W W) := Turn.refl _ W
      have hWs : w.heap.size < W.heap.size := lt_of_obj o0
      clear BG hW o0
      go_wp2_with fail
      refine (Calls.der (dsmall_any S0.out 0 (by decide)) hx).mono ?_
      rintro en w1 ⟨⟨y, rfl⟩, t1, s1⟩
      have T1 : Hid (Turn [w.heap.size] W w1) := T0.out.trans t1
      have S1 : Hid (DR w1 w.heap.size v l (.error (f, e))) := s1
      clear t1 s1 T0 S0
      clear hx hk
      obtain ⟨a1, o1, ha1, he1⟩ := S1.out.st
      have c3_1 := cell_of o1 3
      simp at c3_1
      have dn1 : ((e : Int) != 0) = true := by first | (simp; done) | (simp; omega)
      have de1 : ((e : Int) == 0) = false := by first | (simp; done) | (simp; omega)
      clear o1
      go_wp2_with fail
      refine (end_any S1.out).mono ?_
      rintro en w9 ⟨rfl, g9⟩
      have G9 : Hid (Grew w w9) := (T1.out.grew G0.out (by intro y hy; simp at hy; omega)).trans g9
      have he : e ≠ 0 := by obtain ⟨a, _, _, he⟩ := S1.out.st; exact he
      have d : ((e : Int) != 0) = true := by simp; exact he
      clear g9
      unfold endV
      go_wp2_with fail
      go_ret3
      rw [HX.out]
      exact ⟨rfl, G9.out⟩
    | ok y =>
      obtain ⟨c, u⟩ := y
      have hk : belowR 1 l p = .ok (c, u) := hx
      cases hy : tyU l u with
      | error y =>
        obtain ⟨f, e⟩ := y
        rw [show tagR l p = .error (f, e) by unfold tagR; rw [hk]; simp only [thenR, hy]] at hX
        have HX : Hid (X = (0, (f : Int), (e : Int))) := hX
        clear hX
        go_enter Tryz.func11, Tryz.ntmps11
        go_wp2_with fail
        refine BG.mono ?_
        rintro en W ⟨rfl, hW⟩
        have G0 : Hid (Grew w W) := by rw [hW]; exact (Grew.refl w).alloc _
        have o0 : W.heap[w.heap.size]? = some (rdg v p 0 0) := by rw [hW]; exact heap_alloc_last _ _
        have S0 : Hid (DR W w.heap.size v l (.ok p)) := ⟨⟨o0, hp⟩, G0.out.reads HR.out, HB.out, hl⟩
        have T0 : Hid (Turn [w.heap.size] W W) := Turn.refl _ W
        have hWs : w.heap.size < W.heap.size := lt_of_obj o0
        clear BG hW o0
        go_wp2_with fail
        refine (Calls.dok (dsmall_any S0.out 0 (by decide)) hx).mono ?_
        rintro en w1 ⟨rfl, t1, s1⟩
        have T1 : Hid (Turn [w.heap.size] W w1) := T0.out.trans t1
        have S1 : Hid (DR w1 w.heap.size v l (.ok u)) := s1
        clear t1 s1 T0 S0
        clear hx hk
        have c3_1 := cell_of S1.out.st.1 3
        simp at c3_1
        go_wp2_with fail
        refine (Calls.der (dtypeAt_any S1.out) hy).mono ?_
        rintro en w2 ⟨⟨y, rfl⟩, t2, s2⟩
        have T2 : Hid (Turn [w.heap.size] W w2) := T1.out.trans t2
        have S2 : Hid (DR w2 w.heap.size v l (.error (f, e))) := s2
        clear t2 s2 T1 S1
        clear hy
        go_wp2_with fail
        refine (end_any S2.out).mono ?_
        rintro en w9 ⟨rfl, g9⟩
        have G9 : Hid (Grew w w9) := (T2.out.grew G0.out (by intro y hy; simp at hy; omega)).trans g9
        have he : e ≠ 0 := by obtain ⟨a, _, _, he⟩ := S2.out.st; exact he
        have d : ((e : Int) != 0) = true := by simp; exact he
        clear g9
        unfold endV
        go_wp2_with fail
        go_ret3
        rw [HX.out]
        exact ⟨rfl, G9.out⟩
      | ok y =>
        obtain ⟨t, q9⟩ := y
        rw [show tagR l p = .ok (t, q9) by unfold tagR; rw [hk]; simp only [thenR, hy]] at hX
        have HX : Hid (X = (t, (q9 : Int), 0)) := hX
        clear hX
        go_enter Tryz.func11, Tryz.ntmps11
        go_wp2_with fail
        refine BG.mono ?_
        rintro en W ⟨rfl, hW⟩
        have G0 : Hid (Grew w W) := by rw [hW]; exact (Grew.refl w).alloc _
        have o0 : W.heap[w.heap.size]? = some (rdg v p 0 0) := by rw [hW]; exact heap_alloc_last _ _
        have S0 : Hid (DR W w.heap.size v l (.ok p)) := ⟨⟨o0, hp⟩, G0.out.reads HR.out, HB.out, hl⟩
        have T0 : Hid (Turn [w.heap.size] W W) := Turn.refl _ W
        have hWs : w.heap.size < W.heap.size := lt_of_obj o0
        clear BG hW o0
        go_wp2_with fail
        refine (Calls.dok (dsmall_any S0.out 0 (by decide)) hx).mono ?_
        rintro en w1 ⟨rfl, t1, s1⟩
        have T1 : Hid (Turn [w.heap.size] W w1) := T0.out.trans t1
        have S1 : Hid (DR w1 w.heap.size v l (.ok u)) := s1
        clear t1 s1 T0 S0
        clear hx hk
        have c3_1 := cell_of S1.out.st.1 3
        simp at c3_1
        go_wp2_with fail
        refine (Calls.dok (dtypeAt_any S1.out) hy).mono ?_
        rintro en w2 ⟨rfl, t2, s2⟩
        have T2 : Hid (Turn [w.heap.size] W w2) := T1.out.trans t2
        have S2 : Hid (DR w2 w.heap.size v l (.ok q9)) := s2
        clear t2 s2 T1 S1
        clear hy
        go_wp2_with fail
        refine (end_any S2.out).mono ?_
        rintro en w9 ⟨rfl, g9⟩
        have G9 : Hid (Grew w w9) := (T2.out.grew G0.out (by intro y hy; simp at hy; omega)).trans g9
        clear g9
        unfold endV
        go_wp2_with fail
        go_ret3
        rw [HX.out]
        exact ⟨rfl, G9.out⟩
  · rw [topR_out hin] at hX
    have HX : Hid (X = (0, 0, 1)) := hX
    rw [decide_eq_false hin] at BG
    clear hX hin
    go_enter Tryz.func11, Tryz.ntmps11
    go_wp2_with fail
    refine BG.mono ?_
    rintro en W ⟨rfl, hW⟩
    have G0 : Hid (Grew w W) := by rw [hW]; exact (Grew.refl w).alloc _
    clear BG hW
    go_wp2_with fail
    go_ret3
    rw [HX.out]
    exact ⟨rfl, G0.out⟩
end Go.Proofs.YtemaeigfhmnapaaGreatDoor
