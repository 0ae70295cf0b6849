/-
  The document's writer: the walks of code, heap, val; no statement is proved here.
-/
import Derived.Test.YtfnfbioenngjoaaDoorDw2
namespace Go.Proofs.YtfnfbioenngjoaaDoor
open Go.RowKit
set_option linter.unusedVariables false
set_option linter.unusedSimpArgs false
set_option linter.constructorNameAsVariable false

def codeD (h : Int) : Int := (codeW 4 h).getD 0
theorem codeD_hit : ∀ i : _root_.Fin 12, codeD (absH (105 + (i.val : Int))) = 105 + (i.val : Int) := by decide +kernel
theorem codeD_all : ∀ k : _root_.Fin 12, (∃ i : _root_.Fin 12, absH (105 + (i.val : Int)) = -1 - (k.val : Int)) ∧ codeW 4 (-1 - (k.val : Int)) = some (codeD (-1 - (k.val : Int))) := by decide +kernel
theorem findW_none {k n : Int} : ∀ (l : List (Int × Int × Int)), (∀ x ∈ l, ¬ (x.2.1 = k ∧ x.2.2 = n)) → findW k n l = none
  | [], _ => rfl
  | x :: l, h => by
    rw [findW, if_neg (h x (List.mem_cons_self ..))]
    exact findW_none l (fun y hy => h y (List.mem_cons_of_mem _ hy))
theorem four_in : ∀ x ∈ codeL, x.2.1 = 4 → -12 ≤ x.2.2 ∧ x.2.2 < 0 := by decide +kernel
theorem codeW_out {h : Int} (hh : h < -12 ∨ 0 ≤ h) : codeW 4 h = none := by
  unfold codeW
  refine findW_none codeL (fun x hx hc => ?_)
  have := four_in x hx hc.1
  omega
theorem codeD_in {h : Int} (h0 : -12 ≤ h) (h1 : h < 0) : codeW 4 h = some (codeD h) ∧ ∃ i : _root_.Fin 12, absH (105 + (i.val : Int)) = h := by
  obtain ⟨⟨i, hi⟩, h2⟩ := codeD_all ⟨(-1 - h).toNat, by omega⟩
  have e : (-1 - (((-1 - h).toNat : Nat) : Int)) = h := by omega
  simp only [e] at hi h2
  exact ⟨h2, i, hi⟩
set_option maxRecDepth 100000 in
theorem code_any (h : Int) (w : World) : Calls Tryd.prog 68 #[.int .i64 h] w fun en w' => en = .returned (.int .u8 (codeD h)) ∧ w' = w := by
  have C : Hid (∀ i : Nat, i < 12 → ∀ W, Calls Tryd.prog 73 #[.int .u8 (105 + (i : Int))] W fun en w' => en = .returned (.int .i64 (absH (105 + (i : Int)))) ∧ w' = W) := fun i hi W => abstract_any _ (by omega) W
  go_enter Tryd.func68, Tryd.ntmps68
  go_wp2_with fail
  go_loopw [3] (fun t wx => ∃ i : Nat, i ≤ 12 ∧ t = .int .i64 (105 + (i : Int)) ∧ (∀ j : Nat, j < i → absH (105 + (j : Int)) ≠ h) ∧ wx = w) (fun t _ => 12 - (intOf t - 105).toNat)
  case atStart => exact ⟨0, by omega, rfl, fun j hj => by omega, rfl⟩
  case round =>
    obtain ⟨i, hi, rfl, hj, hw⟩ := hrel
    obtain rfl := hw.symm
    have HJ : Hid (∀ j : Nat, j < i → absH (105 + (j : Int)) ≠ h) := hj
    clear hj
    by_cases h12 : i < 12
    · have d1 : decide (105 + (i : Int) ≤ 116) = true := by simp; omega
      have cv : IntKind.u8.wrap (105 + (i : Int)) = 105 + (i : Int) := by rw [IntKind.wrap_u8]; omega
      have CI := C.out i h12
      have HH : Hid (codeD (absH (105 + (i : Int))) = 105 + (i : Int)) := codeD_hit ⟨i, h12⟩
      generalize hA : absH (105 + (i : Int)) = A at *
      have HA : Hid (absH (105 + (i : Int)) = A) := hA
      clear hA
      by_cases he : A = h
      · subst he
        go_wp2_with fail
        refine (CI _).mono ?_
        rintro en w1 ⟨rfl, h1⟩
        obtain rfl := h1.symm
        clear CI
        go_wp2_with fail
        go_ret
        rw [HH.out]
        exact ⟨rfl, rfl⟩
      · have dn : (A == h) = false := by simpa using he
        go_wp2_with fail
        refine (CI _).mono ?_
        rintro en w1 ⟨rfl, h1⟩
        obtain rfl := h1.symm
        clear CI
        go_wp2_with fail
        go_roundw
        case rel =>
          refine ⟨i + 1, by omega, by go_num, fun j hj => ?_, by first | rfl | trivial⟩
          rcases Nat.lt_succ_iff_lt_or_eq.1 hj with hj | rfl
          · exact HJ.out j hj
          · rw [HA.out]; exact he
        case measure => simp [intOf]; omega
    · have d1 : decide (105 + (i : Int) ≤ 116) = false := by simp; omega
      have HZ : Hid (codeD h = 0) := by
        show _ = _
        by_cases hr : -12 ≤ h ∧ h < 0
        · obtain ⟨_, j, hj⟩ := codeD_in hr.1 hr.2
          exact absurd hj (HJ.out j.val (by omega))
        · unfold codeD; rw [codeW_out (by omega)]; rfl
      go_wp2_with fail
      go_ret
      rw [HZ.out]
      exact ⟨rfl, rfl⟩
theorem call_code (v : Value) (w : World) : (callFunc 68 #[v]).run Tryd.prog w = .ok (.enter 68 #[v]) w := by kernel_rfl
theorem step_code {ops : Array Oper} {o : Oper} {a : Act} {w : World} {K : Act → World → Prop} {Q : Exit → Act → World → Prop} {E : Prop} {R : Ending → World → Prop} (x : Operand) {v : Value}
    (hop : o.op = .call { callee := .value (.func 68), args := #[x], argTypes := #[3] }) (hg : o.guard = none) (hx : a.eval x = v) (hc : Calls Tryd.prog 68 #[v] w R)
    (h : ∀ e w', R e w' → ∃ u, e = .returned u ∧ K (a.put o.dst u) w') :
    if Region.wanted o (yielded ops a.tmps) = true then Oper.wp Tryd.prog o a w K Q else E :=
  step_callD hop (by simp [Region.wanted, hg]) (args := #[v]) (by simp [hx]) (call_code v w) hc (fun e w' he => Or.inl (h e w' he))
set_option maxRecDepth 100000 in
set_option maxHeartbeats 2000000 in
theorem dwHeap_any {b B : Nat} {w : World} {st : Except Nat (List Int)} {N : Nat} (h' : DW b B w st N) (h : Int) (hn0 : -9223372036854775808 ≤ h) (hn1 : h ≤ 9223372036854775807) (hN : N ≤ 17592186044416) :
    Calls Tryd.prog 57 #[.pointer (some ⟨b, 0, none⟩), .int .i64 h] w (DA b B w (thenW st (heapW h)) (N + 11)) := by
  by_cases h0 : h < 0
  · have d0 : decide (h < 0) = true := by simpa using h0
    by_cases h1 : -12 ≤ h
    · have d1 : decide (-12 ≤ h) = true := by simpa using h1
      have S0 : Hid (DW b B w st N) := h'
      have T0 : Hid (WT b B w w) := WT.refl _ _ _
      have hb : b < w.heap.size := h'.blt
      have hcd := (codeD_in h1 h0).1
      obtain ⟨st1, hst1⟩ : ∃ st1, st1 = thenW st (needW true 4) := ⟨_, rfl⟩
      have E : Hid (thenW st1 (.ok [codeD h]) = thenW st (heapW h)) := by
        show _ = _
        rw [hst1, thenW_yes, heapW, if_neg (by omega), codeR_some hcd]
      clear h'
      go_enter Tryd.func57, Tryd.ntmps57
      go_wp2_with fail
      refine (must_any S0.out true 4 (by decide)).mono ?_
      rintro en w1 ⟨rfl, t1, s1⟩
      rw [← hst1] at s1
      have T1 : Hid (WT b B w w1) := T0.out.trans t1
      have S1 : Hid (DW b B w1 st1 N) := s1
      clear t1 s1 T0 S0 hst1
      obtain ⟨o, e, l, g1, g2, g3, g4⟩ := S1.out.ex
      obtain ⟨oa, oc, rfl⟩ := row_one g2
      have c0 := cell_of g1 0
      simp at c0
      have O : Hid (w1.heap[b]? = some (dob (.slice oa l.length oc) e)) := g1
      have R : Hid (w1.ownsRow B 5 1 (.slice oa l.length oc) l.length (U8 l)) := g2
      have S : Hid (StE st1 l e) := g4
      have hlt : b < B := S1.out.lt
      have hle : B ≤ w1.heap.size := S1.out.le
      clear g1 g2 g4
      go_wp2_with fail
      go_region_law (first
        | (refine step_code (.tmp 15) rfl rfl rfl (code_any h _) ?_
           rintro en w6 ⟨rfl, hw6⟩
           refine ⟨_, rfl, ?_⟩
           have G6 : Hid (Grew w1 w6) := (by rw [hw6]; first | exact Grew.refl _ | exact (Grew.refl _).drew | exact (Grew.refl _).drewN _)
           have O6 : Hid (w6.heap[b]? = some (dob (.slice oa l.length oc) e)) := (G6.out.turn []).other O.out (by simp)
           have e6 := cell_of O6.out 0
           simp at e6
           have O6a := heap_alloc O6.out (.cells #[.int .u8 (codeD h)] 5)
           have e6a := cell_of O6a 0
           simp at e6a
           clear hw6 O6a)
        | (refine step_appG (w0 := w6) (B := B) (v := .slice oa l.length oc) (u := .slice (some ⟨w6.heap.size, 0, none⟩) 1 1) (l := l) (r := [codeD h]) rfl (.tmp 14) (.tmp 17) rfl rfl rfl (by first | exact ((Grew.refl _).alloc _) | exact ((Grew.refl _).alloc _).drew) (row_turn R.out (G6.out.turn []) (by simp)) (Nat.le_trans hle G6.out.2) (by first | exact reads_new _ _ _ | exact (reads_new _ _ _).below (Grew.refl _).drew.1) (by simp) (by simp; omega) ?_
           intro v7 w7 I7 t7
           obtain ⟨a7, c7, hv7⟩ := row_one I7
           rw [List.length_append] at hv7
           subst hv7
           have A7 := dw_app (b := b) (B := B) (w := w6.alloc (.cells #[.int .u8 (codeD h)] 5)) (st := st1) (N := N) (r := [codeD h]) (heap_alloc O6.out _) (World.ownsRow.alloc (row_turn R.out (G6.out.turn []) (by simp)) _) g3 S.out hlt (by have := G6.out.2; simp; omega) I7 t7
           have HA7 : Hid (WT b B (w6.alloc (.cells #[.int .u8 (codeD h)] 5)) (w7.setCell ⟨b, 0, none⟩ (.slice a7 (l.length + [codeD h].length) c7)) ∧ DW b B (w7.setCell ⟨b, 0, none⟩ (.slice a7 (l.length + [codeD h].length) c7)) (thenW st1 (.ok [codeD h])) (N + [codeD h].length)) := A7.2
           have q7 := cell_of A7.1 0
           have z7 := free_of A7.1 0
           simp at q7
           clear A7 t7))
      all_goals
        go_wp2_with fail
        go_end0
        exact ⟨rfl, (T1.out.trans (WT.of_grew (G6.out.alloc _))).trans HA7.out.1, by rw [← E.out]; exact HA7.out.2.mono (by simp)⟩
    · have d1 : decide (-12 ≤ h) = false := by simpa using h1
      have S0 : Hid (DW b B w st N) := h'
      have T0 : Hid (WT b B w w) := WT.refl _ _ _
      have hb : b < w.heap.size := h'.blt
      obtain ⟨st1, hst1⟩ : ∃ st1, st1 = thenW st (needW false 4) := ⟨_, rfl⟩
      have E : Hid (thenW st1 (.ok [codeD h]) = thenW st (heapW h)) := by
        show _ = _
        rw [hst1, thenW_no, heapW, if_neg (by omega), codeR_none (codeW_out (by omega))]
      clear h'
      go_enter Tryd.func57, Tryd.ntmps57
      go_wp2_with fail
      refine (must_any S0.out false 4 (by decide)).mono ?_
      rintro en w1 ⟨rfl, t1, s1⟩
      rw [← hst1] at s1
      have T1 : Hid (WT b B w w1) := T0.out.trans t1
      have S1 : Hid (DW b B w1 st1 N) := s1
      clear t1 s1 T0 S0 hst1
      obtain ⟨o, e, l, g1, g2, g3, g4⟩ := S1.out.ex
      obtain ⟨oa, oc, rfl⟩ := row_one g2
      have c0 := cell_of g1 0
      simp at c0
      have O : Hid (w1.heap[b]? = some (dob (.slice oa l.length oc) e)) := g1
      have R : Hid (w1.ownsRow B 5 1 (.slice oa l.length oc) l.length (U8 l)) := g2
      have S : Hid (StE st1 l e) := g4
      have hlt : b < B := S1.out.lt
      have hle : B ≤ w1.heap.size := S1.out.le
      clear g1 g2 g4
      go_wp2_with fail
      go_region_law (first
        | (refine step_code (.tmp 15) rfl rfl rfl (code_any h _) ?_
           rintro en w6 ⟨rfl, hw6⟩
           refine ⟨_, rfl, ?_⟩
           have G6 : Hid (Grew w1 w6) := (by rw [hw6]; first | exact Grew.refl _ | exact (Grew.refl _).drew | exact (Grew.refl _).drewN _)
           have O6 : Hid (w6.heap[b]? = some (dob (.slice oa l.length oc) e)) := (G6.out.turn []).other O.out (by simp)
           have e6 := cell_of O6.out 0
           simp at e6
           have O6a := heap_alloc O6.out (.cells #[.int .u8 (codeD h)] 5)
           have e6a := cell_of O6a 0
           simp at e6a
           clear hw6 O6a)
        | (refine step_appG (w0 := w6) (B := B) (v := .slice oa l.length oc) (u := .slice (some ⟨w6.heap.size, 0, none⟩) 1 1) (l := l) (r := [codeD h]) rfl (.tmp 14) (.tmp 17) rfl rfl rfl (by first | exact ((Grew.refl _).alloc _) | exact ((Grew.refl _).alloc _).drew) (row_turn R.out (G6.out.turn []) (by simp)) (Nat.le_trans hle G6.out.2) (by first | exact reads_new _ _ _ | exact (reads_new _ _ _).below (Grew.refl _).drew.1) (by simp) (by simp; omega) ?_
           intro v7 w7 I7 t7
           obtain ⟨a7, c7, hv7⟩ := row_one I7
           rw [List.length_append] at hv7
           subst hv7
           have A7 := dw_app (b := b) (B := B) (w := w6.alloc (.cells #[.int .u8 (codeD h)] 5)) (st := st1) (N := N) (r := [codeD h]) (heap_alloc O6.out _) (World.ownsRow.alloc (row_turn R.out (G6.out.turn []) (by simp)) _) g3 S.out hlt (by have := G6.out.2; simp; omega) I7 t7
           have HA7 : Hid (WT b B (w6.alloc (.cells #[.int .u8 (codeD h)] 5)) (w7.setCell ⟨b, 0, none⟩ (.slice a7 (l.length + [codeD h].length) c7)) ∧ DW b B (w7.setCell ⟨b, 0, none⟩ (.slice a7 (l.length + [codeD h].length) c7)) (thenW st1 (.ok [codeD h])) (N + [codeD h].length)) := A7.2
           have q7 := cell_of A7.1 0
           have z7 := free_of A7.1 0
           simp at q7
           clear A7 t7))
      all_goals
        go_wp2_with fail
        go_end0
        exact ⟨rfl, (T1.out.trans (WT.of_grew (G6.out.alloc _))).trans HA7.out.1, by rw [← E.out]; exact HA7.out.2.mono (by simp)⟩
  · have d0 : decide (h < 0) = false := by simpa using h0
    have hP := PS_len h
    obtain ⟨pc, pr, hpc⟩ : ∃ c r, PS h = c :: r := by unfold PS; rw [putS]; split <;> exact ⟨_, _, rfl⟩
    have hne : Hid (PS h ≠ []) := by show _ ≠ _; rw [hpc]; simp
    clear hpc
    by_cases h1 : h ≤ 2147483647
    · have d1 : decide (h < 2147483648) = true := by simp; omega
      have S0 : Hid (DW b B w st N) := h'
      have T0 : Hid (WT b B w w) := WT.refl _ _ _
      have hb : b < w.heap.size := h'.blt
      obtain ⟨st1, hst1⟩ : ∃ st1, st1 = thenW st (needW true 4) := ⟨_, rfl⟩
      have E : Hid (thenW st1 (.ok (PS h)) = thenW st (heapW h)) := by
        show _ = _
        rw [hst1, thenW_yes, heapW, if_pos (by omega), sidxW, if_pos (by omega)]
      clear h'
      go_enter Tryd.func57, Tryd.ntmps57
      go_wp2_with fail
      refine (must_any S0.out true 4 (by decide)).mono ?_
      rintro en w1 ⟨rfl, t1, s1⟩
      rw [← hst1] at s1
      have T1 : Hid (WT b B w w1) := T0.out.trans t1
      have S1 : Hid (DW b B w1 st1 N) := s1
      clear t1 s1 T0 S0 hst1
      obtain ⟨o, e, l, g1, g2, g3, g4⟩ := S1.out.ex
      obtain ⟨oa, oc, rfl⟩ := row_one g2
      have c0 := cell_of g1 0
      simp at c0
      have O : Hid (w1.heap[b]? = some (dob (.slice oa l.length oc) e)) := g1
      have R : Hid (w1.ownsRow B 5 1 (.slice oa l.length oc) l.length (U8 l)) := g2
      have S : Hid (StE st1 l e) := g4
      have hlt : b < B := S1.out.lt
      have hle : B ≤ w1.heap.size := S1.out.le
      clear g1 g2 g4
      go_wp2_with fail
      go_region_law (first
        | (refine step_rputS (.tmp 30) rfl rfl rfl (refPutS_any h _ (by omega) (by omega)) ?_
           rintro en w6 ⟨u6, rfl, h6⟩
           refine ⟨_, rfl, ?_⟩
           have G6 : Hid (Grew w1 w6) := (by first | exact h6.gr | exact ((Grew.refl _).drew).trans h6.gr | exact ((Grew.refl _).drewN _).trans h6.gr)
           have O6 : Hid (w6.heap[b]? = some (dob (.slice oa l.length oc) e)) := (G6.out.turn []).other O.out (by simp)
           have R6 : Hid (Reads w6 u6 (PS h)) := h6.reads
           have e6 := cell_of O6.out 0
           simp at e6
           obtain ⟨ua6, uc6, hu6⟩ := h6.reads.len
           subst hu6
           clear h6)
        | (refine step_appG (w0 := w6) (B := B) (v := .slice oa l.length oc) (u := .slice ua6 (PS h).length uc6) (l := l) (r := PS h) rfl (.tmp 29) (.tmp 31) rfl rfl rfl (by first | exact Grew.refl _ | exact (Grew.refl _).drew | exact (Grew.refl _).drewN _) (row_turn R.out (G6.out.turn []) (by simp)) (Nat.le_trans hle G6.out.2) (by first | exact R6.out | exact R6.out.below (Grew.refl _).drew.1) hne.out (by omega) ?_
           intro v7 w7 I7 t7
           obtain ⟨a7, c7, hv7⟩ := row_one I7
           rw [List.length_append] at hv7
           subst hv7
           have A7 := dw_app (b := b) (B := B) (w := w6) (st := st1) (N := N) (r := PS h) O6.out (row_turn R.out (G6.out.turn []) (by simp)) g3 S.out hlt (Nat.le_trans hle G6.out.2) I7 t7
           have HA7 : Hid (WT b B w6 (w7.setCell ⟨b, 0, none⟩ (.slice a7 (l.length + (PS h).length) c7)) ∧ DW b B (w7.setCell ⟨b, 0, none⟩ (.slice a7 (l.length + (PS h).length) c7)) (thenW st1 (.ok (PS h))) (N + (PS h).length)) := A7.2
           have q7 := cell_of A7.1 0
           have z7 := free_of A7.1 0
           simp at q7
           clear A7 t7))
      all_goals
        go_wp2_with fail
        go_end0
        exact ⟨rfl, (T1.out.trans (WT.of_grew G6.out)).trans HA7.out.1, by rw [← E.out]; exact HA7.out.2.mono (by omega)⟩
    · have d1 : decide (h < 2147483648) = false := by simp; omega
      have S0 : Hid (DW b B w st N) := h'
      have T0 : Hid (WT b B w w) := WT.refl _ _ _
      have hb : b < w.heap.size := h'.blt
      obtain ⟨st1, hst1⟩ : ∃ st1, st1 = thenW st (needW false 4) := ⟨_, rfl⟩
      have E : Hid (thenW st1 (.ok (PS h)) = thenW st (heapW h)) := by
        show _ = _
        rw [hst1, thenW_no, heapW, if_pos (by omega), sidxW, if_neg (by omega)]
      clear h'
      go_enter Tryd.func57, Tryd.ntmps57
      go_wp2_with fail
      refine (must_any S0.out false 4 (by decide)).mono ?_
      rintro en w1 ⟨rfl, t1, s1⟩
      rw [← hst1] at s1
      have T1 : Hid (WT b B w w1) := T0.out.trans t1
      have S1 : Hid (DW b B w1 st1 N) := s1
      clear t1 s1 T0 S0 hst1
      obtain ⟨o, e, l, g1, g2, g3, g4⟩ := S1.out.ex
      obtain ⟨oa, oc, rfl⟩ := row_one g2
      have c0 := cell_of g1 0
      simp at c0
      have O : Hid (w1.heap[b]? = some (dob (.slice oa l.length oc) e)) := g1
      have R : Hid (w1.ownsRow B 5 1 (.slice oa l.length oc) l.length (U8 l)) := g2
      have S : Hid (StE st1 l e) := g4
      have hlt : b < B := S1.out.lt
      have hle : B ≤ w1.heap.size := S1.out.le
      clear g1 g2 g4
      go_wp2_with fail
      go_region_law (first
        | (refine step_rputS (.tmp 30) rfl rfl rfl (refPutS_any h _ (by omega) (by omega)) ?_
           rintro en w6 ⟨u6, rfl, h6⟩
           refine ⟨_, rfl, ?_⟩
           have G6 : Hid (Grew w1 w6) := (by first | exact h6.gr | exact ((Grew.refl _).drew).trans h6.gr | exact ((Grew.refl _).drewN _).trans h6.gr)
           have O6 : Hid (w6.heap[b]? = some (dob (.slice oa l.length oc) e)) := (G6.out.turn []).other O.out (by simp)
           have R6 : Hid (Reads w6 u6 (PS h)) := h6.reads
           have e6 := cell_of O6.out 0
           simp at e6
           obtain ⟨ua6, uc6, hu6⟩ := h6.reads.len
           subst hu6
           clear h6)
        | (refine step_appG (w0 := w6) (B := B) (v := .slice oa l.length oc) (u := .slice ua6 (PS h).length uc6) (l := l) (r := PS h) rfl (.tmp 29) (.tmp 31) rfl rfl rfl (by first | exact Grew.refl _ | exact (Grew.refl _).drew | exact (Grew.refl _).drewN _) (row_turn R.out (G6.out.turn []) (by simp)) (Nat.le_trans hle G6.out.2) (by first | exact R6.out | exact R6.out.below (Grew.refl _).drew.1) hne.out (by omega) ?_
           intro v7 w7 I7 t7
           obtain ⟨a7, c7, hv7⟩ := row_one I7
           rw [List.length_append] at hv7
           subst hv7
           have A7 := dw_app (b := b) (B := B) (w := w6) (st := st1) (N := N) (r := PS h) O6.out (row_turn R.out (G6.out.turn []) (by simp)) g3 S.out hlt (Nat.le_trans hle G6.out.2) I7 t7
           have HA7 : Hid (WT b B w6 (w7.setCell ⟨b, 0, none⟩ (.slice a7 (l.length + (PS h).length) c7)) ∧ DW b B (w7.setCell ⟨b, 0, none⟩ (.slice a7 (l.length + (PS h).length) c7)) (thenW st1 (.ok (PS h))) (N + (PS h).length)) := A7.2
           have q7 := cell_of A7.1 0
           have z7 := free_of A7.1 0
           simp at q7
           clear A7 t7))
      all_goals
        go_wp2_with fail
        go_end0
        exact ⟨rfl, (T1.out.trans (WT.of_grew G6.out)).trans HA7.out.1, by rw [← E.out]; exact HA7.out.2.mono (by omega)⟩
end Go.Proofs.YtfnfbioenngjoaaDoor
