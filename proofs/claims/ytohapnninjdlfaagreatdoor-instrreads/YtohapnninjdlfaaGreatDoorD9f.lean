/-
  The document's reading of instructions: clauses; no statement is proved here.
-/
import Derived.Test.YtohapnninjdlfaaGreatDoorD9d
import Derived.Test.YtohapnninjdlfaaGreatDoorE8l
import Derived.Test.YtohapnninjdlfaaGreatDoorInI
namespace Go.Proofs.YtohapnninjdlfaaGreatDoor
open Go.RowKit
set_option linter.unusedVariables false
set_option linter.unusedSimpArgs false
set_option linter.constructorNameAsVariable false

def ME.v (x : ME) : Value := .agg #[.int .u32 x.align, .int .u32 x.mem, .int .u64 x.off]
theorem d9u32_t {w : World} {b : Nat} {v : Value} {l : List Int} {st : Except (Nat × Nat) Nat} (h : D9 w b v l st) :
    Calls Tryz.prog 24 #[.pointer (some ⟨b, 0, none⟩)] w fun en w' => ∃ y st', en = .returned (.int .u32 y) ∧ (∀ q, st' = .ok q → 0 ≤ y ∧ y ≤ 4294967295) ∧ Fin9 b v l w w' st' ∧ TieI (runI (u32R l) st) y st' := by
  have hB := h.byt
  refine (d9u32_any h).mono ?_
  rintro en w1 ⟨y, st1, rfl, f1, t1⟩
  exact ⟨y, st1, rfl, u32t_is hB (fun p hp => by subst hp; exact h.st.2) t1, f1, t1⟩
set_option maxRecDepth 100000 in
set_option maxHeartbeats 2000000 in
theorem d9mem_any {w : World} {b : Nat} {v : Value} {l : List Int} {st : Except (Nat × Nat) Nat} (h : D9 w b v l st) :
    Calls Tryz.prog 27 #[.pointer (some ⟨b, 0, none⟩)] w (An9 ME.v b v l w (runI (memR l) st)) := by
  have H : Hid (D9 w b v l st) := h
  have hb : b < w.heap.size := h.lt
  have GA : Hid (Grew w ((w.alloc (.cells #[.int .u32 0, .int .u32 0, .int .u64 0] 26)).alloc (.cells #[.int .u32 0, .int .u32 0, .int .u64 0] 26))) := ((Grew.refl w).alloc _).alloc _
  have U0 : Hid (D9 ((w.alloc (.cells #[.int .u32 0, .int .u32 0, .int .u64 0] 26)).alloc (.cells #[.int .u32 0, .int .u32 0, .int .u64 0] 26)) b v l st) := h.grew GA.out
  have N0 : Hid (((w.alloc (.cells #[.int .u32 0, .int .u32 0, .int .u64 0] 26)).alloc (.cells #[.int .u32 0, .int .u32 0, .int .u64 0] 26)).heap[w.heap.size]? = some (.cells #[.int .u32 0, .int .u32 0, .int .u64 0] 26 (0, 0))) := heap_alloc (heap_alloc_last _ _) _
  have M0 : Hid (((w.alloc (.cells #[.int .u32 0, .int .u32 0, .int .u64 0] 26)).alloc (.cells #[.int .u32 0, .int .u32 0, .int .u64 0] 26)).heap[w.heap.size + 1]? = some (.cells #[.int .u32 0, .int .u32 0, .int .u64 0] 26 (0, 0))) := by
    have := heap_alloc_last (w.alloc (.cells #[.int .u32 0, .int .u32 0, .int .u64 0] 26)) (.cells #[.int .u32 0, .int .u32 0, .int .u64 0] 26)
    rwa [alloc_size] at this
  obtain ⟨a0, pl0, e0, ho⟩ := U0.out.obj
  have c1 := cell_of ho 1
  simp at c1
  have HP : Hid (∀ p, st = .ok p → a0 = (p : Int)) := by
    intro p hp
    subst hp
    have := U0.out.st.1
    rw [ho] at this
    simp [rdg9] at this
    exact this.1
  clear h ho
  go_enter Tryz.func27, Tryz.ntmps27
  go_wp2_with fail
  refine (d9u32_t U0.out).mono ?_
  rintro en w1 ⟨n, st1, rfl, hn, f1, t1⟩
  have N1 : Hid (w1.heap[w.heap.size]? = some (.cells #[.int .u32 0, .int .u32 0, .int .u64 0] 26 (0, 0))) := f1.1.other N0.out (by simp; omega)
  have hM1 := f1.1.other M0.out (by simp; omega)
  have M1 : Hid (w1.heap[w.heap.size + 1]? = some (.cells #[.int .u32 0, .int .u32 0, .int .u64 0] 26 (0, 0))) := hM1
  have T1 : Hid (Turn [b] w w1) := (GA.out.turn _).trans f1.1
  have D1 : Hid (D9 w1 b v l st1) := f1.2
  have R1 : Hid (TieI (runI (u32R l) st) n st1) := t1
  clear U0 N0 M0 GA hM1
  cases st1 with
  | error x =>
    obtain ⟨f, e⟩ := x
    obtain ⟨k3, de⟩ := f1.2.e1
    clear f1 t1 hn
    have NA := N1
    have MA := M1
    have TA := T1
    have DA := D1
    have m0 := cell_of M1.out 0
    have z0 := free_of M1.out 0
    simp at m0
    have BAD : Hid (∀ y, TieI (runI (memR l) st) y (.error (f, e))) := by
      intro y
      rw [memR_then]
      exact TieI.seqP R1.out rfl
    by_cases h64 : (64 : Int) ≤ n
    · have d64 : decide ((64 : Int) ≤ n) = true := by simpa using h64
      clear h64
      obtain ⟨A, hA⟩ : ∃ A, IntKind.u32.wrap (n - 64) = A := ⟨_, rfl⟩
      have HA : Hid (IntKind.u32.wrap (n - 64) = A) := hA
      go_wp2_with fail
      have hMB := heap_set (heap_set MA.out 0 (.int .u32 n)) 0 (.int .u32 A)
      have hNB := (heap_set_ne (j := 0) (x := .int .u32 A) (show w.heap.size ≠ w.heap.size + 1 by omega)).trans ((heap_set_ne (j := 0) (x := .int .u32 n) (show w.heap.size ≠ w.heap.size + 1 by omega)).trans NA.out)
      have tB0 := TA.out.set (p := ⟨w.heap.size + 1, 0, none⟩) (Or.inr (by simp)) (.int .u32 n)
      have dB0 := H.out.setN TA.out DA.out (w.heap.size + 1) 0 (by omega) (.int .u32 n)
      have TB : Hid (Turn [b] w ((w1.setCell ⟨w.heap.size + 1, 0, none⟩ (.int .u32 n)).setCell ⟨w.heap.size + 1, 0, none⟩ (.int .u32 A))) := tB0.set (p := ⟨w.heap.size + 1, 0, none⟩) (Or.inr (by simp)) (.int .u32 A)
      have DB : Hid (D9 ((w1.setCell ⟨w.heap.size + 1, 0, none⟩ (.int .u32 n)).setCell ⟨w.heap.size + 1, 0, none⟩ (.int .u32 A)) b v l (.error (f, e))) := H.out.setN tB0 dB0 (w.heap.size + 1) 0 (by omega) (.int .u32 A)
      simp at hMB
      clear tB0 dB0
      generalize (w1.setCell ⟨w.heap.size + 1, 0, none⟩ (.int .u32 n)).setCell ⟨w.heap.size + 1, 0, none⟩ (.int .u32 A) = WB at *
      refine (d9u32_t DB.out).mono ?_
      rintro en w4' ⟨m, st4, rfl, hm, f4, t4⟩
      have hM4' := f4.1.other hMB (by simp; omega)
      have hN4' := f4.1.other hNB (by simp; omega)
      have T4' : Hid (Turn [b] w w4') := TB.out.trans f4.1
      have D4' : Hid (D9 w4' b v l st4) := f4.2
      have R4 : Hid (TieI (runI (u32R l) (.error (f, e))) m st4) := t4
      have q1 := cell_of hM4' 1
      have x1 := free_of hM4' 1
      simp at q1
      clear f4 t4 hm hMB hNB TB DB
      go_wp2_with fail
      have hM4 := heap_set hM4' 1 (.int .u32 m)
      have hN4 := (heap_set_ne (j := 1) (x := .int .u32 m) (show w.heap.size ≠ w.heap.size + 1 by omega)).trans hN4'
      simp at hM4
      have T4 : Hid (Turn [b] w (w4'.setCell ⟨w.heap.size + 1, 1, none⟩ (.int .u32 m))) := T4'.out.set (p := ⟨w.heap.size + 1, 1, none⟩) (Or.inr (by simp)) (.int .u32 m)
      have D4 : Hid (D9 (w4'.setCell ⟨w.heap.size + 1, 1, none⟩ (.int .u32 m)) b v l st4) := H.out.setN T4'.out D4'.out (w.heap.size + 1) 1 (by omega) (.int .u32 m)
      have M4 : Hid ((w4'.setCell ⟨w.heap.size + 1, 1, none⟩ (.int .u32 m)).heap[w.heap.size + 1]? = some (.cells #[.int .u32 A, .int .u32 m, .int .u64 0] 26 (0, 0))) := hM4
      have N4 : Hid ((w4'.setCell ⟨w.heap.size + 1, 1, none⟩ (.int .u32 m)).heap[w.heap.size]? = some (.cells #[.int .u32 0, .int .u32 0, .int .u64 0] 26 (0, 0))) := hN4
      clear hM4 hN4 hM4' hN4' q1 x1 T4' D4'
      generalize w4'.setCell ⟨w.heap.size + 1, 1, none⟩ (.int .u32 m) = W4 at *
      clear w4'
      refine (d9numW_any D4.out).mono ?_
      rintro en w6 ⟨o, st6, rfl, f6, t6⟩
      have hM6 := f6.1.other M4.out (by simp; omega)
      have hN6 := f6.1.other N4.out (by simp; omega)
      have T6 : Hid (Turn [b] w w6) := T4.out.trans f6.1
      have D6 : Hid (D9 w6 b v l st6) := f6.2
      have R6 : Hid (TieI (runI (numR 64 false l) st4) o st6) := t6
      have TT : Hid (TieI (runI (memR l) st) ⟨A, m, o⟩ st6) := by
        have r6 := R6.out
        have e4 := R4.out.bad (β := Int)
        rw [e4] at r6
        rw [r6.bad (β := Int)]
        exact BAD.out _
      have m0 := cell_of hM6 0
      have m1 := cell_of hM6 1
      have m2 := cell_of hM6 2
      have z2 := free_of hM6 2
      have n0 := cell_of hN6 0
      have n1 := cell_of hN6 1
      have n2 := cell_of hN6 2
      have y0 := free_of hN6 0
      have y1 := free_of hN6 1
      have y2 := free_of hN6 2
      simp at m0 m1 m2 n0 n1 n2
      have N6 : Hid (w6.heap[w.heap.size]? = some (.cells #[.int .u32 0, .int .u32 0, .int .u64 0] 26 (0, 0))) := hN6
      clear hM6 hN6 f6 t6
      go_wp2_with fail
      have o1 := (heap_set_ne (j := 2) (x := .int .u64 o) (show w.heap.size ≠ w.heap.size + 1 by omega)).trans N6.out
      have o2 := heap_set (heap_set (heap_set o1 0 (.int .u32 A)) 1 (.int .u32 m)) 2 (.int .u64 o)
      refine bodyPost_ret (v := ME.v ⟨A, m, o⟩) ?_ rfl ?_
      · exact results_cell_row Tryz.results27 _ _ w.heap.size 26 _ (0, 0) _ rfl o2 Tryz.underlying26 rfl (by kernel_rfl)
      refine ⟨_, st6, rfl, ?_, TT.out⟩
      have t7 := T6.out.set (p := ⟨w.heap.size + 1, 2, none⟩) (Or.inr (by simp)) (.int .u64 o)
      have d7 := H.out.setN T6.out D6.out (w.heap.size + 1) 2 (by omega) (.int .u64 o)
      have t8 := t7.set (p := ⟨w.heap.size, 0, none⟩) (Or.inr (by simp)) (.int .u32 A)
      have d8 := H.out.setN t7 d7 w.heap.size 0 (Nat.le_refl _) (.int .u32 A)
      have t9 := t8.set (p := ⟨w.heap.size, 1, none⟩) (Or.inr (by simp)) (.int .u32 m)
      have d9 := H.out.setN t8 d8 w.heap.size 1 (Nat.le_refl _) (.int .u32 m)
      exact ⟨t9.set (p := ⟨w.heap.size, 2, none⟩) (Or.inr (by simp)) (.int .u64 o), H.out.setN t9 d9 w.heap.size 2 (Nat.le_refl _) (.int .u64 o)⟩
    · have d64 : decide ((64 : Int) ≤ n) = false := by simpa using h64
      clear h64
      go_wp2_with fail
      have hM4 := heap_set MA.out 0 (.int .u32 n)
      have hN4 := (heap_set_ne (j := 0) (x := .int .u32 n) (show w.heap.size ≠ w.heap.size + 1 by omega)).trans NA.out
      simp at hM4
      have T4 : Hid (Turn [b] w (w1.setCell ⟨w.heap.size + 1, 0, none⟩ (.int .u32 n))) := TA.out.set (p := ⟨w.heap.size + 1, 0, none⟩) (Or.inr (by simp)) (.int .u32 n)
      obtain ⟨st4, hst4⟩ : ∃ s4 : Except (Nat × Nat) Nat, s4 = (.error (f, e)) := ⟨_, rfl⟩
      have D4 : Hid (D9 (w1.setCell ⟨w.heap.size + 1, 0, none⟩ (.int .u32 n)) b v l st4) := by rw [hst4]; exact H.out.setN TA.out DA.out (w.heap.size + 1) 0 (by omega) (.int .u32 n)
      have S4 : Hid (st4 = (.error (f, e))) := hst4
      clear hst4
      have M4 : Hid ((w1.setCell ⟨w.heap.size + 1, 0, none⟩ (.int .u32 n)).heap[w.heap.size + 1]? = some (.cells #[.int .u32 n, .int .u32 0, .int .u64 0] 26 (0, 0))) := hM4
      have N4 : Hid ((w1.setCell ⟨w.heap.size + 1, 0, none⟩ (.int .u32 n)).heap[w.heap.size]? = some (.cells #[.int .u32 0, .int .u32 0, .int .u64 0] 26 (0, 0))) := hN4
      clear hM4 hN4
      generalize w1.setCell ⟨w.heap.size + 1, 0, none⟩ (.int .u32 n) = W4 at *
      refine (d9numW_any D4.out).mono ?_
      rintro en w6 ⟨o, st6, rfl, f6, t6⟩
      have hM6 := f6.1.other M4.out (by simp; omega)
      have hN6 := f6.1.other N4.out (by simp; omega)
      have T6 : Hid (Turn [b] w w6) := T4.out.trans f6.1
      have D6 : Hid (D9 w6 b v l st6) := f6.2
      have R6 : Hid (TieI (runI (numR 64 false l) st4) o st6) := t6
      have TT : Hid (TieI (runI (memR l) st) ⟨n, 0, o⟩ st6) := by
        have r6 := R6.out
        rw [S4.out] at r6
        rw [r6.bad (β := Int)]
        exact BAD.out _
      have m0 := cell_of hM6 0
      have m1 := cell_of hM6 1
      have m2 := cell_of hM6 2
      have z2 := free_of hM6 2
      have n0 := cell_of hN6 0
      have n1 := cell_of hN6 1
      have n2 := cell_of hN6 2
      have y0 := free_of hN6 0
      have y1 := free_of hN6 1
      have y2 := free_of hN6 2
      simp at m0 m1 m2 n0 n1 n2
      have N6 : Hid (w6.heap[w.heap.size]? = some (.cells #[.int .u32 0, .int .u32 0, .int .u64 0] 26 (0, 0))) := hN6
      clear hM6 hN6 f6 t6
      go_wp2_with fail
      have o1 := (heap_set_ne (j := 2) (x := .int .u64 o) (show w.heap.size ≠ w.heap.size + 1 by omega)).trans N6.out
      have o2 := heap_set (heap_set (heap_set o1 0 (.int .u32 n)) 1 (.int .u32 0)) 2 (.int .u64 o)
      refine bodyPost_ret (v := ME.v ⟨n, 0, o⟩) ?_ rfl ?_
      · exact results_cell_row Tryz.results27 _ _ w.heap.size 26 _ (0, 0) _ rfl o2 Tryz.underlying26 rfl (by kernel_rfl)
      refine ⟨_, st6, rfl, ?_, TT.out⟩
      have t7 := T6.out.set (p := ⟨w.heap.size + 1, 2, none⟩) (Or.inr (by simp)) (.int .u64 o)
      have d7 := H.out.setN T6.out D6.out (w.heap.size + 1) 2 (by omega) (.int .u64 o)
      have t8 := t7.set (p := ⟨w.heap.size, 0, none⟩) (Or.inr (by simp)) (.int .u32 n)
      have d8 := H.out.setN t7 d7 w.heap.size 0 (Nat.le_refl _) (.int .u32 n)
      have t9 := t8.set (p := ⟨w.heap.size, 1, none⟩) (Or.inr (by simp)) (.int .u32 0)
      have d9 := H.out.setN t8 d8 w.heap.size 1 (Nat.le_refl _) (.int .u32 0)
      exact ⟨t9.set (p := ⟨w.heap.size, 2, none⟩) (Or.inr (by simp)) (.int .u64 o), H.out.setN t9 d9 w.heap.size 2 (Nat.le_refl _) (.int .u64 o)⟩
  | ok q =>
    obtain ⟨y0', y1'⟩ := hn q rfl
    have k3 := f1.2.e0
    obtain ⟨p, hp, hbb⟩ := t1.was
    subst hp
    have ha := HP.out p rfl
    subst ha
    clear f1 t1 hn hbb
    by_cases h127 : (128 : Int) ≤ n
    · have d127 : decide ((128 : Int) ≤ n) = true := by simpa using h127
      have d64 : decide ((64 : Int) ≤ n) = true := by simp; omega
      have BAD : Hid (∀ y, TieI (runI (memR l) (.ok p)) y (.error (p, 4))) := by
        intro y
        rw [memR_then]
        refine TieI.seqP R1.out ?_
        simp only [if_pos (show (127 : Int) < n by omega)]
        rfl
      clear h127
      go_wp2_with fail
      refine (fail9_any D1.out p 4 (by decide)).mono ?_
      rintro en w2 ⟨rfl, t2, s2⟩
      have NA : Hid (w2.heap[w.heap.size]? = some (.cells #[.int .u32 0, .int .u32 0, .int .u64 0] 26 (0, 0))) := t2.other N1.out (by simp; omega)
      have MA : Hid (w2.heap[w.heap.size + 1]? = some (.cells #[.int .u32 0, .int .u32 0, .int .u64 0] 26 (0, 0))) := t2.other M1.out (by simp; omega)
      have TA : Hid (Turn [b] w w2) := T1.out.trans t2
      have DA : Hid (D9 w2 b v l (.error (p, 4))) := s2
      have m0 := cell_of MA.out 0
      have z0 := free_of MA.out 0
      simp at m0
      clear t2 s2
      obtain ⟨A, hA⟩ : ∃ A, IntKind.u32.wrap (n - 64) = A := ⟨_, rfl⟩
      have HA : Hid (IntKind.u32.wrap (n - 64) = A) := hA
      go_wp2_with fail
      have hMB := heap_set (heap_set MA.out 0 (.int .u32 n)) 0 (.int .u32 A)
      have hNB := (heap_set_ne (j := 0) (x := .int .u32 A) (show w.heap.size ≠ w.heap.size + 1 by omega)).trans ((heap_set_ne (j := 0) (x := .int .u32 n) (show w.heap.size ≠ w.heap.size + 1 by omega)).trans NA.out)
      have tB0 := TA.out.set (p := ⟨w.heap.size + 1, 0, none⟩) (Or.inr (by simp)) (.int .u32 n)
      have dB0 := H.out.setN TA.out DA.out (w.heap.size + 1) 0 (by omega) (.int .u32 n)
      have TB : Hid (Turn [b] w ((w2.setCell ⟨w.heap.size + 1, 0, none⟩ (.int .u32 n)).setCell ⟨w.heap.size + 1, 0, none⟩ (.int .u32 A))) := tB0.set (p := ⟨w.heap.size + 1, 0, none⟩) (Or.inr (by simp)) (.int .u32 A)
      have DB : Hid (D9 ((w2.setCell ⟨w.heap.size + 1, 0, none⟩ (.int .u32 n)).setCell ⟨w.heap.size + 1, 0, none⟩ (.int .u32 A)) b v l (.error (p, 4))) := H.out.setN tB0 dB0 (w.heap.size + 1) 0 (by omega) (.int .u32 A)
      simp at hMB
      clear tB0 dB0
      generalize (w2.setCell ⟨w.heap.size + 1, 0, none⟩ (.int .u32 n)).setCell ⟨w.heap.size + 1, 0, none⟩ (.int .u32 A) = WB at *
      refine (d9u32_t DB.out).mono ?_
      rintro en w4' ⟨m, st4, rfl, hm, f4, t4⟩
      have hM4' := f4.1.other hMB (by simp; omega)
      have hN4' := f4.1.other hNB (by simp; omega)
      have T4' : Hid (Turn [b] w w4') := TB.out.trans f4.1
      have D4' : Hid (D9 w4' b v l st4) := f4.2
      have R4 : Hid (TieI (runI (u32R l) (.error (p, 4))) m st4) := t4
      have q1 := cell_of hM4' 1
      have x1 := free_of hM4' 1
      simp at q1
      clear f4 t4 hm hMB hNB TB DB
      go_wp2_with fail
      have hM4 := heap_set hM4' 1 (.int .u32 m)
      have hN4 := (heap_set_ne (j := 1) (x := .int .u32 m) (show w.heap.size ≠ w.heap.size + 1 by omega)).trans hN4'
      simp at hM4
      have T4 : Hid (Turn [b] w (w4'.setCell ⟨w.heap.size + 1, 1, none⟩ (.int .u32 m))) := T4'.out.set (p := ⟨w.heap.size + 1, 1, none⟩) (Or.inr (by simp)) (.int .u32 m)
      have D4 : Hid (D9 (w4'.setCell ⟨w.heap.size + 1, 1, none⟩ (.int .u32 m)) b v l st4) := H.out.setN T4'.out D4'.out (w.heap.size + 1) 1 (by omega) (.int .u32 m)
      have M4 : Hid ((w4'.setCell ⟨w.heap.size + 1, 1, none⟩ (.int .u32 m)).heap[w.heap.size + 1]? = some (.cells #[.int .u32 A, .int .u32 m, .int .u64 0] 26 (0, 0))) := hM4
      have N4 : Hid ((w4'.setCell ⟨w.heap.size + 1, 1, none⟩ (.int .u32 m)).heap[w.heap.size]? = some (.cells #[.int .u32 0, .int .u32 0, .int .u64 0] 26 (0, 0))) := hN4
      clear hM4 hN4 hM4' hN4' q1 x1 T4' D4'
      generalize w4'.setCell ⟨w.heap.size + 1, 1, none⟩ (.int .u32 m) = W4 at *
      clear w4'
      refine (d9numW_any D4.out).mono ?_
      rintro en w6 ⟨o, st6, rfl, f6, t6⟩
      have hM6 := f6.1.other M4.out (by simp; omega)
      have hN6 := f6.1.other N4.out (by simp; omega)
      have T6 : Hid (Turn [b] w w6) := T4.out.trans f6.1
      have D6 : Hid (D9 w6 b v l st6) := f6.2
      have R6 : Hid (TieI (runI (numR 64 false l) st4) o st6) := t6
      have TT : Hid (TieI (runI (memR l) (.ok p)) ⟨A, m, o⟩ st6) := by
        have r6 := R6.out
        have e4 := R4.out.bad (β := Int)
        rw [e4] at r6
        rw [r6.bad (β := Int)]
        exact BAD.out _
      have m0 := cell_of hM6 0
      have m1 := cell_of hM6 1
      have m2 := cell_of hM6 2
      have z2 := free_of hM6 2
      have n0 := cell_of hN6 0
      have n1 := cell_of hN6 1
      have n2 := cell_of hN6 2
      have y0 := free_of hN6 0
      have y1 := free_of hN6 1
      have y2 := free_of hN6 2
      simp at m0 m1 m2 n0 n1 n2
      have N6 : Hid (w6.heap[w.heap.size]? = some (.cells #[.int .u32 0, .int .u32 0, .int .u64 0] 26 (0, 0))) := hN6
      clear hM6 hN6 f6 t6
      go_wp2_with fail
      have o1 := (heap_set_ne (j := 2) (x := .int .u64 o) (show w.heap.size ≠ w.heap.size + 1 by omega)).trans N6.out
      have o2 := heap_set (heap_set (heap_set o1 0 (.int .u32 A)) 1 (.int .u32 m)) 2 (.int .u64 o)
      refine bodyPost_ret (v := ME.v ⟨A, m, o⟩) ?_ rfl ?_
      · exact results_cell_row Tryz.results27 _ _ w.heap.size 26 _ (0, 0) _ rfl o2 Tryz.underlying26 rfl (by kernel_rfl)
      refine ⟨_, st6, rfl, ?_, TT.out⟩
      have t7 := T6.out.set (p := ⟨w.heap.size + 1, 2, none⟩) (Or.inr (by simp)) (.int .u64 o)
      have d7 := H.out.setN T6.out D6.out (w.heap.size + 1) 2 (by omega) (.int .u64 o)
      have t8 := t7.set (p := ⟨w.heap.size, 0, none⟩) (Or.inr (by simp)) (.int .u32 A)
      have d8 := H.out.setN t7 d7 w.heap.size 0 (Nat.le_refl _) (.int .u32 A)
      have t9 := t8.set (p := ⟨w.heap.size, 1, none⟩) (Or.inr (by simp)) (.int .u32 m)
      have d9 := H.out.setN t8 d8 w.heap.size 1 (Nat.le_refl _) (.int .u32 m)
      exact ⟨t9.set (p := ⟨w.heap.size, 2, none⟩) (Or.inr (by simp)) (.int .u64 o), H.out.setN t9 d9 w.heap.size 2 (Nat.le_refl _) (.int .u64 o)⟩
    · have d127 : decide ((128 : Int) ≤ n) = false := by simpa using h127
      have NA := N1
      have MA := M1
      have TA := T1
      have DA := D1
      have m0 := cell_of M1.out 0
      have z0 := free_of M1.out 0
      simp at m0
      by_cases h64 : (64 : Int) ≤ n
      · have d64 : decide ((64 : Int) ≤ n) = true := by simpa using h64
        have RNG : Hid (64 ≤ n ∧ n ≤ 127) := (by omega : 64 ≤ n ∧ n ≤ 127)
        clear h64 h127
        obtain ⟨A, hA⟩ : ∃ A, IntKind.u32.wrap (n - 64) = A := ⟨_, rfl⟩
        have HA : Hid (IntKind.u32.wrap (n - 64) = A) := hA
        go_wp2_with fail
        have hMB := heap_set (heap_set MA.out 0 (.int .u32 n)) 0 (.int .u32 A)
        have hNB := (heap_set_ne (j := 0) (x := .int .u32 A) (show w.heap.size ≠ w.heap.size + 1 by omega)).trans ((heap_set_ne (j := 0) (x := .int .u32 n) (show w.heap.size ≠ w.heap.size + 1 by omega)).trans NA.out)
        have tB0 := TA.out.set (p := ⟨w.heap.size + 1, 0, none⟩) (Or.inr (by simp)) (.int .u32 n)
        have dB0 := H.out.setN TA.out DA.out (w.heap.size + 1) 0 (by omega) (.int .u32 n)
        have TB : Hid (Turn [b] w ((w1.setCell ⟨w.heap.size + 1, 0, none⟩ (.int .u32 n)).setCell ⟨w.heap.size + 1, 0, none⟩ (.int .u32 A))) := tB0.set (p := ⟨w.heap.size + 1, 0, none⟩) (Or.inr (by simp)) (.int .u32 A)
        have DB : Hid (D9 ((w1.setCell ⟨w.heap.size + 1, 0, none⟩ (.int .u32 n)).setCell ⟨w.heap.size + 1, 0, none⟩ (.int .u32 A)) b v l (.ok q)) := H.out.setN tB0 dB0 (w.heap.size + 1) 0 (by omega) (.int .u32 A)
        simp at hMB
        clear tB0 dB0
        generalize (w1.setCell ⟨w.heap.size + 1, 0, none⟩ (.int .u32 n)).setCell ⟨w.heap.size + 1, 0, none⟩ (.int .u32 A) = WB at *
        refine (d9u32_t DB.out).mono ?_
        rintro en w4' ⟨m, st4, rfl, hm, f4, t4⟩
        have hM4' := f4.1.other hMB (by simp; omega)
        have hN4' := f4.1.other hNB (by simp; omega)
        have T4' : Hid (Turn [b] w w4') := TB.out.trans f4.1
        have D4' : Hid (D9 w4' b v l st4) := f4.2
        have R4 : Hid (TieI (runI (u32R l) (.ok q)) m st4) := t4
        have q1 := cell_of hM4' 1
        have x1 := free_of hM4' 1
        simp at q1
        clear f4 t4 hm hMB hNB TB DB
        go_wp2_with fail
        have hM4 := heap_set hM4' 1 (.int .u32 m)
        have hN4 := (heap_set_ne (j := 1) (x := .int .u32 m) (show w.heap.size ≠ w.heap.size + 1 by omega)).trans hN4'
        simp at hM4
        have T4 : Hid (Turn [b] w (w4'.setCell ⟨w.heap.size + 1, 1, none⟩ (.int .u32 m))) := T4'.out.set (p := ⟨w.heap.size + 1, 1, none⟩) (Or.inr (by simp)) (.int .u32 m)
        have D4 : Hid (D9 (w4'.setCell ⟨w.heap.size + 1, 1, none⟩ (.int .u32 m)) b v l st4) := H.out.setN T4'.out D4'.out (w.heap.size + 1) 1 (by omega) (.int .u32 m)
        have M4 : Hid ((w4'.setCell ⟨w.heap.size + 1, 1, none⟩ (.int .u32 m)).heap[w.heap.size + 1]? = some (.cells #[.int .u32 A, .int .u32 m, .int .u64 0] 26 (0, 0))) := hM4
        have N4 : Hid ((w4'.setCell ⟨w.heap.size + 1, 1, none⟩ (.int .u32 m)).heap[w.heap.size]? = some (.cells #[.int .u32 0, .int .u32 0, .int .u64 0] 26 (0, 0))) := hN4
        clear hM4 hN4 hM4' hN4' q1 x1 T4' D4'
        generalize w4'.setCell ⟨w.heap.size + 1, 1, none⟩ (.int .u32 m) = W4 at *
        clear w4'
        refine (d9numW_any D4.out).mono ?_
        rintro en w6 ⟨o, st6, rfl, f6, t6⟩
        have hM6 := f6.1.other M4.out (by simp; omega)
        have hN6 := f6.1.other N4.out (by simp; omega)
        have T6 : Hid (Turn [b] w w6) := T4.out.trans f6.1
        have D6 : Hid (D9 w6 b v l st6) := f6.2
        have R6 : Hid (TieI (runI (numR 64 false l) st4) o st6) := t6
        have TT : Hid (TieI (runI (memR l) (.ok p)) ⟨A, m, o⟩ st6) := by
          have hA2 := HA.out
          rw [IntKind.wrap_u32] at hA2
          have hA3 : A = n - 64 := by have := RNG.out; omega
          subst hA3
          rw [memR_then]
          refine TieI.seqP R1.out ?_
          simp only [if_neg (show ¬ (127 : Int) < n by have := RNG.out; omega), if_pos (show (64 : Int) ≤ n by have := RNG.out; omega)]
          refine TieI.seq R4.out ?_
          rw [runI_map]
          exact R6.out.map _
        have m0 := cell_of hM6 0
        have m1 := cell_of hM6 1
        have m2 := cell_of hM6 2
        have z2 := free_of hM6 2
        have n0 := cell_of hN6 0
        have n1 := cell_of hN6 1
        have n2 := cell_of hN6 2
        have y0 := free_of hN6 0
        have y1 := free_of hN6 1
        have y2 := free_of hN6 2
        simp at m0 m1 m2 n0 n1 n2
        have N6 : Hid (w6.heap[w.heap.size]? = some (.cells #[.int .u32 0, .int .u32 0, .int .u64 0] 26 (0, 0))) := hN6
        clear hM6 hN6 f6 t6
        go_wp2_with fail
        have o1 := (heap_set_ne (j := 2) (x := .int .u64 o) (show w.heap.size ≠ w.heap.size + 1 by omega)).trans N6.out
        have o2 := heap_set (heap_set (heap_set o1 0 (.int .u32 A)) 1 (.int .u32 m)) 2 (.int .u64 o)
        refine bodyPost_ret (v := ME.v ⟨A, m, o⟩) ?_ rfl ?_
        · exact results_cell_row Tryz.results27 _ _ w.heap.size 26 _ (0, 0) _ rfl o2 Tryz.underlying26 rfl (by kernel_rfl)
        refine ⟨_, st6, rfl, ?_, TT.out⟩
        have t7 := T6.out.set (p := ⟨w.heap.size + 1, 2, none⟩) (Or.inr (by simp)) (.int .u64 o)
        have d7 := H.out.setN T6.out D6.out (w.heap.size + 1) 2 (by omega) (.int .u64 o)
        have t8 := t7.set (p := ⟨w.heap.size, 0, none⟩) (Or.inr (by simp)) (.int .u32 A)
        have d8 := H.out.setN t7 d7 w.heap.size 0 (Nat.le_refl _) (.int .u32 A)
        have t9 := t8.set (p := ⟨w.heap.size, 1, none⟩) (Or.inr (by simp)) (.int .u32 m)
        have d9 := H.out.setN t8 d8 w.heap.size 1 (Nat.le_refl _) (.int .u32 m)
        exact ⟨t9.set (p := ⟨w.heap.size, 2, none⟩) (Or.inr (by simp)) (.int .u64 o), H.out.setN t9 d9 w.heap.size 2 (Nat.le_refl _) (.int .u64 o)⟩
      · have d64 : decide ((64 : Int) ≤ n) = false := by simpa using h64
        have RNG : Hid (0 ≤ n ∧ n < 64) := (by omega : 0 ≤ n ∧ n < 64)
        clear h64 h127
        go_wp2_with fail
        have hM4 := heap_set MA.out 0 (.int .u32 n)
        have hN4 := (heap_set_ne (j := 0) (x := .int .u32 n) (show w.heap.size ≠ w.heap.size + 1 by omega)).trans NA.out
        simp at hM4
        have T4 : Hid (Turn [b] w (w1.setCell ⟨w.heap.size + 1, 0, none⟩ (.int .u32 n))) := TA.out.set (p := ⟨w.heap.size + 1, 0, none⟩) (Or.inr (by simp)) (.int .u32 n)
        obtain ⟨st4, hst4⟩ : ∃ s4 : Except (Nat × Nat) Nat, s4 = (.ok q) := ⟨_, rfl⟩
        have D4 : Hid (D9 (w1.setCell ⟨w.heap.size + 1, 0, none⟩ (.int .u32 n)) b v l st4) := by rw [hst4]; exact H.out.setN TA.out DA.out (w.heap.size + 1) 0 (by omega) (.int .u32 n)
        have S4 : Hid (st4 = (.ok q)) := hst4
        clear hst4
        have M4 : Hid ((w1.setCell ⟨w.heap.size + 1, 0, none⟩ (.int .u32 n)).heap[w.heap.size + 1]? = some (.cells #[.int .u32 n, .int .u32 0, .int .u64 0] 26 (0, 0))) := hM4
        have N4 : Hid ((w1.setCell ⟨w.heap.size + 1, 0, none⟩ (.int .u32 n)).heap[w.heap.size]? = some (.cells #[.int .u32 0, .int .u32 0, .int .u64 0] 26 (0, 0))) := hN4
        clear hM4 hN4
        generalize w1.setCell ⟨w.heap.size + 1, 0, none⟩ (.int .u32 n) = W4 at *
        refine (d9numW_any D4.out).mono ?_
        rintro en w6 ⟨o, st6, rfl, f6, t6⟩
        have hM6 := f6.1.other M4.out (by simp; omega)
        have hN6 := f6.1.other N4.out (by simp; omega)
        have T6 : Hid (Turn [b] w w6) := T4.out.trans f6.1
        have D6 : Hid (D9 w6 b v l st6) := f6.2
        have R6 : Hid (TieI (runI (numR 64 false l) st4) o st6) := t6
        have TT : Hid (TieI (runI (memR l) (.ok p)) ⟨n, 0, o⟩ st6) := by
          have r6 := R6.out
          rw [S4.out] at r6
          rw [memR_then]
          refine TieI.seqP R1.out ?_
          simp only [if_neg (show ¬ (127 : Int) < n by have := RNG.out; omega), if_neg (show ¬ (64 : Int) ≤ n by have := RNG.out; omega)]
          rw [runI_map]
          exact r6.map _
        have m0 := cell_of hM6 0
        have m1 := cell_of hM6 1
        have m2 := cell_of hM6 2
        have z2 := free_of hM6 2
        have n0 := cell_of hN6 0
        have n1 := cell_of hN6 1
        have n2 := cell_of hN6 2
        have y0 := free_of hN6 0
        have y1 := free_of hN6 1
        have y2 := free_of hN6 2
        simp at m0 m1 m2 n0 n1 n2
        have N6 : Hid (w6.heap[w.heap.size]? = some (.cells #[.int .u32 0, .int .u32 0, .int .u64 0] 26 (0, 0))) := hN6
        clear hM6 hN6 f6 t6
        go_wp2_with fail
        have o1 := (heap_set_ne (j := 2) (x := .int .u64 o) (show w.heap.size ≠ w.heap.size + 1 by omega)).trans N6.out
        have o2 := heap_set (heap_set (heap_set o1 0 (.int .u32 n)) 1 (.int .u32 0)) 2 (.int .u64 o)
        refine bodyPost_ret (v := ME.v ⟨n, 0, o⟩) ?_ rfl ?_
        · exact results_cell_row Tryz.results27 _ _ w.heap.size 26 _ (0, 0) _ rfl o2 Tryz.underlying26 rfl (by kernel_rfl)
        refine ⟨_, st6, rfl, ?_, TT.out⟩
        have t7 := T6.out.set (p := ⟨w.heap.size + 1, 2, none⟩) (Or.inr (by simp)) (.int .u64 o)
        have d7 := H.out.setN T6.out D6.out (w.heap.size + 1) 2 (by omega) (.int .u64 o)
        have t8 := t7.set (p := ⟨w.heap.size, 0, none⟩) (Or.inr (by simp)) (.int .u32 n)
        have d8 := H.out.setN t7 d7 w.heap.size 0 (Nat.le_refl _) (.int .u32 n)
        have t9 := t8.set (p := ⟨w.heap.size, 1, none⟩) (Or.inr (by simp)) (.int .u32 0)
        have d9 := H.out.setN t8 d8 w.heap.size 1 (Nat.le_refl _) (.int .u32 0)
        exact ⟨t9.set (p := ⟨w.heap.size, 2, none⟩) (Or.inr (by simp)) (.int .u64 o), H.out.setN t9 d9 w.heap.size 2 (Nat.le_refl _) (.int .u64 o)⟩
end Go.Proofs.YtohapnninjdlfaaGreatDoor

namespace Go.Proofs.YtohapnninjdlfaaGreatDoor
open Go.RowKit
set_option linter.unusedVariables false
set_option linter.unusedSimpArgs false
set_option linter.constructorNameAsVariable false

theorem ML.begin {α : Type} {rd : Nat → RS α} {l : List Int} {st st1 : Except (Nat × Nat) Nat} {n : Int} {m : Nat} (h : TieI (runI (fun p => limR p (m : Int) (numR 32 false l p)) st) n st1) (hn : ∀ q, st1 = .ok q → 0 ≤ n ∧ n ≤ m) (hm : m ≤ 65536) : ML (runI (listR (m : Int) rd l) st) rd n.toNat 0 [] st1 := by
  cases st1 with
  | ok q =>
    obtain ⟨p, rfl, hp⟩ := h.was
    have := hn q rfl
    refine ⟨by omega, ?_⟩
    show listR (m : Int) rd l p = _
    unfold listR
    rw [show limR p (m : Int) (numR 32 false l p) = .ok (n, q) from hp]
    rfl
  | error e =>
    cases st with
    | error e0 =>
      have h' : (.error e0 : RS Int) = .error e := h
      injection h' with h'
      subst h'
      rfl
    | ok p =>
      show listR (m : Int) rd l p = .error e
      unfold listR
      rw [show limR p (m : Int) (numR 32 false l p) = .error e from h]
      rfl
set_option maxRecDepth 100000 in
set_option maxHeartbeats 4000000 in
theorem d9clauses_any {w : World} {b : Nat} {v : Value} {l : List Int} {st : Except (Nat × Nat) Nat} (h : D9 w b v l st) :
    Calls Tryz.prog 23 #[.pointer (some ⟨b, 0, none⟩)] w fun en w' => ∃ rv xs st', en = .returned rv ∧ RowC w.heap.size w' rv xs ∧ Fin9 b v l w w' st' ∧ TieI (runI (listR 65536 (clauseR l) l) st) xs st' := by
  have H : Hid (D9 w b v l st) := h
  have hb : b < w.heap.size := h.lt
  have C := d9few_any h 65536 (by decide)
  clear h
  obtain ⟨R, hR⟩ : ∃ R, runI (listR 65536 (clauseR l) l) st = R := ⟨_, rfl⟩
  rw [hR]
  have HR : Hid (runI (listR 65536 (clauseR l) l) st = R) := hR
  clear hR
  go_enter Tryz.func23, Tryz.ntmps23
  go_wp2_with fail
  refine C.mono ?_
  rintro en w1 ⟨n, st1, rfl, f1, hn, t1⟩
  have F1 : Hid (Fin9 b v l w w1 st1) := f1
  have M0 : Hid (ML R (clauseR l) n.toNat 0 [] st1) := by have := ML.begin (rd := clauseR l) (m := 65536) t1 hn (by decide); rw [show ((65536 : Nat) : Int) = 65536 from rfl, HR.out] at this; exact this
  have hs1 : w.heap.size ≤ w1.heap.size := f1.1.size
  clear C t1
  cases st1 with
  | error x =>
    obtain ⟨f, e⟩ := x
    obtain ⟨k3, de⟩ := f1.2.e1
    clear f1 hn
    by_cases h0 : 0 < n
    · have d0 : decide (0 < n) = true := by simpa using h0
      clear h0
      go_wp2_with fail
      refine wp_loop_rounds 1 ?_
      rw [rounds_succ]
      go_wp2
      go_ret
      exact ⟨_, [], _, rfl, RowC.nil _ _, F1.out, M0.out⟩
    · have d0 : decide (0 < n) = false := by simpa using h0
      clear h0
      go_wp2_with fail
      refine wp_loop_rounds 1 ?_
      rw [rounds_succ]
      go_wp2
      go_ret
      exact ⟨_, [], _, rfl, RowC.nil _ _, F1.out, M0.out⟩
  | ok q0 =>
    obtain ⟨n0, n1⟩ := hn q0 rfl
    obtain ⟨N, rfl⟩ : ∃ N : Nat, n = N := ⟨n.toNat, by omega⟩
    rw [Int.toNat_natCast] at M0
    have hN6 : N ≤ 65536 := by omega
    clear f1 hn n0 n1
    go_wp2_with fail
    go_loopw [4, 5, 6] (fun v_ n_ c_ wr => ∃ (k : Nat) (acc : List CA) (stk : Except (Nat × Nat) Nat), n_ = .int .i64 k ∧ k ≤ N ∧ acc.length = k ∧ w.heap.size ≤ wr.heap.size ∧ Hid (RowC w.heap.size wr v_ acc) ∧ Hid (Fin9 b v l w wr stk) ∧ Hid (ML R (clauseR l) N k acc stk)) (fun _ n_ _ _ => N - (intOf n_).toNat)
    case atStart => exact ⟨0, [], .ok q0, rfl, by omega, rfl, hs1, RowC.nil _ _, F1, M0⟩
    case round =>
      obtain ⟨k, acc, stk, rfl, hk, hacc, hsr, WR, FR, HE⟩ := hrel
      subst hacc
      obtain ⟨aa, cc, hv⟩ := row_one WR.out
      subst hv
      by_cases hkn : acc.length < N
      · have d4 : decide ((acc.length : Int) < (N : Int)) = true := by simp; omega
        have d5 : decide (acc.length < N) = true := by simp; omega
        cases stk with
        | error x =>
          obtain ⟨f, e⟩ := x
          obtain ⟨k3, de⟩ := FR.out.2.e1
          go_wp2_with fail
          go_ret
          exact ⟨_, acc, _, rfl, WR.out, FR.out, HE.out⟩
        | ok q =>
          have k3 := FR.out.2.e0
          have hN2 : acc.length ≤ 65536 := by omega
          have D := d9small_any FR.out.2
          go_wp2_with fail
          refine D.mono ?_
          rintro en w2 ⟨kk, st2, rfl, hkk, f2, t2⟩
          have hkw : IntKind.i64.wrap kk = kk := by rw [IntKind.wrap_i64]; omega
          have hT2 := FR.out.1.trans f2.1
          have hr2 : RowC w.heap.size w2 (.slice aa acc.length cc) acc := row_turn WR.out f2.1 (by intro x hx; simp at hx; subst hx; obtain ⟨a1, p1, e1, ho⟩ := FR.out.2.obj; exact NoT.of ho (by decide))
          have D2 : Hid (D9 w2 b v l st2) := f2.2
          have R2 : Hid (TieI (runI (belowR 4 l) (.ok q)) kk st2) := t2
          have hs2 : w.heap.size ≤ w2.heap.size := hT2.size
          have hb2 : b < w2.heap.size := f2.2.lt
          obtain ⟨MB, hMB⟩ : ∃ MB, w2.heap.size = MB := ⟨_, rfl⟩
          have hM2 := heap_alloc_last w2 (.cells #[.int .i64 kk, .int .u32 0, .int .u32 0] 86)
          have hTX := (Turn.refl [b] w2).alloc (.cells #[.int .i64 kk, .int .u32 0, .int .u32 0] 86)
          have hDX := D2.out.grew ((Grew.refl w2).alloc (.cells #[.int .i64 kk, .int .u32 0, .int .u32 0] 86))
          rw [hMB] at hM2
          clear D f2 t2 hkk WR FR k3
          by_cases hk2 : kk < 2
          · have dk : decide (kk < 2) = true := by simpa using hk2
            have K2 : Hid (kk < 2) := hk2
            clear hk2
            go_wp2_with fail
            generalize w2.alloc (.cells #[.int .i64 kk, .int .u32 0, .int .u32 0] 86) = WX at *
            refine (d9u32_t hDX).mono ?_
            rintro en w4' ⟨tg, st4, rfl, htg, f4, t4⟩
            have hM4' := f4.1.other hM2 (by simp; omega)
            have T4' := hTX.trans f4.1
            have D4' := f4.2
            have R4 : Hid (TieI (runI (u32R l) st2) tg st4) := t4
            have z1 := free_of hM4' 1
            have z1' := cell_of hM4' 1
            simp at z1'
            have hMX := heap_set hM4' 1 (.int .u32 tg)
            have TX := T4'.set (p := ⟨MB, 1, none⟩) (Or.inr (by simp; omega)) (.int .u32 tg)
            have DX := D2.out.setN T4' D4' MB 1 (by omega) (.int .u32 tg)
            simp at hMX
            clear f4 t4 htg hM4' T4' D4' hTX hDX hM2
            go_wp2_with fail
            generalize w4'.setCell ⟨MB, 1, none⟩ (.int .u32 tg) = WY at *
            clear z1 z1' w4' WX
            refine (d9u32_t DX).mono ?_
            rintro en w5' ⟨lb, st5, rfl, hlb, f5, t5⟩
            have hM5' := f5.1.other hMX (by simp; omega)
            have T5' := TX.trans f5.1
            have D5' := f5.2
            have TT : Hid (TieI (runI (clauseR l) (.ok q)) ⟨kk, tg, lb⟩ st5) := by
              refine TieI.seq R2.out ?_
              simp only [if_pos K2.out]
              refine TieI.seq R4.out ?_
              rw [runI_map]
              exact TieI.map _ t5
            have z2 := free_of hM5' 2
            have z2' := cell_of hM5' 2
            simp at z2'
            have hM5 := heap_set hM5' 2 (.int .u32 lb)
            have T5x := T5'.set (p := ⟨MB, 2, none⟩) (Or.inr (by simp; omega)) (.int .u32 lb)
            have T5 := hT2.trans T5x
            have D5 := D2.out.setN T5' D5' MB 2 (by omega) (.int .u32 lb)
            have r5 : RowC w.heap.size (w5'.setCell ⟨MB, 2, none⟩ (.int .u32 lb)) (.slice aa acc.length cc) acc := row_turn hr2 T5x (by intro x hx; simp at hx; subst hx; obtain ⟨a1, p1, e1, ho⟩ := D2.out.obj; exact NoT.of ho (by decide))
            simp at hM5
            clear f5 t5 hlb hMX TX DX hM5' T5' D5' T5x hr2 hT2 D2
            go_wp2_with (first
              | with_reducible refine stop_load 86 rfl ?_
              | fail)
            generalize w5'.setCell ⟨MB, 2, none⟩ (.int .u32 lb) = W5 at *
            have q0 := cell_of hM5 0
            have q1 := cell_of hM5 1
            have q2 := cell_of hM5 2
            simp at q0 q1 q2
            unfold Stop
            have F5 : Hid (Fin9 b v l w W5 st5) := ⟨T5, D5⟩
            have W5r : Hid (RowC w.heap.size W5 (.slice aa acc.length cc) acc) := r5
            have hB5 : w.heap.size ≤ W5.heap.size := T5.size
            have HE5 : Hid (ML R (clauseR l) N (acc.length + 1) (acc ++ [⟨kk, tg, lb⟩]) st5) := HE.out.next hkn TT.out
            clear hM5 T5 D5 r5 HE TT
            go_wp2_with (at_builtin; refine wp_app1 (v := .slice aa acc.length cc) (n := acc.length) (cs := acc.flatMap CA.c) (B := w.heap.size) rfl _ _ 34 86 3 16 _ Tryz.underlying34 infoC2 rfl (by decide) (by decide) rfl b rfl rfl W5r.out hB5 rfl (by simp [Value.oneCell']) (by omega) ?_; intro v3 w3 hO3 hT3 hG3)
            have T3 : Hid (Turn [b] w w3) := hT3.turn F5.out.1 (Nat.le_refl _)
            have o3 : w3.heap[b]? = W5.heap[b]? := hG3 b F5.out.2.lt (fun hh => by have := (World.ownsRow.lt W5r.out b hh.symm).1; omega)
            have F3 : Hid (Fin9 b v l w w3 st5) := ⟨T3.out, H.out.of T3.out (F5.out.2.st.same o3)⟩
            clear o3
            go_roundw
            case rel => exact ⟨acc.length + 1, acc ++ [(⟨kk, tg, lb⟩ : CA)], st5, by go_num, by omega, by simp, Nat.le_trans hB5 hT3.size, RowC.snoc (a := (⟨kk, tg, lb⟩ : CA)) hO3, F3, HE5⟩
            case measure => simp [intOf]; omega
          · have dk : decide (kk < 2) = false := by simpa using hk2
            have K2 : Hid (2 ≤ kk) := (by omega : 2 ≤ kk)
            clear hk2
            go_wp2_with fail
            have hMX := hM2
            have TX := hTX
            have DX := hDX
            clear hM2 hTX hDX
            generalize w2.alloc (.cells #[.int .i64 kk, .int .u32 0, .int .u32 0] 86) = WX at *
            refine (d9u32_t DX).mono ?_
            rintro en w5' ⟨lb, st5, rfl, hlb, f5, t5⟩
            have hM5' := f5.1.other hMX (by simp; omega)
            have T5' := TX.trans f5.1
            have D5' := f5.2
            have TT : Hid (TieI (runI (clauseR l) (.ok q)) ⟨kk, 0, lb⟩ st5) := by
              refine TieI.seq R2.out ?_
              simp only [if_neg (show ¬ kk < 2 by have := K2.out; omega)]
              rw [runI_map]
              exact TieI.map _ t5
            have z2 := free_of hM5' 2
            have z2' := cell_of hM5' 2
            simp at z2'
            have hM5 := heap_set hM5' 2 (.int .u32 lb)
            have T5x := T5'.set (p := ⟨MB, 2, none⟩) (Or.inr (by simp; omega)) (.int .u32 lb)
            have T5 := hT2.trans T5x
            have D5 := D2.out.setN T5' D5' MB 2 (by omega) (.int .u32 lb)
            have r5 : RowC w.heap.size (w5'.setCell ⟨MB, 2, none⟩ (.int .u32 lb)) (.slice aa acc.length cc) acc := row_turn hr2 T5x (by intro x hx; simp at hx; subst hx; obtain ⟨a1, p1, e1, ho⟩ := D2.out.obj; exact NoT.of ho (by decide))
            simp at hM5
            clear f5 t5 hlb hMX TX DX hM5' T5' D5' T5x hr2 hT2 D2
            go_wp2_with (first
              | with_reducible refine stop_load 86 rfl ?_
              | fail)
            generalize w5'.setCell ⟨MB, 2, none⟩ (.int .u32 lb) = W5 at *
            have q0 := cell_of hM5 0
            have q1 := cell_of hM5 1
            have q2 := cell_of hM5 2
            simp at q0 q1 q2
            unfold Stop
            have F5 : Hid (Fin9 b v l w W5 st5) := ⟨T5, D5⟩
            have W5r : Hid (RowC w.heap.size W5 (.slice aa acc.length cc) acc) := r5
            have hB5 : w.heap.size ≤ W5.heap.size := T5.size
            have HE5 : Hid (ML R (clauseR l) N (acc.length + 1) (acc ++ [⟨kk, 0, lb⟩]) st5) := HE.out.next hkn TT.out
            clear hM5 T5 D5 r5 HE TT
            go_wp2_with (at_builtin; refine wp_app1 (v := .slice aa acc.length cc) (n := acc.length) (cs := acc.flatMap CA.c) (B := w.heap.size) rfl _ _ 34 86 3 16 _ Tryz.underlying34 infoC2 rfl (by decide) (by decide) rfl b rfl rfl W5r.out hB5 rfl (by simp [Value.oneCell']) (by omega) ?_; intro v3 w3 hO3 hT3 hG3)
            have T3 : Hid (Turn [b] w w3) := hT3.turn F5.out.1 (Nat.le_refl _)
            have o3 : w3.heap[b]? = W5.heap[b]? := hG3 b F5.out.2.lt (fun hh => by have := (World.ownsRow.lt W5r.out b hh.symm).1; omega)
            have F3 : Hid (Fin9 b v l w w3 st5) := ⟨T3.out, H.out.of T3.out (F5.out.2.st.same o3)⟩
            clear o3
            go_roundw
            case rel => exact ⟨acc.length + 1, acc ++ [(⟨kk, 0, lb⟩ : CA)], st5, by go_num, by omega, by simp, Nat.le_trans hB5 hT3.size, RowC.snoc (a := (⟨kk, 0, lb⟩ : CA)) hO3, F3, HE5⟩
            case measure => simp [intOf]; omega
      · have d4 : decide ((acc.length : Int) < (N : Int)) = false := by simp; omega
        have d5 : decide (acc.length < N) = false := by simp; omega
        have hN : acc.length = N := by omega
        have HE3 : Hid (TieI R acc stk) := by have := HE.out; rw [hN] at this; exact this.done
        clear hN
        go_wp2_with fail
        go_ret
        exact ⟨_, acc, stk, rfl, WR.out, FR.out, HE3.out⟩
end Go.Proofs.YtohapnninjdlfaaGreatDoor
