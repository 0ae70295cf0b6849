/-
  The walks of the reader's ref and val; no statement is proved here.
-/
import Derived.Test.YtmcljnohdknpoaaDoorHeap
namespace Go.Proofs.YtmcljnohdknpoaaDoor
open Go.RowKit
set_option linter.unusedVariables false
set_option linter.unusedSimpArgs false
set_option linter.constructorNameAsVariable false

/- A value type. -/
structure VT where
  num : Int
  null : Bool
  heap : Int
def VT.v (x : VT) : Value := vt x.num x.null x.heap
def LP : ByteArray := ⟨#[40]⟩
def RP : ByteArray := ⟨#[41]⟩
def WREF : ByteArray := ⟨#[114, 101, 102]⟩
def WNULL : ByteArray := ⟨#[110, 117, 108, 108]⟩
/- A word that must come next. -/
def takeS (s x : ByteArray) (p : Nat) : Except Nat (Unit × Nat) := if tk s p = x then .ok ((), nx s p) else .error p
def nullS (s : ByteArray) (p : Nat) : Nat := if tk s p = WNULL then nx s p else p
def refS (s : ByteArray) (p : Nat) : Except Nat (VT × Nat) :=
  if tk s p = WREF then
    match heapS s (nullS s (nx s p)) with
    | .error f => .error f
    | .ok (h, q) => if tk s q = RP then .ok (⟨5, decide (tk s (nx s p) = WNULL), h⟩, nx s q) else .error q
  else .error p
def numS (s : ByteArray) (p : Nat) : Except Nat (VT × Nat) := match numIdx (tk s p) with
  | some m => .ok (⟨m, false, 0⟩, nx s p)
  | none => .error p
def valS (s : ByteArray) (p : Nat) : Except Nat (VT × Nat) := if tk s p = LP then refS s (nx s p) else numS s p
theorem num_any {w : World} {b : Nat} {s : ByteArray} {p : Nat} (h : RD w b s p) (hs : s.size ≤ 65536) (he : Env w) :
    Calls Tryd.prog 40 #[.pointer (some ⟨b, 0, none⟩)] w (Ans VT.v b s w (numS s p)) := by
  unfold numS
  cases hn : numIdx (tk s p) with
  | some m => exact num_ok h hs he.tabs hn
  | none => exact (num_bad h hs he.tabs hn).mono fun en w' ⟨h1, h2⟩ => ⟨h1, h2.turn _⟩
def ub (_ : Unit) : Value := .tuple #[]
theorem take_any {w : World} {b : Nat} {s : ByteArray} {p : Nat} (h : RD w b s p) (hs : s.size ≤ 65536) (x : ByteArray) :
    Calls Tryd.prog 37 #[.pointer (some ⟨b, 0, none⟩), .string x] w (Ans ub b s w (takeS s x p)) := by
  unfold takeS
  split
  · rename_i hx
    exact take_yes h hs x hx
  · rename_i hx
    exact (take_no h x hx).mono fun en w' ⟨h1, h2⟩ => ⟨h1, by rw [h2]; exact Turn.refl _ _⟩
/- A word that is passed if it comes next. -/
theorem skip_any {w : World} {b : Nat} {s : ByteArray} {p : Nat} (h : RD w b s p) (hs : s.size ≤ 65536) (x : ByteArray) :
    Calls Tryd.prog 38 #[.pointer (some ⟨b, 0, none⟩), .string x] w fun en w' => en = .returned (.bool (decide (tk s p = x))) ∧ Turn [b] w w' ∧ RD w' b s (if tk s p = x then nx s p else p) := by
  by_cases hx : tk s p = x
  · rw [if_pos hx, decide_eq_true hx]
    exact skip_yes h hs x hx
  · rw [if_neg hx, decide_eq_false hx]
    exact (skip_no h x hx).mono fun en w' ⟨h1, h2⟩ => ⟨h1, by rw [h2]; exact Turn.refl _ _, by rw [h2]; exact h⟩
set_option maxRecDepth 100000 in
set_option maxHeartbeats 2000000 in
theorem ref_any {w : World} {b : Nat} {s : ByteArray} {p : Nat} (h : RD w b s p) (hs : s.size ≤ 65536) (he : Env w) (hb8 : 8 ≤ b) :
    Calls Tryd.prog 39 #[.pointer (some ⟨b, 0, none⟩)] w (Ans VT.v b s w (refS s p)) := by
  have hb : b < w.heap.size := lt_of_obj h.1
  have HR : Hid (RD (w.alloc (.cells #[.int .i64 0, .bool false, .int .i64 0] 23)) b s p) := h.grew ((Grew.refl w).alloc _)
  have HE : Hid (Env w) := he
  have hx : ∀ N, w.heap.size ≤ N → N ≠ b := by intro N hN hb'; omega
  clear h he
  by_cases h1 : tk s p = WREF
  · have C := take_yes HR.out hs WREF h1
    obtain ⟨R, hR⟩ : ∃ R, R = refS s p := ⟨_, rfl⟩
    rw [← hR]
    have HS : Hid (R = match heapS s (nullS s (nx s p)) with
      | .error f => .error f
      | .ok (h, q) => if tk s q = RP then .ok (⟨5, decide (tk s (nx s p) = WNULL), h⟩, nx s q) else .error q) := by rw [hR]; unfold refS; rw [if_pos h1]; exact rfl
    clear hR h1
    go_enter Tryd.func39, Tryd.ntmps39
    go_wp2_with fail
    refine C.mono ?_
    rintro en w1 ⟨rfl, t1, r1⟩
    have T1 : Hid (Turn [b] w w1) := ((Turn.refl [b] w).alloc _).trans t1
    have hN1 : w1.heap[w.heap.size]? = some (.cells #[.int .i64 0, .bool false, .int .i64 0] 23 (0, 0)) := t1.other (heap_alloc_last _ _) (by simp; omega)
    have HN1 : Hid (w1.heap[w.heap.size]? = some (.cells #[.int .i64 0, .bool false, .int .i64 0] 23 (0, 0))) := hN1
    have R1 : Hid (RD w1 b s (nx s p)) := r1
    clear t1 r1 C HR hN1
    go_wp2_with fail
    have hle1 := T1.out.size
    have hlt1 : w.heap.size < w1.heap.size := lt_of_obj HN1.out
    have T1a : Hid (Turn [b] w (w1.alloc (.cells #[.int .i64 5, .bool false, .int .i64 0] 23))) := T1.out.alloc _
    have hM1 : (w1.alloc (.cells #[.int .i64 5, .bool false, .int .i64 0] 23)).heap[w1.heap.size]? = some (.cells #[.int .i64 5, .bool false, .int .i64 0] 23 (0, 0)) := heap_alloc_last _ _
    have hN1a := heap_alloc HN1.out (.cells #[.int .i64 5, .bool false, .int .i64 0] 23)
    refine (skip_any (R1.out.grew ((Grew.refl w1).alloc _)) hs WNULL).mono ?_
    rintro en w2 ⟨rfl, t2, r2⟩
    have R2 : Hid (RD w2 b s (nullS s (nx s p))) := r2
    have T2 : Hid (Turn [b] w w2) := T1a.out.trans t2
    have hM2 := t2.other hM1 (by simp; omega)
    have hN2 := t2.other hN1a (by simp; omega)
    have HM2 : Hid (w2.heap[w1.heap.size]? = some (.cells #[.int .i64 5, .bool false, .int .i64 0] 23 (0, 0))) := hM2
    have HN2 : Hid (w2.heap[w.heap.size]? = some (.cells #[.int .i64 0, .bool false, .int .i64 0] 23 (0, 0))) := hN2
    have c1 := cell_of hM2 1
    have z1 := free_of hM2 1
    simp at c1
    clear t2 r2 hM1 hN1a hM2 hN2 T1a HN1 R1
    generalize decide (tk s (nx s p) = WNULL) = nul at *
    go_wp2_with fail
    generalize hw3 : w2.setCell { block := w1.heap.size, off := 1 } (Value.bool nul) = w3
    have T3 : Hid (Turn [b] w w3) := by rw [← hw3]; exact T2.out.set (p := ⟨w1.heap.size, 1, none⟩) (Or.inr hle1) _
    have R3 : Hid (RD w3 b s (nullS s (nx s p))) := by rw [← hw3]; exact R2.out.set (q := ⟨w1.heap.size, 1, none⟩) (by simp; omega) _
    have HM3 : Hid (w3.heap[w1.heap.size]? = some (.cells #[.int .i64 5, .bool nul, .int .i64 0] 23 (0, 0))) := by rw [← hw3, heap_set HM2.out]; rfl
    have HN3 : Hid (w3.heap[w.heap.size]? = some (.cells #[.int .i64 0, .bool false, .int .i64 0] 23 (0, 0))) := by rw [← hw3]; exact heap_other HN2.out (by simp; omega) _
    clear c1 z1 hw3
    have E3 := HE.out.turn T3.out (by intro g hg; simp at hg; omega)
    have D := heap_any R3.out hs E3
    refine D.mono ?_
    intro en w4 A4
    cases hr : heapS s (nullS s (nx s p)) with
    | error f =>
      rw [hr] at A4 HS
      obtain ⟨rfl, t4⟩ := A4
      have HS' : Hid (R = .error f) := HS.out
      clear D E3 hr HS
      go_wp2_with fail
      exact ⟨rfl, by rw [HS'.out]; exact ⟨rfl, T3.out.trans t4⟩⟩
    | ok x =>
      obtain ⟨h, q⟩ := x
      rw [hr] at A4 HS
      obtain ⟨rfl, t4, r4⟩ := A4
      have HS' : Hid (R = if tk s q = RP then .ok (⟨5, nul, h⟩, nx s q) else .error q) := HS.out
      have hM4 := t4.other HM3.out (by simp; omega)
      have HM4 : Hid (w4.heap[w1.heap.size]? = some (.cells #[.int .i64 5, .bool nul, .int .i64 0] 23 (0, 0))) := hM4
      have HN4 : Hid (w4.heap[w.heap.size]? = some (.cells #[.int .i64 0, .bool false, .int .i64 0] 23 (0, 0))) := t4.other HN3.out (by simp; omega)
      have T4 : Hid (Turn [b] w w4) := T3.out.trans t4
      have R4 : Hid (RD w4 b s q) := r4
      have c2 := cell_of hM4 2
      have z2 := free_of hM4 2
      simp at c2
      clear D E3 hr HS t4 r4 hM4
      unfold iv
      go_wp2_with fail
      generalize hw5 : w4.setCell { block := w1.heap.size, off := 2 } (Value.int .i64 h) = w5
      have T5 : Hid (Turn [b] w w5) := by rw [← hw5]; exact T4.out.set (p := ⟨w1.heap.size, 2, none⟩) (Or.inr hle1) _
      have R5 : Hid (RD w5 b s q) := by rw [← hw5]; exact R4.out.set (q := ⟨w1.heap.size, 2, none⟩) (by simp; omega) _
      have HM5 : Hid (w5.heap[w1.heap.size]? = some (.cells #[.int .i64 5, .bool nul, .int .i64 h] 23 (0, 0))) := by rw [← hw5, heap_set HM4.out]; rfl
      have HN5 : Hid (w5.heap[w.heap.size]? = some (.cells #[.int .i64 0, .bool false, .int .i64 0] 23 (0, 0))) := by rw [← hw5]; exact heap_other HN4.out (by simp; omega) _
      clear c2 z2 hw5
      by_cases hq : tk s q = RP
      · rw [if_pos hq] at HS'
        refine (take_yes R5.out hs RP hq).mono ?_
        rintro en w6 ⟨rfl, t6, r6⟩
        have hM6 := t6.other HM5.out (by simp; omega)
        have T6 : Hid (Turn [b] w w6) := T5.out.trans t6
        have R6 : Hid (RD w6 b s (nx s q)) := r6
        have hN6 := t6.other HN5.out (by simp; omega)
        have m0 := cell_of hM6 0
        have m1 := cell_of hM6 1
        have m2 := cell_of hM6 2
        have c0 := cell_of hN6 0
        have c1 := cell_of hN6 1
        have c2 := cell_of hN6 2
        have z0 := free_of hN6 0
        have z1 := free_of hN6 1
        have z2 := free_of hN6 2
        simp at m0 m1 m2 c0 c1 c2
        clear t6 r6 hM6 hN6
        go_wp2_with fail
        refine bodyPost_ret (v := vt 5 nul h) (by simp [results, Tryd.results39, go_sem, vt, c0, c1, c2]) rfl ?_
        rw [HS'.out]
        exact ⟨rfl, T6.out.set3 _ (Nat.le_refl _) _ _ _, R6.out.set3 _ (by omega) _ _ _⟩
      · rw [if_neg hq] at HS'
        refine (take_no R5.out RP hq).mono ?_
        rintro en w6 ⟨rfl, h6⟩
        obtain rfl := h6.symm
        go_wp2_with fail
        exact ⟨rfl, by rw [HS'.out]; exact ⟨rfl, T5.out⟩⟩
  · have C := take_no HR.out WREF h1
    have hS : refS s p = .error p := by unfold refS; rw [if_neg h1]
    rw [hS]
    clear hS h1
    go_enter Tryd.func39, Tryd.ntmps39
    go_wp2_with fail
    refine C.mono ?_
    rintro en w1 ⟨rfl, h1⟩
    obtain rfl := h1.symm
    go_wp2_with fail
    exact ⟨rfl, rfl, (Turn.refl [b] w).alloc _⟩
set_option maxRecDepth 100000 in
theorem val_any {w : World} {b : Nat} {s : ByteArray} {p : Nat} (h : RD w b s p) (hs : s.size ≤ 65536) (he : Env w) (hb8 : 8 ≤ b) :
    Calls Tryd.prog 22 #[.pointer (some ⟨b, 0, none⟩)] w (Ans VT.v b s w (valS s p)) := by
  have hb : b < w.heap.size := lt_of_obj h.1
  have R0 : Hid (RD (w.alloc (.cells #[.int .i64 0, .bool false, .int .i64 0] 23)) b s p) := h.grew ((Grew.refl w).alloc _)
  have HE : Hid (Env w) := he
  have T0 : Hid (Turn [b] w (w.alloc (.cells #[.int .i64 0, .bool false, .int .i64 0] 23))) := (Turn.refl [b] w).alloc _
  have HN0 : Hid ((w.alloc (.cells #[.int .i64 0, .bool false, .int .i64 0] 23)).heap[w.heap.size]? = some (.cells #[.int .i64 0, .bool false, .int .i64 0] 23 (0, 0))) := heap_alloc_last _ _
  clear h he
  by_cases h1 : tk s p = LP
  · have C := skip_yes R0.out hs LP h1
    have hS : valS s p = refS s (nx s p) := by unfold valS; rw [if_pos h1]
    rw [hS]
    obtain ⟨R, hR⟩ : ∃ R, R = refS s (nx s p) := ⟨_, rfl⟩
    rw [← hR]
    have HS : Hid (R = refS s (nx s p)) := hR
    clear hS h1 hR
    go_enter Tryd.func22, Tryd.ntmps22
    go_wp2_with fail
    refine C.mono ?_
    rintro en w1 ⟨rfl, t1, r1⟩
    have T1 : Hid (Turn [b] w w1) := T0.out.trans t1
    have HN1 : Hid (w1.heap[w.heap.size]? = some (.cells #[.int .i64 0, .bool false, .int .i64 0] 23 (0, 0))) := t1.other HN0.out (by simp; omega)
    have D := ref_any r1 hs (HE.out.turn T1.out (by intro g hg; simp at hg; omega)) hb8
    rw [← HS.out] at D
    clear t1 r1 C
    go_wp2_with fail
    refine D.mono ?_
    intro en w2 A2
    cases R with
    | error f =>
      obtain ⟨rfl, t2⟩ := A2
      clear D
      go_wp2_with fail
      exact ⟨rfl, rfl, T1.out.trans t2⟩
    | ok x =>
      obtain ⟨⟨n, nul, h⟩, q⟩ := x
      obtain ⟨rfl, t2, r2⟩ := A2
      have hN2 := t2.other HN1.out (by simp; omega)
      have c0 := cell_of hN2 0
      have c1 := cell_of hN2 1
      have c2 := cell_of hN2 2
      have z0 := free_of hN2 0
      have z1 := free_of hN2 1
      have z2 := free_of hN2 2
      simp at c0 c1 c2
      have T2 : Hid (Turn [b] w w2) := T1.out.trans t2
      have R2 : Hid (RD w2 b s q) := r2
      clear D t2 r2 hN2
      unfold VT.v vt
      go_wp2_with fail
      refine bodyPost_ret (v := vt n nul h) (by simp [results, Tryd.results22, go_sem, vt, c0, c1, c2]) rfl ?_
      exact ⟨rfl, T2.out.set3 _ (Nat.le_refl _) _ _ _, R2.out.set3 _ (by omega) _ _ _⟩
  · have C := skip_no R0.out LP h1
    have hS : valS s p = numS s p := by unfold valS; rw [if_neg h1]
    rw [hS]
    obtain ⟨R, hR⟩ : ∃ R, R = numS s p := ⟨_, rfl⟩
    rw [← hR]
    have HS : Hid (R = numS s p) := hR
    clear hS h1 hR
    have D := num_any R0.out hs (HE.out.grew ((Grew.refl w).alloc _))
    rw [← HS.out] at D
    go_enter Tryd.func22, Tryd.ntmps22
    go_wp2_with fail
    refine C.mono ?_
    rintro en w1 ⟨rfl, h1⟩
    obtain rfl := h1.symm
    clear C
    go_wp2_with fail
    refine D.mono ?_
    intro en w2 A2
    cases R with
    | error f =>
      obtain ⟨rfl, t2⟩ := A2
      clear D
      go_wp2_with fail
      exact ⟨rfl, rfl, T0.out.trans t2⟩
    | ok x =>
      obtain ⟨⟨n, nul, h⟩, q⟩ := x
      obtain ⟨rfl, t2, r2⟩ := A2
      have hN2 := t2.other HN0.out (by simp; omega)
      have c0 := cell_of hN2 0
      have c1 := cell_of hN2 1
      have c2 := cell_of hN2 2
      have z0 := free_of hN2 0
      have z1 := free_of hN2 1
      have z2 := free_of hN2 2
      simp at c0 c1 c2
      have T2 : Hid (Turn [b] w w2) := T0.out.trans t2
      have R2 : Hid (RD w2 b s q) := r2
      clear D t2 r2 hN2
      unfold VT.v vt
      go_wp2_with fail
      refine bodyPost_ret (v := vt n nul h) (by simp [results, Tryd.results22, go_sem, vt, c0, c1, c2]) rfl ?_
      exact ⟨rfl, T2.out.set3 _ (Nat.le_refl _) _ _ _, R2.out.set3 _ (by omega) _ _ _⟩
end Go.Proofs.YtmcljnohdknpoaaDoor
