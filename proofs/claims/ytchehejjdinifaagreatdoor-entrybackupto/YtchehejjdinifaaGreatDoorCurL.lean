/-
  The plain readings of limits, tables, globals and tags; the walks of the cursor that reads them; no statement is proved here.
-/
import Derived.Test.YtchehejjdinifaaGreatDoorCurF
namespace Go.Proofs.YtchehejjdinifaaGreatDoor
open Go.RowKit
set_option linter.unusedVariables false
set_option linter.unusedSimpArgs false
set_option linter.constructorNameAsVariable false

/- Limits; a table; a global; an extern. -/
structure LM where
  wide : Bool
  mn : Int
  mx : Int
  hm : Bool
structure TT where
  elem : VT
  lim : LM
structure GT where
  ty : VT
  mut_ : Bool
def LM.v (x : LM) : Value := .agg #[.bool x.wide, .int .u64 x.mn, .int .u64 x.mx, .bool x.hm]
def TT.v (x : TT) : Value := .agg #[.int .i64 x.elem.num, .bool x.elem.null, .int .i64 x.elem.heap, .bool x.lim.wide, .int .u64 x.lim.mn, .int .u64 x.lim.mx, .bool x.lim.hm]
def GT.v (x : GT) : Value := .agg #[.int .i64 x.ty.num, .bool x.ty.null, .int .i64 x.ty.heap, .bool x.mut_]
def boundR (wide : Bool) (l : List Int) (p : Nat) : RS Int := if wide then numR 64 false l p else numR 32 false l p
def limsT (wide hm : Bool) (l : List Int) (p : Nat) : RS LM := thenR (boundR wide l p) fun n q => if hm then mapR (fun m => ⟨wide, n, m, hm⟩) (boundR wide l q) else .ok (⟨wide, n, 0, hm⟩, q)
def limsR (l : List Int) (p : Nat) : RS LM := atR l p fun c =>
  if c = 0 then limsT false false l (p + 1) else if c = 1 then limsT false true l (p + 1) else if c = 4 then limsT true false l (p + 1) else if c = 5 then limsT true true l (p + 1) else .error (p, 4)
def tabR (l : List Int) (p : Nat) : RS TT := thenR (refR l p) fun v q => mapR (fun m => ⟨v, m⟩) (limsR l q)
def gloR (l : List Int) (p : Nat) : RS GT := thenR (valR l p) fun v q => mapR (fun m => ⟨v, m⟩) (flagR l q)
def tagR (l : List Int) (p : Nat) : RS Int := thenR (belowR 1 l p) fun _ q => tyU l q
def kindR (l : List Int) (p : Nat) : RS Int := belowR 5 l p
theorem n32_any {w : World} {b : Nat} {v : Value} {l : List Int} {p : Nat} (h : CU w b v l p) :
    Calls Tryz.prog 45 #[.pointer (some ⟨b, 0, none⟩), .func (.func 46) #[] #[]] w (Ans (fun n => .int .u32 n) b v l w (numR 32 false l p)) := numU_any h
theorem num32_bd {l : List Int} {p : Nat} {x : Int} {q : Nat} (hB : Byt l) (hle : p ≤ l.length) (h : numR 32 false l p = .ok (x, q)) : 0 ≤ x ∧ x ≤ 4294967295 := by
  rcases numR_ways (b := 32) (sg := false) hle with ⟨n, q', hr, h1, h2, h3⟩ | ⟨n, f, e, hr, h1, h2, h3, h4⟩
  · rw [h3] at h
    simp only [Except.ok.injEq, Prod.mk.injEq] at h
    have hb := rd_32 hB hr
    omega
  · rw [h4] at h; cases h
set_option maxRecDepth 100000 in
set_option maxHeartbeats 1000000 in
theorem bound_any {w : World} {b : Nat} {v : Value} {l : List Int} {p : Nat} (wide : Bool) (h : CU w b v l p) :
    Calls Tryz.prog 87 #[.pointer (some ⟨b, 0, none⟩), .bool wide] w (Ans (fun n => .int .u64 n) b v l w (boundR wide l p)) := by
  have H : Hid (CU w b v l p) := h
  have hb : b < w.heap.size := h.lt
  have hl := h.len
  have hle := h.le
  have HB : Hid (Byt l) := h.byt
  clear h
  unfold boundR
  cases wide with
  | true =>
    rw [if_pos rfl]
    cases hx : numR 64 false l p with
    | error y =>
      obtain ⟨f, e⟩ := y
      have U0 : Hid (CU w b v l p) := H.out
      have T0 : Hid (Turn [b] w w) := Turn.refl [b] w
      go_enter Tryz.func87, Tryz.ntmps87
      go_wp2_with fail
      refine (Calls.er_of (numW_any U0.out) hx).mono ?_
      rintro en w1 ⟨rfl, t1⟩
      have T1 : Hid (Turn [b] w w1) := T0.out.trans t1
      clear t1
      go_wp2_with fail
      exact ⟨rfl, rfl, T1.out⟩
    | ok y =>
      obtain ⟨x, q⟩ := y
      have U0 : Hid (CU w b v l p) := H.out
      have T0 : Hid (Turn [b] w w) := Turn.refl [b] w
      go_enter Tryz.func87, Tryz.ntmps87
      go_wp2_with fail
      refine (Calls.ok_of (numW_any U0.out) hx).mono ?_
      rintro en w1 ⟨rfl, t1, u1⟩
      have T1 : Hid (Turn [b] w w1) := T0.out.trans t1
      have U1 : Hid (CU w1 b v l q) := u1
      clear t1 u1 T0 U0
      go_wp2_with fail
      go_ret
      exact ⟨by first | rfl | simp, (Fin.mk_ T1.out U1.out)⟩
  | false =>
    rw [if_neg (by decide)]
    cases hx : numR 32 false l p with
    | error y =>
      obtain ⟨f, e⟩ := y
      have U0 : Hid (CU w b v l p) := H.out
      have T0 : Hid (Turn [b] w w) := Turn.refl [b] w
      go_enter Tryz.func87, Tryz.ntmps87
      go_wp2_with fail
      refine (Calls.er_of (n32_any U0.out) hx).mono ?_
      rintro en w1 ⟨rfl, t1⟩
      have T1 : Hid (Turn [b] w w1) := T0.out.trans t1
      clear t1
      go_wp2_with fail
      exact ⟨rfl, rfl, T1.out⟩
    | ok y =>
      obtain ⟨x, q⟩ := y
      have hb32 : 0 ≤ x ∧ x ≤ 4294967295 := num32_bd HB.out hle hx
      have U0 : Hid (CU w b v l p) := H.out
      have T0 : Hid (Turn [b] w w) := Turn.refl [b] w
      go_enter Tryz.func87, Tryz.ntmps87
      go_wp2_with fail
      refine (Calls.ok_of (n32_any U0.out) hx).mono ?_
      rintro en w1 ⟨rfl, t1, u1⟩
      have T1 : Hid (Turn [b] w w1) := T0.out.trans t1
      have U1 : Hid (CU w1 b v l q) := u1
      clear t1 u1 T0 U0
      go_wp2_with fail
      go_ret
      exact ⟨by first | rfl | simp, (Fin.mk_ T1.out U1.out)⟩
set_option maxRecDepth 100000 in
set_option maxHeartbeats 1000000 in
theorem lims_go {w : World} {b : Nat} {v : Value} {l : List Int} {p : Nat} (h : CU w b v l p) (hp : p < l.length) (c : Int) (hc : l.getD p 0 = c) (wide hm : Bool) (ha : (bits .andNot .u8 c 5 != 0) = false) (hw : (bits .and .u8 c 4 != 0) = wide) (hh : (bits .and .u8 c 1 != 0) = hm) :
    Calls Tryz.prog 60 #[.pointer (some ⟨b, 0, none⟩)] w (Ans LM.v b v l w (limsT wide hm l (p + 1))) := by
  have H : Hid (CU w b v l p) := h
  have hb : b < w.heap.size := h.lt
  have hl := h.len
  have hle := h.le
  have P : Hid (∀ w', CU w' b v l p → Calls Tryz.prog 25 #[.pointer (some ⟨b, 0, none⟩)] w' fun en w'' => en = .returned (.int .u8 (l.getD p 0)) ∧ Grew w' w'') := fun w' u => peek_ok u hp
  rw [hc] at P
  clear h hc
  have U0 : Hid (CU (w.alloc (.cells #[.bool false, .int .u64 0, .int .u64 0, .bool false] 29)) b v l p) := H.out.grew ((Grew.refl w).alloc _)
  have T0 : Hid (Turn [b] w (w.alloc (.cells #[.bool false, .int .u64 0, .int .u64 0, .bool false] 29))) := (Turn.refl [b] w).alloc _
  have N0 : Hid ((w.alloc (.cells #[.bool false, .int .u64 0, .int .u64 0, .bool false] 29)).heap[w.heap.size]? = some (.cells #[.bool false, .int .u64 0, .int .u64 0, .bool false] 29 (0, 0))) := heap_alloc_last _ _
  go_enter Tryz.func60, Tryz.ntmps60
  go_wp2_with fail
  refine (P.out _ U0.out).mono ?_
  rintro en w1 ⟨rfl, g1⟩
  have T1 : Hid (Turn [b] w w1) := T0.out.trans (g1.turn _)
  have U1 : Hid (CU w1 b v l p) := U0.out.grew g1
  have N1 : Hid (w1.heap[w.heap.size]? = some (.cells #[.bool false, .int .u64 0, .int .u64 0, .bool false] 29 (0, 0))) := (g1.turn []).other N0.out (by simp)
  clear g1 T0 U0 N0
  have hs1 : w.heap.size < w1.heap.size := lt_of_obj N1.out
  have c1_1 := U1.out.c1
  have z1_1 := U1.out.z1
  go_wp2_with fail
  generalize hw2 : w1.setCell { block := b, off := 1 } (Value.int IntKind.i64 ((p : Int) + 1)) = w2
  generalize hW : w2.alloc (.cells #[.bool wide, .int .u64 0, .int .u64 0, .bool hm] 29) = W
  have hs : w2.heap.size = w1.heap.size := by rw [← hw2]; simp
  have tW : Turn [b] w2 W := by rw [← hW]; exact (Turn.refl _ _).alloc _
  have gW : Grew w2 W := by rw [← hW]; exact (Grew.refl _).alloc _
  have T3 : Hid (Turn [b] w W) := by refine Turn.trans ?_ tW; rw [← hw2]; exact T1.out.set (Or.inl (by simp)) _
  have u2 : CU w2 b v l (p + 1) := by rw [← hw2]; have := U1.out.set1 (q := p + 1) (by omega); simpa using this
  have U3 : Hid (CU W b v l (p + 1)) := u2.grew gW
  have n2 : w2.heap[w.heap.size]? = some (.cells #[.bool false, .int .u64 0, .int .u64 0, .bool false] 29 (0, 0)) := by rw [← hw2]; exact heap_other N1.out (by simp; omega) _
  have N3 : Hid (W.heap[w.heap.size]? = some (.cells #[.bool false, .int .u64 0, .int .u64 0, .bool false] 29 (0, 0))) := tW.other n2 (by simp; omega)
  have M3 : Hid (W.heap[w1.heap.size]? = some (.cells #[.bool wide, .int .u64 0, .int .u64 0, .bool hm] 29 (0, 0))) := by rw [← hW, ← hs]; exact heap_alloc_last _ _
  clear hw2 hW hs tW gW u2 n2 c1_1 z1_1 T1 U1 N1
  have hb1 : ¬ b = w1.heap.size := by omega
  have hb0 : ¬ b = w.heap.size := by omega
  have h10 : ¬ w1.heap.size = w.heap.size := by omega
  have h01 : ¬ w.heap.size = w1.heap.size := by omega
  generalize hk : w1.heap.size = N at *
  clear hk w1
  have HN : w.heap.size ≤ N := by omega
  cases hx : boundR wide l (p + 1) with
  | error y =>
    obtain ⟨f, e⟩ := y
    have E : limsT wide hm l (p + 1) = .error (f, e) := by unfold limsT; rw [hx]; rfl
    rw [E]
    clear E
    refine (Calls.er_of (bound_any wide U3.out) hx).mono ?_
    rintro en w4 ⟨rfl, t4⟩
    have T4 : Hid (Turn [b] w w4) := T3.out.trans t4
    clear t4
    go_wp2_with fail
    exact ⟨rfl, rfl, T4.out⟩
  | ok y =>
    obtain ⟨n, q⟩ := y
    have HX : Hid (boundR wide l (p + 1) = .ok (n, q)) := hx
    refine (Calls.ok_of (bound_any wide U3.out) hx).mono ?_
    rintro en w4 ⟨rfl, t4, u4⟩
    have T4 : Hid (Turn [b] w w4) := T3.out.trans t4
    have U4 : Hid (CU w4 b v l q) := u4
    have N4 : Hid (w4.heap[w.heap.size]? = some (.cells #[.bool false, .int .u64 0, .int .u64 0, .bool false] 29 (0, 0))) := t4.other N3.out (by simp; omega)
    have M4 : Hid (w4.heap[N]? = some (.cells #[.bool wide, .int .u64 0, .int .u64 0, .bool hm] 29 (0, 0))) := t4.other M3.out (by simp; omega)
    clear t4 u4 T3 U3 N3 M3 hx
    have m0 := cell_of M4.out 0
    have m1 := cell_of M4.out 1
    have m2 := cell_of M4.out 2
    have m3 := cell_of M4.out 3
    have x1 := free_of M4.out 1
    simp at m0 m1 m2 m3
    cases hm with
    | false =>
      have E : Hid (limsT wide false l (p + 1) = .ok (⟨wide, n, 0, false⟩, q)) := by show limsT wide false l (p + 1) = _; unfold limsT; rw [HX.out]; rfl
      have n0 := cell_of N4.out 0
      have n1 := cell_of N4.out 1
      have n2 := cell_of N4.out 2
      have n3 := cell_of N4.out 3
      have y0 := free_of N4.out 0
      have y1 := free_of N4.out 1
      have y2 := free_of N4.out 2
      have y3 := free_of N4.out 3
      simp at n0 n1 n2 n3
      go_wp2_with fail
      refine bodyPost_ret (v := LM.v ⟨wide, n, 0, false⟩) (by simp [results, Tryz.results60, go_sem, LM.v, n0, n1, n2, n3, m0, m1, m2, m3, h10, h01]) rfl ?_
      rw [E.out]
      exact ⟨rfl, (((((Fin.mk_ T4.out U4.out).set H.out HN).set H.out (Nat.le_refl _)).set H.out (Nat.le_refl _)).set H.out (Nat.le_refl _)).set H.out (Nat.le_refl _)⟩
    | true =>
      go_wp2_with fail
      generalize hw5 : w4.setCell { block := N, off := 1 } (Value.int IntKind.u64 n) = w5
      have f5 : Fin b v l w w5 q := by rw [← hw5]; exact (Fin.mk_ T4.out U4.out).set H.out HN
      have T5 : Hid (Turn [b] w w5) := f5.1
      have U5 : Hid (CU w5 b v l q) := f5.2
      have N5 : Hid (w5.heap[w.heap.size]? = some (.cells #[.bool false, .int .u64 0, .int .u64 0, .bool false] 29 (0, 0))) := by rw [← hw5]; exact heap_other N4.out (by simpa using h01) _
      have M5 : Hid (w5.heap[N]? = some (.cells #[.bool wide, .int .u64 n, .int .u64 0, .bool true] 29 (0, 0))) := by rw [← hw5]; exact (heap_set M4.out 1 _).trans rfl
      clear f5 hw5 m0 m1 m2 m3 x1 T4 U4 N4 M4
      cases hy : boundR wide l q with
      | error y =>
        obtain ⟨f, e⟩ := y
        have E : Hid (limsT wide true l (p + 1) = .error (f, e)) := by show limsT wide true l (p + 1) = _; unfold limsT; rw [HX.out]; simp only [thenR, if_true, hy, mapR]
        refine (Calls.er_of (bound_any wide U5.out) hy).mono ?_
        rintro en w6 ⟨rfl, t6⟩
        have T6 : Hid (Turn [b] w w6) := T5.out.trans t6
        clear t6
        go_wp2_with fail
        rw [E.out]
        exact ⟨rfl, rfl, T6.out⟩
      | ok y =>
        obtain ⟨m, r⟩ := y
        have E : Hid (limsT wide true l (p + 1) = .ok (⟨wide, n, m, true⟩, r)) := by show limsT wide true l (p + 1) = _; unfold limsT; rw [HX.out]; simp only [thenR, if_true, hy, mapR]
        refine (Calls.ok_of (bound_any wide U5.out) hy).mono ?_
        rintro en w6 ⟨rfl, t6, u6⟩
        have T6 : Hid (Turn [b] w w6) := T5.out.trans t6
        have U6 : Hid (CU w6 b v l r) := u6
        have N6 : Hid (w6.heap[w.heap.size]? = some (.cells #[.bool false, .int .u64 0, .int .u64 0, .bool false] 29 (0, 0))) := t6.other N5.out (by simp; omega)
        have M6 : Hid (w6.heap[N]? = some (.cells #[.bool wide, .int .u64 n, .int .u64 0, .bool true] 29 (0, 0))) := t6.other M5.out (by simp; omega)
        clear t6 u6 T5 U5 N5 M5 hy
        have m0 := cell_of M6.out 0
        have m1 := cell_of M6.out 1
        have m2 := cell_of M6.out 2
        have m3 := cell_of M6.out 3
        have x2 := free_of M6.out 2
        simp at m0 m1 m2 m3
        have n0 := cell_of N6.out 0
        have n1 := cell_of N6.out 1
        have n2 := cell_of N6.out 2
        have n3 := cell_of N6.out 3
        have y0 := free_of N6.out 0
        have y1 := free_of N6.out 1
        have y2 := free_of N6.out 2
        have y3 := free_of N6.out 3
        simp at n0 n1 n2 n3
        go_wp2_with fail
        refine bodyPost_ret (v := LM.v ⟨wide, n, m, true⟩) (by simp [results, Tryz.results60, go_sem, LM.v, n0, n1, n2, n3, m0, m1, m2, m3, h10, h01]) rfl ?_
        rw [E.out]
        exact ⟨rfl, (((((Fin.mk_ T6.out U6.out).set H.out HN).set H.out (Nat.le_refl _)).set H.out (Nat.le_refl _)).set H.out (Nat.le_refl _)).set H.out (Nat.le_refl _)⟩
theorem bits_no : ∀ k : _root_.Fin 256, k.val ≠ 0 → k.val ≠ 1 → k.val ≠ 4 → k.val ≠ 5 → (bits .andNot .u8 (k.val : Int) 5 != 0) = true := by decide +kernel
set_option maxRecDepth 100000 in
set_option maxHeartbeats 1000000 in
theorem limits_any {w : World} {b : Nat} {v : Value} {l : List Int} {p : Nat} (h : CU w b v l p) :
    Calls Tryz.prog 60 #[.pointer (some ⟨b, 0, none⟩)] w (Ans LM.v b v l w (limsR l p)) := by
  by_cases hp : p < l.length
  · unfold limsR
    rw [atR_in hp]
    by_cases h0 : l.getD p 0 = 0
    · rw [if_pos h0]; exact lims_go h hp 0 h0 false false (by decide) (by decide) (by decide)
    rw [if_neg h0]
    by_cases h1 : l.getD p 0 = 1
    · rw [if_pos h1]; exact lims_go h hp 1 h1 false true (by decide) (by decide) (by decide)
    rw [if_neg h1]
    by_cases h4 : l.getD p 0 = 4
    · rw [if_pos h4]; exact lims_go h hp 4 h4 true false (by decide) (by decide) (by decide)
    rw [if_neg h4]
    by_cases h5 : l.getD p 0 = 5
    · rw [if_pos h5]; exact lims_go h hp 5 h5 true true (by decide) (by decide) (by decide)
    rw [if_neg h5]
    have hby := h.byt p
    have ha : (bits .andNot .u8 (l.getD p 0) 5 != 0) = true := by
      obtain ⟨k, hk⟩ : ∃ k : Nat, l.getD p 0 = k := ⟨(l.getD p 0).toNat, by omega⟩
      rw [hk] at h0 h1 h4 h5 hby ⊢
      exact bits_no ⟨k, by omega⟩ (by simp; omega) (by simp; omega) (by simp; omega) (by simp; omega)
    have H : Hid (CU w b v l p) := h
    have hb : b < w.heap.size := h.lt
    have P : Hid (∀ w', CU w' b v l p → Calls Tryz.prog 25 #[.pointer (some ⟨b, 0, none⟩)] w' fun en w'' => en = .returned (.int .u8 (l.getD p 0)) ∧ Grew w' w'') := fun w' u => peek_ok u hp
    generalize l.getD p 0 = c at *
    clear h h0 h1 h4 h5 hby
    have U0 : Hid (CU (w.alloc (.cells #[.bool false, .int .u64 0, .int .u64 0, .bool false] 29)) b v l p) := H.out.grew ((Grew.refl w).alloc _)
    have T0 : Hid (Turn [b] w (w.alloc (.cells #[.bool false, .int .u64 0, .int .u64 0, .bool false] 29))) := (Turn.refl [b] w).alloc _
    have N0 : Hid ((w.alloc (.cells #[.bool false, .int .u64 0, .int .u64 0, .bool false] 29)).heap[w.heap.size]? = some (.cells #[.bool false, .int .u64 0, .int .u64 0, .bool false] 29 (0, 0))) := heap_alloc_last _ _
    go_enter Tryz.func60, Tryz.ntmps60
    go_wp2_with fail
    refine (P.out _ U0.out).mono ?_
    rintro en w1 ⟨rfl, g1⟩
    have T1 : Hid (Turn [b] w w1) := T0.out.trans (g1.turn _)
    have U1 : Hid (CU w1 b v l p) := U0.out.grew g1
    have N1 : Hid (w1.heap[w.heap.size]? = some (.cells #[.bool false, .int .u64 0, .int .u64 0, .bool false] 29 (0, 0))) := (g1.turn []).other N0.out (by simp)
    clear g1 T0 U0 N0
    have c1_1 := U1.out.c1
    go_wp2_with fail
    refine (giveUp_any _ 4 _).mono ?_
    rintro en w9 ⟨rfl, h9⟩
    obtain rfl := h9.symm
    go_wp2_with fail
    exact ⟨rfl, rfl, T1.out⟩
  · have H : Hid (CU w b v l p) := h
    have hb : b < w.heap.size := h.lt
    clear h
    have hr : limsR l p = .error (p, 3) := by unfold limsR; exact atR_no hp
    rw [hr]
    clear hr
    have U0 : Hid (CU (w.alloc (.cells #[.bool false, .int .u64 0, .int .u64 0, .bool false] 29)) b v l p) := H.out.grew ((Grew.refl w).alloc _)
    have T0 : Hid (Turn [b] w (w.alloc (.cells #[.bool false, .int .u64 0, .int .u64 0, .bool false] 29))) := (Turn.refl [b] w).alloc _
    have N0 : Hid ((w.alloc (.cells #[.bool false, .int .u64 0, .int .u64 0, .bool false] 29)).heap[w.heap.size]? = some (.cells #[.bool false, .int .u64 0, .int .u64 0, .bool false] 29 (0, 0))) := heap_alloc_last _ _
    go_enter Tryz.func60, Tryz.ntmps60
    go_wp2_with fail
    refine (peek_no U0.out hp).mono ?_
    rintro en w1 ⟨rfl, g1⟩
    have T1 : Hid (Turn [b] w w1) := T0.out.trans (g1.turn _)
    clear g1
    go_wp2_with fail
    exact ⟨rfl, rfl, T1.out⟩
end Go.Proofs.YtchehejjdinifaaGreatDoor
