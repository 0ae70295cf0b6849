/-
  The document's PutTag; no statement is proved here.
-/
import Derived.Test.YtbhbogfdnaadeaaDoorDwA
import Derived.ArgAppend
namespace Go.Proofs.YtbhbogfdnaadeaaDoor
open Go.RowKit
set_option linter.unusedVariables false
set_option linter.unusedSimpArgs false
set_option linter.constructorNameAsVariable false

def noneB (v : VT) : Bool := v.num == 0 && (v.null == false && v.heap == 0)
def blkW (t : Int) (v : VT) : Except Nat (List Int) := if t = -1 then (if noneB v = true then .ok [64] else valW v) else if noneB v = true then sidxW t else .error 4
/- A new row of bytes stored in the place of nothing. -/
theorem dw_set {b B : Nat} {w w6 : World} {st : Except Nat (List Int)} {N : Nat} {u : Value} {m : List Int} (h : DW b B w st N) (hst : st = .ok [] ∨ ∃ k, st = .error k) (g : Grew w w6) (hu : w6.ownsRow B 5 1 u m.length (U8 m)) :
    WT b B w (w6.setCell ⟨b, 0, none⟩ u) ∧ DW b B (w6.setCell ⟨b, 0, none⟩ u) (thenW st (.ok m)) (N + m.length) := by
  obtain ⟨o, e, l, h1, h2, h3, h4⟩ := h.ex
  have o6 : w6.heap[b]? = some (dob o e) := (g.turn []).other h1 (by simp)
  have t : WT b B w (w6.setCell ⟨b, 0, none⟩ u) := (WT.of_grew g).trans (WT.setb w6 0 u)
  refine ⟨t, ⟨u, e, m, by rw [heap_set o6]; rfl, row_set hu (NoT.of o6 (by decide)) _, by omega, ?_⟩, h.lt, Nat.le_trans h.le t.size⟩
  rcases hst with rfl | ⟨k, rfl⟩
  · exact ⟨by simp, h4.2⟩
  · exact h4
theorem need_st (ok : Bool) : thenW (.ok []) (needW ok 4) = .ok [] ∨ ∃ k, thenW (.ok []) (needW ok 4) = .error k := by
  cases ok
  · exact Or.inr ⟨4, rfl⟩
  · exact Or.inl rfl
set_option maxRecDepth 100000 in
set_option maxHeartbeats 2000000 in
theorem blk_a (w : World) (t n hp : Int) (nul : Bool) (ht0 : -9223372036854775808 ≤ t) (ht1 : t ≤ 9223372036854775807) (hn0 : -9223372036854775808 ≤ hp) (hn1 : hp ≤ 9223372036854775807) (hz : noneB ⟨n, nul, hp⟩ = true) (h0 : 0 ≤ t) (h1 : t ≤ 2147483647) :
    Calls Tryd.prog 12 #[.agg #[.int .i64 t, .int .i64 n, .bool nul, .int .i64 hp]] w (PAns w (blkW t ⟨n, nul, hp⟩)) := by
  obtain ⟨R, hR⟩ : ∃ R, R = blkW t ⟨n, nul, hp⟩ := ⟨_, rfl⟩
  rw [← hR]
  have E : Hid (thenW (thenW (.ok []) (needW true 4)) (.ok (PS t)) = R) := by
    show _ = _
    rw [hR]
    rw [thenW_yes, thenW_l, blkW, if_neg (by omega), if_pos hz, sidxW, if_pos (by omega)]
  clear hR
  have d0 : decide (0 ≤ t) = true := by simpa using h0
  have d1 : decide (t < 2147483648) = true := by simp; omega
  have hnb := hz
  have S0 : Hid (DW (w.heap.size + 1) (w.heap.size + 1 + 1) ((w.alloc (.cells #[.int .i64 t, .int .i64 n, .bool nul, .int .i64 hp] 25)).alloc (.cells #[.slice none 0 0, .int .i64 0] 79)) (.ok []) 0) := by
    have := dw_new (w.alloc (.cells #[.int .i64 t, .int .i64 n, .bool nul, .int .i64 hp] 25))
    rw [alloc_size] at this
    exact this
  have G0 : Hid (Grew w ((w.alloc (.cells #[.int .i64 t, .int .i64 n, .bool nul, .int .i64 hp] 25)).alloc (.cells #[.slice none 0 0, .int .i64 0] 79))) := ((Grew.refl w).alloc _).alloc _
  have hbx : Hid (((w.alloc (.cells #[.int .i64 t, .int .i64 n, .bool nul, .int .i64 hp] 25)).alloc (.cells #[.slice none 0 0, .int .i64 0] 79)).heap[w.heap.size]? = some (.cells #[.int .i64 t, .int .i64 n, .bool nul, .int .i64 hp] 25 (0, 0))) := heap_alloc (heap_alloc_last w _) _
  have hnP : w.heap.size ≠ w.heap.size + 1 := by omega
  have heq := eqV n 0 hp 0 nul false
  have hE : Hid (noneB ⟨n, nul, hp⟩ = (n == 0 && (nul == false && hp == 0))) := rfl
  rw [← hE.out] at heq
  generalize noneB ⟨n, nul, hp⟩ = nb at *
  clear hE
  go_enter Tryd.func12, Tryd.ntmps12
  go_wp2_with fail
  refine (must_any S0.out true 4 (by decide)).mono ?_
  rintro en w1 ⟨rfl, t1, s1⟩
  have G1 : Hid (Grew w w1) := t1.grew0 G0.out (by omega) (by omega)
  have S1 : Hid (DW (w.heap.size + 1) (w.heap.size + 1 + 1) w1 (thenW (.ok []) (needW true 4)) 0) := s1
  have bx1 : w1.heap[w.heap.size]? = some (.cells #[.int .i64 t, .int .i64 n, .bool nul, .int .i64 hp] 25 (0, 0)) := t1.other hbx.out hnP (NoT.of hbx.out (by decide))
  have f0 := cell_of bx1 0
  simp at f0
  clear t1 s1 hbx S0 bx1
  go_wp2_with fail
  refine (refPutS_any t _ ht0 ht1).mono ?_
  rintro en w6 ⟨u6, rfl, h6⟩
  have G6 : Hid (Grew w1 w6) := h6.gr
  have V6 := dw_set S1.out (need_st true) h6.gr (row_low h6.1 S1.out.le)
  have O6 : w6.heap[w.heap.size + 1]? = w1.heap[w.heap.size + 1]? := h6.2.1.block _ S1.out.blt
  obtain ⟨o1, e1, l1, q1, _, _, _⟩ := S1.out.ex
  rw [q1] at O6
  have x6 := cell_of O6 0
  have z6 := free_of O6 0
  simp at x6
  obtain ⟨ua6, uc6, hu6⟩ := h6.reads.len
  subst hu6
  have HV6 : Hid (WT (w.heap.size + 1) (w.heap.size + 1 + 1) w1 (w6.setCell ⟨w.heap.size + 1, 0, none⟩ (.slice ua6 (PS t).length uc6)) ∧ DW (w.heap.size + 1) (w.heap.size + 1 + 1) (w6.setCell ⟨w.heap.size + 1, 0, none⟩ (.slice ua6 (PS t).length uc6)) (thenW (thenW (.ok []) (needW true 4)) (.ok (PS t))) (0 + (PS t).length)) := V6
  clear V6 h6 q1 O6
  generalize PS t = P at *
  go_wp2_with fail
  have s9 := HV6.out.2
  rw [E.out] at s9
  have D := done_any s9 (HV6.out.1.grew0 G1.out (by omega) (by omega)) (by omega)
  clear s9 E
  skip
  refine D.mono ?_
  intro en w9 ha
  cases R with
  | error e =>
    obtain ⟨rfl, g2⟩ := ha
    have G2 : Hid (Grew w w9) := g2
    clear g2 D
    go_wp2_with fail
    go_ret2
    exact ⟨rfl, G2.out⟩
  | ok m =>
    obtain ⟨rv, rfl, r2, g2⟩ := ha
    have F2 : Hid (w9.ownsRow w.heap.size 5 1 rv m.length (U8 m) ∧ Grew w w9) := ⟨r2, g2⟩
    obtain ⟨ra, rc, rfl⟩ := row_one r2
    clear r2 g2 D
    go_wp2_with fail
    go_ret2
    exact ⟨_, rfl, F2.out⟩
set_option maxRecDepth 100000 in
set_option maxHeartbeats 2000000 in
theorem blk_b (w : World) (t n hp : Int) (nul : Bool) (ht0 : -9223372036854775808 ≤ t) (ht1 : t ≤ 9223372036854775807) (hn0 : -9223372036854775808 ≤ hp) (hn1 : hp ≤ 9223372036854775807) (hz : noneB ⟨n, nul, hp⟩ = true) (h0 : 0 ≤ t) (h1 : 2147483647 < t) :
    Calls Tryd.prog 12 #[.agg #[.int .i64 t, .int .i64 n, .bool nul, .int .i64 hp]] w (PAns w (blkW t ⟨n, nul, hp⟩)) := by
  obtain ⟨R, hR⟩ : ∃ R, R = blkW t ⟨n, nul, hp⟩ := ⟨_, rfl⟩
  rw [← hR]
  have E : Hid (thenW (thenW (.ok []) (needW false 4)) (.ok (PS t)) = R) := by
    show _ = _
    rw [hR]
    rw [thenW_no, thenW_l, blkW, if_neg (by omega), if_pos hz, sidxW, if_neg (by omega)]
  clear hR
  have d0 : decide (0 ≤ t) = true := by simpa using h0
  have d1 : decide (t < 2147483648) = false := by simp; omega
  have hnb := hz
  have S0 : Hid (DW (w.heap.size + 1) (w.heap.size + 1 + 1) ((w.alloc (.cells #[.int .i64 t, .int .i64 n, .bool nul, .int .i64 hp] 25)).alloc (.cells #[.slice none 0 0, .int .i64 0] 79)) (.ok []) 0) := by
    have := dw_new (w.alloc (.cells #[.int .i64 t, .int .i64 n, .bool nul, .int .i64 hp] 25))
    rw [alloc_size] at this
    exact this
  have G0 : Hid (Grew w ((w.alloc (.cells #[.int .i64 t, .int .i64 n, .bool nul, .int .i64 hp] 25)).alloc (.cells #[.slice none 0 0, .int .i64 0] 79))) := ((Grew.refl w).alloc _).alloc _
  have hbx : Hid (((w.alloc (.cells #[.int .i64 t, .int .i64 n, .bool nul, .int .i64 hp] 25)).alloc (.cells #[.slice none 0 0, .int .i64 0] 79)).heap[w.heap.size]? = some (.cells #[.int .i64 t, .int .i64 n, .bool nul, .int .i64 hp] 25 (0, 0))) := heap_alloc (heap_alloc_last w _) _
  have hnP : w.heap.size ≠ w.heap.size + 1 := by omega
  have heq := eqV n 0 hp 0 nul false
  have hE : Hid (noneB ⟨n, nul, hp⟩ = (n == 0 && (nul == false && hp == 0))) := rfl
  rw [← hE.out] at heq
  generalize noneB ⟨n, nul, hp⟩ = nb at *
  clear hE
  go_enter Tryd.func12, Tryd.ntmps12
  go_wp2_with fail
  refine (must_any S0.out false 4 (by decide)).mono ?_
  rintro en w1 ⟨rfl, t1, s1⟩
  have G1 : Hid (Grew w w1) := t1.grew0 G0.out (by omega) (by omega)
  have S1 : Hid (DW (w.heap.size + 1) (w.heap.size + 1 + 1) w1 (thenW (.ok []) (needW false 4)) 0) := s1
  have bx1 : w1.heap[w.heap.size]? = some (.cells #[.int .i64 t, .int .i64 n, .bool nul, .int .i64 hp] 25 (0, 0)) := t1.other hbx.out hnP (NoT.of hbx.out (by decide))
  have f0 := cell_of bx1 0
  simp at f0
  clear t1 s1 hbx S0 bx1
  go_wp2_with fail
  refine (refPutS_any t _ ht0 ht1).mono ?_
  rintro en w6 ⟨u6, rfl, h6⟩
  have G6 : Hid (Grew w1 w6) := h6.gr
  have V6 := dw_set S1.out (need_st false) h6.gr (row_low h6.1 S1.out.le)
  have O6 : w6.heap[w.heap.size + 1]? = w1.heap[w.heap.size + 1]? := h6.2.1.block _ S1.out.blt
  obtain ⟨o1, e1, l1, q1, _, _, _⟩ := S1.out.ex
  rw [q1] at O6
  have x6 := cell_of O6 0
  have z6 := free_of O6 0
  simp at x6
  obtain ⟨ua6, uc6, hu6⟩ := h6.reads.len
  subst hu6
  have HV6 : Hid (WT (w.heap.size + 1) (w.heap.size + 1 + 1) w1 (w6.setCell ⟨w.heap.size + 1, 0, none⟩ (.slice ua6 (PS t).length uc6)) ∧ DW (w.heap.size + 1) (w.heap.size + 1 + 1) (w6.setCell ⟨w.heap.size + 1, 0, none⟩ (.slice ua6 (PS t).length uc6)) (thenW (thenW (.ok []) (needW false 4)) (.ok (PS t))) (0 + (PS t).length)) := V6
  clear V6 h6 q1 O6
  generalize PS t = P at *
  go_wp2_with fail
  have s9 := HV6.out.2
  rw [E.out] at s9
  have D := done_any s9 (HV6.out.1.grew0 G1.out (by omega) (by omega)) (by omega)
  clear s9 E
  skip
  refine D.mono ?_
  intro en w9 ha
  cases R with
  | error e =>
    obtain ⟨rfl, g2⟩ := ha
    have G2 : Hid (Grew w w9) := g2
    clear g2 D
    go_wp2_with fail
    go_ret2
    exact ⟨rfl, G2.out⟩
  | ok m =>
    obtain ⟨rv, rfl, r2, g2⟩ := ha
    have F2 : Hid (w9.ownsRow w.heap.size 5 1 rv m.length (U8 m) ∧ Grew w w9) := ⟨r2, g2⟩
    obtain ⟨ra, rc, rfl⟩ := row_one r2
    clear r2 g2 D
    go_wp2_with fail
    go_ret2
    exact ⟨_, rfl, F2.out⟩
set_option maxRecDepth 100000 in
set_option maxHeartbeats 2000000 in
theorem blk_c (w : World) (t n hp : Int) (nul : Bool) (ht0 : -9223372036854775808 ≤ t) (ht1 : t ≤ 9223372036854775807) (hn0 : -9223372036854775808 ≤ hp) (hn1 : hp ≤ 9223372036854775807) (hz : noneB ⟨n, nul, hp⟩ = false) (h0 : 0 ≤ t) :
    Calls Tryd.prog 12 #[.agg #[.int .i64 t, .int .i64 n, .bool nul, .int .i64 hp]] w (PAns w (blkW t ⟨n, nul, hp⟩)) := by
  obtain ⟨R, hR⟩ : ∃ R, R = blkW t ⟨n, nul, hp⟩ := ⟨_, rfl⟩
  rw [← hR]
  have E : Hid (thenW (thenW (.ok []) (needW false 4)) (.ok (PS t)) = R) := by
    show _ = _
    rw [hR]
    rw [thenW_no, thenW_l, blkW, if_neg (by omega), if_neg (by rw [hz]; simp)]
  clear hR
  have d0 : decide (0 ≤ t) = true := by simpa using h0
  have hnb := hz
  have S0 : Hid (DW (w.heap.size + 1) (w.heap.size + 1 + 1) ((w.alloc (.cells #[.int .i64 t, .int .i64 n, .bool nul, .int .i64 hp] 25)).alloc (.cells #[.slice none 0 0, .int .i64 0] 79)) (.ok []) 0) := by
    have := dw_new (w.alloc (.cells #[.int .i64 t, .int .i64 n, .bool nul, .int .i64 hp] 25))
    rw [alloc_size] at this
    exact this
  have G0 : Hid (Grew w ((w.alloc (.cells #[.int .i64 t, .int .i64 n, .bool nul, .int .i64 hp] 25)).alloc (.cells #[.slice none 0 0, .int .i64 0] 79))) := ((Grew.refl w).alloc _).alloc _
  have hbx : Hid (((w.alloc (.cells #[.int .i64 t, .int .i64 n, .bool nul, .int .i64 hp] 25)).alloc (.cells #[.slice none 0 0, .int .i64 0] 79)).heap[w.heap.size]? = some (.cells #[.int .i64 t, .int .i64 n, .bool nul, .int .i64 hp] 25 (0, 0))) := heap_alloc (heap_alloc_last w _) _
  have hnP : w.heap.size ≠ w.heap.size + 1 := by omega
  have heq := eqV n 0 hp 0 nul false
  have hE : Hid (noneB ⟨n, nul, hp⟩ = (n == 0 && (nul == false && hp == 0))) := rfl
  rw [← hE.out] at heq
  generalize noneB ⟨n, nul, hp⟩ = nb at *
  clear hE
  go_enter Tryd.func12, Tryd.ntmps12
  go_wp2_with fail
  refine (must_any S0.out false 4 (by decide)).mono ?_
  rintro en w1 ⟨rfl, t1, s1⟩
  have G1 : Hid (Grew w w1) := t1.grew0 G0.out (by omega) (by omega)
  have S1 : Hid (DW (w.heap.size + 1) (w.heap.size + 1 + 1) w1 (thenW (.ok []) (needW false 4)) 0) := s1
  have bx1 : w1.heap[w.heap.size]? = some (.cells #[.int .i64 t, .int .i64 n, .bool nul, .int .i64 hp] 25 (0, 0)) := t1.other hbx.out hnP (NoT.of hbx.out (by decide))
  have f0 := cell_of bx1 0
  simp at f0
  clear t1 s1 hbx S0 bx1
  go_wp2_with fail
  refine (refPutS_any t _ ht0 ht1).mono ?_
  rintro en w6 ⟨u6, rfl, h6⟩
  have G6 : Hid (Grew w1 w6) := h6.gr
  have V6 := dw_set S1.out (need_st false) h6.gr (row_low h6.1 S1.out.le)
  have O6 : w6.heap[w.heap.size + 1]? = w1.heap[w.heap.size + 1]? := h6.2.1.block _ S1.out.blt
  obtain ⟨o1, e1, l1, q1, _, _, _⟩ := S1.out.ex
  rw [q1] at O6
  have x6 := cell_of O6 0
  have z6 := free_of O6 0
  simp at x6
  obtain ⟨ua6, uc6, hu6⟩ := h6.reads.len
  subst hu6
  have HV6 : Hid (WT (w.heap.size + 1) (w.heap.size + 1 + 1) w1 (w6.setCell ⟨w.heap.size + 1, 0, none⟩ (.slice ua6 (PS t).length uc6)) ∧ DW (w.heap.size + 1) (w.heap.size + 1 + 1) (w6.setCell ⟨w.heap.size + 1, 0, none⟩ (.slice ua6 (PS t).length uc6)) (thenW (thenW (.ok []) (needW false 4)) (.ok (PS t))) (0 + (PS t).length)) := V6
  clear V6 h6 q1 O6
  generalize PS t = P at *
  go_wp2_with fail
  have s9 := HV6.out.2
  rw [E.out] at s9
  have D := done_any s9 (HV6.out.1.grew0 G1.out (by omega) (by omega)) (by omega)
  clear s9 E
  skip
  refine D.mono ?_
  intro en w9 ha
  cases R with
  | error e =>
    obtain ⟨rfl, g2⟩ := ha
    have G2 : Hid (Grew w w9) := g2
    clear g2 D
    go_wp2_with fail
    go_ret2
    exact ⟨rfl, G2.out⟩
  | ok m =>
    obtain ⟨rv, rfl, r2, g2⟩ := ha
    have F2 : Hid (w9.ownsRow w.heap.size 5 1 rv m.length (U8 m) ∧ Grew w w9) := ⟨r2, g2⟩
    obtain ⟨ra, rc, rfl⟩ := row_one r2
    clear r2 g2 D
    go_wp2_with fail
    go_ret2
    exact ⟨_, rfl, F2.out⟩
set_option maxRecDepth 100000 in
set_option maxHeartbeats 2000000 in
theorem blk_d (w : World) (t n hp : Int) (nul : Bool) (ht0 : -9223372036854775808 ≤ t) (ht1 : t ≤ 9223372036854775807) (hn0 : -9223372036854775808 ≤ hp) (hn1 : hp ≤ 9223372036854775807) (h0 : t < -1) :
    Calls Tryd.prog 12 #[.agg #[.int .i64 t, .int .i64 n, .bool nul, .int .i64 hp]] w (PAns w (blkW t ⟨n, nul, hp⟩)) := by
  obtain ⟨R, hR⟩ : ∃ R, R = blkW t ⟨n, nul, hp⟩ := ⟨_, rfl⟩
  rw [← hR]
  have E : Hid (thenW (.ok []) (needW false 4) = R) := by
    show _ = _
    rw [hR, blkW, if_neg (by omega)]
    split
    · rw [sidxW, if_neg (by omega)]; rfl
    · rfl
  clear hR
  have d0 : decide (0 ≤ t) = false := by simp; omega
  have d1 : decide (t < -1) = true := by simpa using h0
  have S0 : Hid (DW (w.heap.size + 1) (w.heap.size + 1 + 1) ((w.alloc (.cells #[.int .i64 t, .int .i64 n, .bool nul, .int .i64 hp] 25)).alloc (.cells #[.slice none 0 0, .int .i64 0] 79)) (.ok []) 0) := by
    have := dw_new (w.alloc (.cells #[.int .i64 t, .int .i64 n, .bool nul, .int .i64 hp] 25))
    rw [alloc_size] at this
    exact this
  have G0 : Hid (Grew w ((w.alloc (.cells #[.int .i64 t, .int .i64 n, .bool nul, .int .i64 hp] 25)).alloc (.cells #[.slice none 0 0, .int .i64 0] 79))) := ((Grew.refl w).alloc _).alloc _
  have hbx : Hid (((w.alloc (.cells #[.int .i64 t, .int .i64 n, .bool nul, .int .i64 hp] 25)).alloc (.cells #[.slice none 0 0, .int .i64 0] 79)).heap[w.heap.size]? = some (.cells #[.int .i64 t, .int .i64 n, .bool nul, .int .i64 hp] 25 (0, 0))) := heap_alloc (heap_alloc_last w _) _
  have hnP : w.heap.size ≠ w.heap.size + 1 := by omega
  have heq := eqV n 0 hp 0 nul false
  have hE : Hid (noneB ⟨n, nul, hp⟩ = (n == 0 && (nul == false && hp == 0))) := rfl
  rw [← hE.out] at heq
  generalize noneB ⟨n, nul, hp⟩ = nb at *
  clear hE
  go_enter Tryd.func12, Tryd.ntmps12
  go_wp2_with fail
  refine (must_any S0.out false 4 (by decide)).mono ?_
  rintro en w1 ⟨rfl, t1, s1⟩
  rw [E.out] at s1
  have D := done_any s1 (t1.grew0 G0.out (by omega) (by omega)) (by omega)
  clear t1 s1 hbx S0
  go_wp2_with fail
  refine D.mono ?_
  intro en w9 ha
  cases R with
  | error e =>
    obtain ⟨rfl, g2⟩ := ha
    have G2 : Hid (Grew w w9) := g2
    clear g2 D
    go_wp2_with fail
    go_ret2
    exact ⟨rfl, G2.out⟩
  | ok m =>
    obtain ⟨rv, rfl, r2, g2⟩ := ha
    have F2 : Hid (w9.ownsRow w.heap.size 5 1 rv m.length (U8 m) ∧ Grew w w9) := ⟨r2, g2⟩
    obtain ⟨ra, rc, rfl⟩ := row_one r2
    clear r2 g2 D
    go_wp2_with fail
    go_ret2
    exact ⟨_, rfl, F2.out⟩
set_option maxRecDepth 100000 in
set_option maxHeartbeats 2000000 in
theorem blk_e (w : World) (t n hp : Int) (nul : Bool) (ht0 : -9223372036854775808 ≤ t) (ht1 : t ≤ 9223372036854775807) (hn0 : -9223372036854775808 ≤ hp) (hn1 : hp ≤ 9223372036854775807) (hz : noneB ⟨n, nul, hp⟩ = true) (h0 : t = -1) :
    Calls Tryd.prog 12 #[.agg #[.int .i64 t, .int .i64 n, .bool nul, .int .i64 hp]] w (PAns w (blkW t ⟨n, nul, hp⟩)) := by
  obtain ⟨R, hR⟩ : ∃ R, R = blkW t ⟨n, nul, hp⟩ := ⟨_, rfl⟩
  rw [← hR]
  have E : Hid (thenW (.ok []) (.ok [64]) = R) := by
    show _ = _
    rw [hR, blkW, if_pos h0, if_pos hz, thenW_l]
  clear hR
  subst h0
  have hnb := hz
  have S0 : Hid (DW (w.heap.size + 1) (w.heap.size + 1 + 1) ((w.alloc (.cells #[.int .i64 (-1), .int .i64 n, .bool nul, .int .i64 hp] 25)).alloc (.cells #[.slice none 0 0, .int .i64 0] 79)) (.ok []) 0) := by
    have := dw_new (w.alloc (.cells #[.int .i64 (-1), .int .i64 n, .bool nul, .int .i64 hp] 25))
    rw [alloc_size] at this
    exact this
  have G0 : Hid (Grew w ((w.alloc (.cells #[.int .i64 (-1), .int .i64 n, .bool nul, .int .i64 hp] 25)).alloc (.cells #[.slice none 0 0, .int .i64 0] 79))) := ((Grew.refl w).alloc _).alloc _
  have hbx : Hid (((w.alloc (.cells #[.int .i64 (-1), .int .i64 n, .bool nul, .int .i64 hp] 25)).alloc (.cells #[.slice none 0 0, .int .i64 0] 79)).heap[w.heap.size]? = some (.cells #[.int .i64 (-1), .int .i64 n, .bool nul, .int .i64 hp] 25 (0, 0))) := heap_alloc (heap_alloc_last w _) _
  have hnP : w.heap.size ≠ w.heap.size + 1 := by omega
  have heq := eqV n 0 hp 0 nul false
  have hE : Hid (noneB ⟨n, nul, hp⟩ = (n == 0 && (nul == false && hp == 0))) := rfl
  rw [← hE.out] at heq
  generalize noneB ⟨n, nul, hp⟩ = nb at *
  clear hE
  go_enter Tryd.func12, Tryd.ntmps12
  have hob : (((w.alloc (.cells #[.int .i64 (-1), .int .i64 n, .bool nul, .int .i64 hp] 25)).alloc (.cells #[.slice (some ⟨w.heap.size + 1 + 1, 0, none⟩) 1 1, .int .i64 0] 79)).alloc (.cells #[.int .u8 64] 5)).heap[w.heap.size + 1]? = some (dob (.slice (some ⟨w.heap.size + 1 + 1, 0, none⟩) 1 1) 0) := by
    have := heap_alloc_last (w.alloc (.cells #[.int .i64 (-1), .int .i64 n, .bool nul, .int .i64 hp] 25)) (.cells #[.slice (some ⟨w.heap.size + 1 + 1, 0, none⟩) 1 1, .int .i64 0] 79)
    rw [alloc_size] at this
    exact heap_alloc this _
  have hrow : (((w.alloc (.cells #[.int .i64 (-1), .int .i64 n, .bool nul, .int .i64 hp] 25)).alloc (.cells #[.slice (some ⟨w.heap.size + 1 + 1, 0, none⟩) 1 1, .int .i64 0] 79)).alloc (.cells #[.int .u8 64] 5)).ownsRow (w.heap.size + 1 + 1) 5 1 (.slice (some ⟨w.heap.size + 1 + 1, 0, none⟩) 1 1) [(64 : Int)].length (U8 [64]) := by
    refine ⟨rfl, Or.inr ⟨w.heap.size + 1 + 1, 1, #[.int .u8 64], rfl, Nat.le_refl _, ?_, Nat.le_refl _, by decide, rfl, rfl⟩⟩
    have := heap_alloc_last ((w.alloc (.cells #[.int .i64 (-1), .int .i64 n, .bool nul, .int .i64 hp] 25)).alloc (.cells #[.slice (some ⟨w.heap.size + 1 + 1, 0, none⟩) 1 1, .int .i64 0] 79)) (.cells #[.int .u8 64] 5)
    rw [alloc_size, alloc_size] at this
    exact this
  have s9 : DW (w.heap.size + 1) (w.heap.size + 1 + 1) (((w.alloc (.cells #[.int .i64 (-1), .int .i64 n, .bool nul, .int .i64 hp] 25)).alloc (.cells #[.slice (some ⟨w.heap.size + 1 + 1, 0, none⟩) 1 1, .int .i64 0] 79)).alloc (.cells #[.int .u8 64] 5)) (thenW (.ok []) (.ok [64])) 1 := ⟨⟨_, _, [64], hob, hrow, Nat.le_refl _, rfl, rfl⟩, by omega, by simp⟩
  rw [E.out] at s9
  have D := done_any s9 ((((Grew.refl w).alloc _).alloc _).alloc _) (by omega)
  clear hrow hob hbx s9 E S0
  go_wp2_with fail
  skip
  refine D.mono ?_
  intro en w9 ha
  cases R with
  | error e =>
    obtain ⟨rfl, g2⟩ := ha
    have G2 : Hid (Grew w w9) := g2
    clear g2 D
    go_wp2_with fail
    go_ret2
    exact ⟨rfl, G2.out⟩
  | ok m =>
    obtain ⟨rv, rfl, r2, g2⟩ := ha
    have F2 : Hid (w9.ownsRow w.heap.size 5 1 rv m.length (U8 m) ∧ Grew w w9) := ⟨r2, g2⟩
    obtain ⟨ra, rc, rfl⟩ := row_one r2
    clear r2 g2 D
    go_wp2_with fail
    go_ret2
    exact ⟨_, rfl, F2.out⟩
set_option maxRecDepth 100000 in
set_option maxHeartbeats 2000000 in
theorem blk_f (w : World) (t n hp : Int) (nul : Bool) (ht0 : -9223372036854775808 ≤ t) (ht1 : t ≤ 9223372036854775807) (hn0 : -9223372036854775808 ≤ hp) (hn1 : hp ≤ 9223372036854775807) (hz : noneB ⟨n, nul, hp⟩ = false) (h0 : t = -1) :
    Calls Tryd.prog 12 #[.agg #[.int .i64 t, .int .i64 n, .bool nul, .int .i64 hp]] w (PAns w (blkW t ⟨n, nul, hp⟩)) := by
  obtain ⟨R, hR⟩ : ∃ R, R = blkW t ⟨n, nul, hp⟩ := ⟨_, rfl⟩
  rw [← hR]
  have E : Hid (thenW (.ok []) (svW false ⟨n, nul, hp⟩) = R) := by
    show _ = _
    rw [hR, blkW, if_pos h0, if_neg (by rw [hz]; simp), thenW_l]
    rfl
  clear hR
  subst h0
  have hnb := hz
  have S0 : Hid (DW (w.heap.size + 1) (w.heap.size + 1 + 1) ((w.alloc (.cells #[.int .i64 (-1), .int .i64 n, .bool nul, .int .i64 hp] 25)).alloc (.cells #[.slice none 0 0, .int .i64 0] 79)) (.ok []) 0) := by
    have := dw_new (w.alloc (.cells #[.int .i64 (-1), .int .i64 n, .bool nul, .int .i64 hp] 25))
    rw [alloc_size] at this
    exact this
  have G0 : Hid (Grew w ((w.alloc (.cells #[.int .i64 (-1), .int .i64 n, .bool nul, .int .i64 hp] 25)).alloc (.cells #[.slice none 0 0, .int .i64 0] 79))) := ((Grew.refl w).alloc _).alloc _
  have hbx : Hid (((w.alloc (.cells #[.int .i64 (-1), .int .i64 n, .bool nul, .int .i64 hp] 25)).alloc (.cells #[.slice none 0 0, .int .i64 0] 79)).heap[w.heap.size]? = some (.cells #[.int .i64 (-1), .int .i64 n, .bool nul, .int .i64 hp] 25 (0, 0))) := heap_alloc (heap_alloc_last w _) _
  have hnP : w.heap.size ≠ w.heap.size + 1 := by omega
  have heq := eqV n 0 hp 0 nul false
  have hE : Hid (noneB ⟨n, nul, hp⟩ = (n == 0 && (nul == false && hp == 0))) := rfl
  rw [← hE.out] at heq
  generalize noneB ⟨n, nul, hp⟩ = nb at *
  clear hE
  go_enter Tryd.func12, Tryd.ntmps12
  have C := dwVal_any S0.out ⟨n, nul, hp⟩ false ⟨hn0, hn1⟩ (by omega)
  rw [E.out] at C
  unfold VT.v vt at C
  simp only at C
  clear hbx
  go_wp2_with fail
  refine C.mono ?_
  rintro en w1 ⟨rfl, t1, s1⟩
  have D := done_any s1 (t1.grew0 G0.out (by omega) (by omega)) (by omega)
  clear t1 s1 C S0
  go_wp2_with fail
  refine D.mono ?_
  intro en w9 ha
  cases R with
  | error e =>
    obtain ⟨rfl, g2⟩ := ha
    have G2 : Hid (Grew w w9) := g2
    clear g2 D
    go_wp2_with fail
    go_ret2
    exact ⟨rfl, G2.out⟩
  | ok m =>
    obtain ⟨rv, rfl, r2, g2⟩ := ha
    have F2 : Hid (w9.ownsRow w.heap.size 5 1 rv m.length (U8 m) ∧ Grew w w9) := ⟨r2, g2⟩
    obtain ⟨ra, rc, rfl⟩ := row_one r2
    clear r2 g2 D
    go_wp2_with fail
    go_ret2
    exact ⟨_, rfl, F2.out⟩
theorem dPutBlk_any (w : World) (t n hp : Int) (nul : Bool) (ht0 : -9223372036854775808 ≤ t) (ht1 : t ≤ 9223372036854775807) (hn0 : -9223372036854775808 ≤ hp) (hn1 : hp ≤ 9223372036854775807) :
    Calls Tryd.prog 12 #[.agg #[.int .i64 t, .int .i64 n, .bool nul, .int .i64 hp]] w (PAns w (blkW t ⟨n, nul, hp⟩)) := by
  cases hz : noneB ⟨n, nul, hp⟩ with
  | true =>
    by_cases h0 : 0 ≤ t
    · by_cases h1 : t ≤ 2147483647
      · exact blk_a w t n hp nul ht0 ht1 hn0 hn1 hz h0 h1
      · exact blk_b w t n hp nul ht0 ht1 hn0 hn1 hz h0 (by omega)
    · by_cases h1 : t = -1
      · exact blk_e w t n hp nul ht0 ht1 hn0 hn1 hz h1
      · exact blk_d w t n hp nul ht0 ht1 hn0 hn1 (by omega)
  | false =>
    by_cases h0 : 0 ≤ t
    · exact blk_c w t n hp nul ht0 ht1 hn0 hn1 hz h0
    · by_cases h1 : t = -1
      · exact blk_f w t n hp nul ht0 ht1 hn0 hn1 hz h1
      · exact blk_d w t n hp nul ht0 ht1 hn0 hn1 (by omega)
end Go.Proofs.YtbhbogfdnaadeaaDoor

namespace Go.Proofs.YtbhbogfdnaadeaaDoor
open Go.RowKit
set_option linter.unusedVariables false
set_option linter.unusedSimpArgs false
set_option linter.constructorNameAsVariable false

def tagW (n : Int) : Except Nat (List Int) := thenW (.ok [0]) (uidxW n)
/- An append to a row of one byte that has no room: a new row. -/
theorem step_appT {w : World} {ops : Array Oper} {o : Oper} {a : Act} {K : Act → World → Prop} {Q : Exit → Act → World → Prop} {E : Prop} (hgd : o.guard = none) (s x : Operand)
    (ho : o.op = .call { callee := .builtin .append, args := #[s, x], argTypes := #[32, 32] }) {r : Nat} {u : Value} {P : List Int}
    (hs : a.eval s = .slice (some ⟨r, 0, none⟩) 1 1) (hx : a.eval x = u) (hc : w.cell? ⟨r, 0, none⟩ = some (.int .u8 0)) (hR : Reads w u P) (hP0 : P ≠ []) (hP : P.length ≤ 1000)
    (h : ∀ v' w', w'.ownsRow w.heap.size 5 1 v' (0 :: P).length (U8 (0 :: P)) → w.grownBy w' none → K (a.put o.dst v') w') :
    if Region.wanted o (yielded ops a.tmps) = true then Oper.wp Tryd.prog o a w K Q else E := by
  have hw : Region.wanted o (yielded ops a.tmps) = true := by simp [Region.wanted, hgd]
  rw [if_pos hw]
  obtain ⟨i0, hi, hz0, hz1, hz2⟩ := info_parts infoB
  obtain ⟨ad, cap, hu, _, _, hn, hr⟩ := hR
  rcases hr with rfl | ⟨b, off, rfl, hcl⟩
  · exact absurd rfl hP0
  · have hl : 0 < P.length := List.length_pos_iff.2 hP0
    obtain ⟨v', w', hr, h2, h3⟩ := run_append_arg_grows (P := Tryd.prog) w 32 o.type 5 i0 (.int .u8 0) 1 1 Tryd.underlying32 hi hz0 hz1 hz2 rfl (by decide) ⟨r, 0, none⟩ 1 1 [.int .u8 0] rfl (fun j z hz => by
        match j, hz with
        | 0, hz => simp at hz; subst hz; simpa [Addr.add] using hc) ⟨b, off, none⟩ P.length cap (U8 P) (by simp [U8]) (fun j z hz => by
        obtain ⟨hj, hz⟩ := List.getElem?_eq_some_iff.1 hz
        have hj' : j < P.length := by simpa [U8] using hj
        have := hcl j hj'
        have e : (Addr.add ⟨b, off, none⟩ j) = ⟨b, off + j, none⟩ := by simp [Addr.add]
        rw [e, this, ← hz]
        simp [U8, List.getD, hj']) (by omega) (by unfold maxLen; omega) (by omega)
    unfold Oper.wp execOp
    have hx' : a.eval x = .slice (some ⟨b, off, none⟩) P.length cap := hx.trans hu
    simp only [ho, resolve, invoke, builtin, Sem.run_bind, Sem.run_pure, Result.andThen_ok, List.map_toArray, List.map_cons, List.map_nil, hs, hx', hr]
    refine h v' w' ?_ h3
    have e : (0 :: P).length = 1 + P.length := by simp [Nat.add_comm]
    rw [e]
    exact h2
set_option maxRecDepth 100000 in
theorem mustT_yes {b : Nat} {w : World} (k : Int) : Calls Tryd.prog 39 #[.pointer (some ⟨b, 0, none⟩), .bool true, .int .i64 k] w fun en w' => en = .returned (.tuple #[]) ∧ w' = w := by
  go_enter Tryd.func39, Tryd.ntmps39
  go_wp2_with fail
  go_end0
  exact ⟨rfl, rfl⟩
set_option maxRecDepth 100000 in
theorem mustT_no {b : Nat} {w : World} {o : Value} (h : w.heap[b]? = some (dob o 0)) (k : Int) : Calls Tryd.prog 39 #[.pointer (some ⟨b, 0, none⟩), .bool false, .int .i64 k] w fun en w' => en = .returned (.tuple #[]) ∧ w' = w.setCell ⟨b, 1, none⟩ (.int .i64 k) := by
  have c1 := cell_of h 1
  have z1 := free_of h 1
  simp at c1
  have hb : b < w.heap.size := lt_of_obj h
  clear h
  go_enter Tryd.func39, Tryd.ntmps39
  go_wp2_with fail
  go_end0
  exact ⟨rfl, rfl⟩
/- The writer at b holds the byte 0 in a row of one, and this error. -/
def TS (b r : Nat) (w : World) (k : Nat) : Prop := w.heap[b]? = some (dob (.slice (some ⟨r, 0, none⟩) 1 1) (k : Int)) ∧ w.heap[r]? = some (.cells #[.int .u8 0] 5 (0, 0)) ∧ r ≠ b
set_option maxRecDepth 100000 in
set_option maxHeartbeats 1000000 in
theorem duT {b r k : Nat} {w : World} (h : TS b r w k) (n : Int) (h0 : 0 ≤ n) (h1 : n ≤ 18446744073709551615) :
    Calls Tryd.prog 58 #[.pointer (some ⟨b, 0, none⟩), .int .u64 n] w (DA b (b + 1) w (if k = 0 then .ok (0 :: PU n) else .error k) 12) := by
  obtain ⟨g1, g2, hne0⟩ := h
  obtain ⟨sk, hsk⟩ : ∃ sk : Except Nat (List Int), sk = if k = 0 then .ok (0 :: PU n) else .error k := ⟨_, rfl⟩
  rw [← hsk]
  have HSK : Hid (sk = if k = 0 then .ok (0 :: PU n) else .error k) := hsk
  clear hsk
  have hb : b < w.heap.size := lt_of_obj g1
  have c0 := cell_of g1 0
  simp at c0
  have O : Hid (w.heap[b]? = some (dob (.slice (some ⟨r, 0, none⟩) 1 1) (k : Int))) := g1
  have OR : Hid (w.heap[r]? = some (.cells #[.int .u8 0] 5 (0, 0))) := g2
  have hP := PU_len n
  obtain ⟨pc, pr, hpc⟩ : ∃ c r, PU n = c :: r := by unfold PU; rw [putU]; split <;> exact ⟨_, _, rfl⟩
  have hne : Hid (PU n ≠ []) := by show _ ≠ _; rw [hpc]; simp
  have CP : Hid (∀ w', Grew w w' → Calls Tryd.prog 90 #[.int .u64 n] w' fun en w'' => ∃ u, en = .returned u ∧ Has w'.heap.size w' w'' u (PU n)) := fun w' _ => refPutU_any n w' h0 h1
  clear g1 g2 hpc h0 h1
  generalize PU n = P at *
  go_enter Tryd.func58, Tryd.ntmps58
  go_wp2_with fail
  go_region_law (first
    | (refine step_rputU (.tmp 9) rfl rfl rfl (CP.out _ (by first | exact Grew.refl _ | exact (Grew.refl _).drew | exact (Grew.refl _).drewN _)) ?_
       rintro en w6 ⟨u6, rfl, h6⟩
       refine ⟨_, rfl, ?_⟩
       have G6 : Hid (Grew w w6) := (by first | exact h6.gr | exact ((Grew.refl _).drew).trans h6.gr | exact ((Grew.refl _).drewN _).trans h6.gr)
       have O6 : Hid (w6.heap[b]? = some (dob (.slice (some ⟨r, 0, none⟩) 1 1) (k : Int))) := (G6.out.turn []).other O.out (by simp)
       have OR6 : Hid (w6.heap[r]? = some (.cells #[.int .u8 0] 5 (0, 0))) := (G6.out.turn []).other OR.out (by simp)
       have R6 : Hid (Reads w6 u6 P) := h6.reads
       have e6 := cell_of O6.out 0
       simp at e6
       obtain ⟨ua6, uc6, hu6⟩ := h6.reads.len
       subst hu6
       clear h6)
    | (refine step_appT (r := r) (u := .slice ua6 P.length uc6) (P := P) rfl (.tmp 8) (.tmp 10) rfl rfl rfl (by have := cell_of OR6.out 0; simpa using this) (by first | exact R6.out | exact R6.out.below (Grew.refl _).drew.1) hne.out (by omega) ?_
       intro v7 w7 I7 t7
       obtain ⟨a7, c7, hv7⟩ := row_one I7
       subst hv7
       have o7 : w7.heap[b]? = some (dob (.slice (some ⟨r, 0, none⟩) 1 1) (k : Int)) := (t7.block b (lt_of_obj O6.out) (by simp)).trans O6.out
       have O7 : Hid (w7.heap[b]? = some (dob (.slice (some ⟨r, 0, none⟩) 1 1) (k : Int))) := o7
       have W7 : Hid (WT b (b + 1) w6 w7) := ⟨t7.os, t7.tape, t7.output, t7.size, fun q hq _ _ => t7.block q hq (by simp)⟩
       have I7' : Hid (w7.ownsRow w6.heap.size 5 1 (.slice a7 (0 :: P).length c7) (0 :: P).length (U8 (0 :: P))) := I7
       have q7 := cell_of o7 0
       have z7 := free_of o7 0
       simp at q7
       clear t7 I7 o7))
  all_goals
    go_wp2_with fail
    go_end0
    have t8 := (((WT.of_grew G6.out).trans W7.out).trans (WT.setb (b := b) (B := b + 1) w7 0 (.slice a7 (P.length + 1) c7)))
    have hs6 : b < w6.heap.size := lt_of_obj O6.out
    refine ⟨rfl, t8, ⟨.slice a7 (P.length + 1) c7, (k : Int), 0 :: P, by rw [heap_set O7.out]; rfl, row_low (row_set I7'.out (NoT.of O7.out (by decide)) _) (by omega), by simp; omega, ?_⟩, by omega, by have := t8.size; omega⟩
    rw [HSK.out]
    by_cases hk : k = 0
    · rw [if_pos hk, hk]; exact ⟨rfl, rfl⟩
    · rw [if_neg hk]; exact ⟨rfl, hk⟩
set_option maxRecDepth 100000 in
theorem doneT {b : Nat} {w : World} {o : Value} {k : Nat} (h : w.heap[b]? = some (dob o (k : Int))) (hk : k ≠ 0) :
    Calls Tryd.prog 33 #[.pointer (some ⟨b, 0, none⟩)] w fun en w' => en = .returned (.tuple #[.slice none 0 0, .int .i64 (k : Int)]) ∧ Grew w w' := by
  have c1 := cell_of h 1
  simp at c1
  have hb : b < w.heap.size := lt_of_obj h
  have d : ((k : Int) != 0) = true := by simp; exact hk
  clear h hk
  go_enter Tryd.func33, Tryd.ntmps33
  go_wp2_with fail
  go_region
  all_goals
    go_wp2_with fail
    go_ret2
    exact ⟨rfl, (Grew.refl _).drew⟩
theorem TS.bad {b r : Nat} {w : World} (h : TS b r w 0) : TS b r (w.setCell ⟨b, 1, none⟩ (.int .i64 4)) 4 :=
  ⟨by rw [heap_set h.1]; rfl, heap_other h.2.1 h.2.2 _, h.2.2⟩
set_option maxRecDepth 100000 in
set_option maxHeartbeats 1000000 in
theorem indexT_in {b r : Nat} {w : World} (h : TS b r w 0) (n : Int) (h0 : 0 ≤ n) (h1 : n ≤ 2147483647) :
    Calls Tryd.prog 49 #[.pointer (some ⟨b, 0, none⟩), .int .i64 n] w (DA b (b + 1) w (tagW n) 12) := by
  have E : Hid ((if (0 : Nat) = 0 then .ok (0 :: PU n) else .error 0 : Except Nat (List Int)) = tagW n) := by
    show _ = _
    rw [if_pos rfl, tagW, uidxW, if_pos ⟨h0, h1⟩]
    rfl
  have C := duT h n h0 (by omega)
  rw [E.out] at C
  have cv : IntKind.u64.wrap n = n := by rw [IntKind.wrap_u64]; omega
  have d0 : decide (0 ≤ n) = true := by simpa using h0
  have d1 : decide (n < 2147483648) = true := by simp; omega
  clear h
  go_enter Tryd.func49, Tryd.ntmps49
  go_wp2_with fail
  refine (mustT_yes 4).mono ?_
  rintro en w1 ⟨rfl, hw⟩
  obtain rfl := hw.symm
  go_wp2_with fail
  refine C.mono ?_
  rintro en w2 ⟨rfl, F⟩
  have HF : Hid _ := F
  clear F C
  go_wp2_with fail
  go_end0
  exact ⟨rfl, HF.out⟩
set_option maxRecDepth 100000 in
set_option maxHeartbeats 1000000 in
theorem indexT_out {b r : Nat} {w : World} (h : TS b r w 0) (n : Int) (h0 : 0 ≤ n) (h1 : 2147483647 < n) (h2 : n ≤ 9223372036854775807) :
    Calls Tryd.prog 49 #[.pointer (some ⟨b, 0, none⟩), .int .i64 n] w (DA b (b + 1) w (tagW n) 12) := by
  have E : Hid ((if (4 : Nat) = 0 then .ok (0 :: PU n) else .error 4 : Except Nat (List Int)) = tagW n) := by
    show _ = _
    rw [if_neg (by decide), tagW, uidxW, if_neg (by omega)]
    rfl
  have C := duT h.bad n h0 (by omega)
  rw [E.out] at C
  have cv : IntKind.u64.wrap n = n := by rw [IntKind.wrap_u64]; omega
  have d0 : decide (0 ≤ n) = true := by simpa using h0
  have d1 : decide (n < 2147483648) = false := by simp; omega
  have M := mustT_no h.1 4
  clear h
  go_enter Tryd.func49, Tryd.ntmps49
  go_wp2_with fail
  refine M.mono ?_
  rintro en w1 ⟨rfl, hw⟩
  have HW : Hid (w1 = w.setCell ⟨b, 1, none⟩ (.int .i64 4)) := hw
  rw [← hw] at C
  clear hw M
  go_wp2_with fail
  refine C.mono ?_
  rintro en w2 ⟨rfl, F⟩
  have HF : Hid (WT b (b + 1) w1 w2 ∧ DW b (b + 1) w2 (tagW n) 12) := F
  clear F C
  go_wp2_with fail
  go_end0
  refine ⟨rfl, ?_, HF.out.2⟩
  have t := HF.out.1
  rw [HW.out] at t
  exact (WT.setb w 1 _).trans t
set_option maxRecDepth 100000 in
set_option maxHeartbeats 1000000 in
theorem indexT_neg {b r : Nat} {w : World} (h : TS b r w 0) (n : Int) (h0 : n < 0) :
    Calls Tryd.prog 49 #[.pointer (some ⟨b, 0, none⟩), .int .i64 n] w fun en w' => en = .returned (.tuple #[]) ∧ w' = w.setCell ⟨b, 1, none⟩ (.int .i64 4) := by
  have d0 : decide (0 ≤ n) = false := by simp; omega
  have M := mustT_no h.1 4
  clear h
  go_enter Tryd.func49, Tryd.ntmps49
  go_wp2_with fail
  refine M.mono ?_
  rintro en w1 ⟨rfl, hw⟩
  have HW : Hid (w1 = w.setCell ⟨b, 1, none⟩ (.int .i64 4)) := hw
  clear hw M
  go_wp2_with fail
  go_end0
  exact ⟨rfl, HW.out⟩
set_option maxRecDepth 100000 in
set_option maxHeartbeats 1000000 in
theorem dPutTag_any (w : World) (n : Int) (hn0 : -9223372036854775808 ≤ n) (hn1 : n ≤ 9223372036854775807) : Calls Tryd.prog 18 #[.int .i64 n] w (PAns w (tagW n)) := by
  have ht : TS (w.heap.size + 1) w.heap.size ((w.alloc (.cells #[.int .u8 0] 5)).alloc (.cells #[.slice (some ⟨w.heap.size, 0, none⟩) 1 1, .int .i64 0] 79)) 0 := by
    refine ⟨?_, heap_alloc (heap_alloc_last w _) _, by omega⟩
    have := heap_alloc_last (w.alloc (.cells #[.int .u8 0] 5)) (.cells #[.slice (some ⟨w.heap.size, 0, none⟩) 1 1, .int .i64 0] 79)
    rw [alloc_size] at this
    exact this
  have G0 : Hid (Grew w ((w.alloc (.cells #[.int .u8 0] 5)).alloc (.cells #[.slice (some ⟨w.heap.size, 0, none⟩) 1 1, .int .i64 0] 79))) := ((Grew.refl w).alloc _).alloc _
  obtain ⟨R, hR⟩ : ∃ R, R = tagW n := ⟨_, rfl⟩
  rw [← hR]
  by_cases h0 : 0 ≤ n
  · have C : Calls Tryd.prog 49 #[.pointer (some ⟨w.heap.size + 1, 0, none⟩), .int .i64 n] ((w.alloc (.cells #[.int .u8 0] 5)).alloc (.cells #[.slice (some ⟨w.heap.size, 0, none⟩) 1 1, .int .i64 0] 79)) (DA (w.heap.size + 1) (w.heap.size + 1 + 1) ((w.alloc (.cells #[.int .u8 0] 5)).alloc (.cells #[.slice (some ⟨w.heap.size, 0, none⟩) 1 1, .int .i64 0] 79)) R 12) := by
      rw [hR]
      by_cases h1 : n ≤ 2147483647
      · exact indexT_in ht n h0 h1
      · exact indexT_out ht n h0 (by omega) hn1
    clear ht hR
    go_enter Tryd.func18, Tryd.ntmps18
    go_wp2_with fail
    refine C.mono ?_
    rintro en w1 ⟨rfl, t1, s1⟩
    have D := done_any s1 (t1.grew0 G0.out (by omega) (by omega)) (by omega)
    clear t1 s1 C
    go_wp2_with fail
    refine D.mono ?_
    intro en w9 ha
    cases R with
    | error e =>
      obtain ⟨rfl, g2⟩ := ha
      have G2 : Hid (Grew w w9) := g2
      clear g2 D
      go_wp2_with fail
      go_ret2
      exact ⟨rfl, G2.out⟩
    | ok m =>
      obtain ⟨rv, rfl, r2, g2⟩ := ha
      have F2 : Hid (w9.ownsRow w.heap.size 5 1 rv m.length (U8 m) ∧ Grew w w9) := ⟨r2, g2⟩
      obtain ⟨ra, rc, rfl⟩ := row_one r2
      clear r2 g2 D
      go_wp2_with fail
      go_ret2
      exact ⟨_, rfl, F2.out⟩
  · have C := indexT_neg ht n (by omega)
    have hb := ht.bad.1
    have E : R = .error 4 := by rw [hR, tagW, uidxW, if_neg (by omega)]; rfl
    subst E
    have G1 : Hid (Grew w (((w.alloc (.cells #[.int .u8 0] 5)).alloc (.cells #[.slice (some ⟨w.heap.size, 0, none⟩) 1 1, .int .i64 0] 79)).setCell ⟨w.heap.size + 1, 1, none⟩ (.int .i64 4))) := G0.out.set (p := ⟨w.heap.size + 1, 1, none⟩) (by simp) _
    clear ht hR
    go_enter Tryd.func18, Tryd.ntmps18
    go_wp2_with fail
    refine C.mono ?_
    rintro en w1 ⟨rfl, hw⟩
    rw [← hw] at hb G1
    have D := doneT (k := 4) hb (by decide)
    clear hw C hb
    go_wp2_with fail
    refine D.mono ?_
    rintro en w9 ⟨rfl, g2⟩
    have G2 : Hid (Grew w w9) := G1.out.trans g2
    clear g2 D
    go_wp2_with fail
    go_ret2
    exact ⟨rfl, G2.out⟩
end Go.Proofs.YtbhbogfdnaadeaaDoor
